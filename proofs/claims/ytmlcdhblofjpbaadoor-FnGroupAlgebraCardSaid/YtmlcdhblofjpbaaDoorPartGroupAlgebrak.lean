/- Texts joined: MergeI RefI Tab VK In Fmt VFint FGroupS JoinT FGroupI. -/
import Derived.Test.YtmlcdhblofjpbaaDoorPartGroupAlgebraj
import Derived.Test.YtmlcdhblofjpbaaDoorRows
import Derived.Test.YtmlcdhblofjpbaaDoorShelf
import Derived.Stop.LaidErr
import Derived.Stop.Joined
import Derived.LaidMore
import Derived.Lib.LaidTab
import Derived.Lib.SmallJoins
import Derived.Lib.ItoaNum
/- The program's MergeGroups: groups gathered in a map, sorted by their keys. -/
namespace Go.Proofs.YtmlcdhblofjpbaaDoor
open Go Go.RowKit Go.Maps
set_option linter.unusedVariables false
theorem args_of {w : World} {g : GroupD} {j : Nat} {t : V.T} {u : Value} (h1 : (tGroup g)[j]? = some t) (h2 : g.cells[j]? = some u) : V.Inn (V.Env.of w).old w t u := by
  have hj : j < 5 := by simpa [GroupD.cells] using (List.getElem?_eq_some_iff.1 h2).1
  match j, hj, h1, h2 with
  | 0, _, h1, h2 => cases h1; cases h2; exact .lit rfl
  | 1, _, h1, h2 => cases h1; cases h2; exact .lit rfl
  | 2, _, h1, h2 => cases h1; cases h2; exact .lit rfl
  | 3, _, h1, h2 => cases h1; cases h2; exact .lit rfl
  | 4, _, h1, h2 => cases h1; cases h2; exact .lit rfl
theorem own_lit {w : World} {B : Nat} {u v : Value} {F : Nat → Prop} (h : V.Own w B (.lit u) v F) : v = u := by cases h; rfl
theorem icomb (a b : GroupD) (w : World) : Calls Tryd.prog 22 #[a.val, b.val] w fun e w' => e = .returned (GroupD.comb a b).val ∧ Below w.heap.size w w' := by
  refine (vcomb_i a b w [a.val, b.val] ⟨rfl, fun c ag ts v h1 h2 => ?_⟩).mono fun e w' h => ?_
  · match c, h1, h2 with
    | 0, h1, h2 => cases h1; cases h2; exact ⟨a.cells, rfl, rfl, fun j t u h3 h4 => args_of h3 h4⟩
    | 1, h1, h2 => cases h1; cases h2; exact ⟨b.cells, rfl, rfl, fun j t u h3 h4 => args_of h3 h4⟩
  · obtain ⟨uss, F, h1, h2, h3, -, -, h4⟩ := h
    match uss, h1 with
    | [us], _ =>
      obtain ⟨h5, h6⟩ := h3 0 true (tGroup (GroupD.comb a b)) us rfl rfl
      match us, h5 with
      | [u0, u1, u2, u3, u4], _ =>
        have e0 := own_lit (h6 0 _ u0 rfl rfl)
        have e1 := own_lit (h6 1 _ u1 rfl rfl)
        have e2 := own_lit (h6 2 _ u2 rfl rfl)
        have e3 := own_lit (h6 3 _ u3 rfl rfl)
        have e4 := own_lit (h6 4 _ u4 rfl rfl)
        subst e0 e1 e2 e3 e4
        exact ⟨h2, ⟨h4.os, h4.tape, h4.output, h4.size, fun k hk => h4.block k ⟨hk, fun h => h⟩⟩⟩
/-- A slice of groups that may be read. -/
def InG (w : World) (a : Option Addr) (L : List GroupD) : Prop := ∃ b o, (L ≠ [] → a = some ⟨b, o, none⟩ ∧ b < w.heap.size) ∧ ∀ k g, L[k]? = some g → w.cell? ⟨b, o + k * 5, none⟩ = some (.int .i64 g.fKey) ∧ w.cell? ⟨b, o + k * 5 + 1, none⟩ = some (.int .i64 g.fCount) ∧ w.cell? ⟨b, o + k * 5 + 2, none⟩ = some (.int .i64 g.fSum) ∧ w.cell? ⟨b, o + k * 5 + 3, none⟩ = some (.int .i64 g.fMin) ∧ w.cell? ⟨b, o + k * 5 + 4, none⟩ = some (.int .i64 g.fMax)
theorem gvalues (mb : Option Nat) (w : World) : Calls Tryd.prog 56 #[.map mb] w fun e w' => e = .returned (.func (.func 96) #[] #[.pointer (some ⟨w.heap.size, 0, none⟩)]) ∧ w' = w.alloc (.cells #[.map mb] 80) := by
  go_enter Tryd.func56, Tryd.ntmps56
  go_wp2_with fail
  go_ret
  exact ⟨rfl, rfl⟩
theorem zeroGroup (w : World) : (zeroValue 33).run Tryd.prog w = .ok (GroupD.val ⟨0, 0, 0, 0, 0⟩) w := Tryd.zeroValue33 w
theorem OwnM.look {w : World} {b n : Nat} {D : DataW Unit} {M : List GroupD} (h : OwnM w b n D) (hA : AtG D M) (x : Int) (hx : (Lit.int .i64 x).wf = true) :
    ∃ v0 : GroupD, (Instr.lookup 80 (.map (some b)) (.int .i64 x) true).run Tryd.prog w = .ok (.tuple #[.agg #[.int .i64 v0.fKey, .int .i64 v0.fCount, .int .i64 v0.fSum, .int .i64 v0.fMin, .int .i64 v0.fMax], .bool (GroupD.get x M).isSome]) w ∧ ∀ h, GroupD.get x M = some h → v0 = h := by
  obtain ⟨v, ps, hrun, hv⟩ := h.look_ok intKeyed Tryd.underlying80 (zeroGroup w) (rG_val _) (keyOf_int_mk Tryd.underlying3 hx)
  obtain ⟨g, rfl, hg⟩ := rG_inv hv
  rw [(hA x).1] at hrun
  refine ⟨g, hrun, fun h' hh => ?_⟩
  have e1 := (hA x).2 h' hh (datG ⟨0, 0, 0, 0, 0⟩)
  have e2 : D.atKey (.int .i64 x) (datG ⟨0, 0, 0, 0, 0⟩) = datG g := (Prod.mk.inj hg).1
  exact datG_inj (e2.symm.trans e1)
theorem wpList_store_own {P : Program} {w : World} {ops : Array Oper} {rest : List Oper} {o : Oper} {a : Act} {Q : Exit → Act → World → Prop} (hg : o.guard = none) (x y : Operand) (ty : TypeId) (hop : o.op = .store ty x y) (p : Addr) (v : Value) (hx : a.eval x = .pointer (some p)) (hv : a.eval y = v) (w4 : World) (hst : (storeVar ty p v).run P w = .ok () w4)
    (hK : wpList P ops Q rest (a.put o.dst undef) w4) : wpList P ops Q (o :: rest) a w :=
  wpList_plain hg fun K hK' => V.wp_skipped (by simp [execOp, hop, hx, hv, Instr.storeAt, Instr.sureAddr, hst, Result.andThen]) (hK' _ _ hK)
set_option maxRecDepth 100000 in
set_option maxHeartbeats 2000000 in
theorem imerge (a : Option Addr) (cap : Nat) (L : List GroupD) (w : World) (h : InG w a L) (hK : ∀ g ∈ L, (Lit.int .i64 g.fKey).wf = true) (hlen : L.length ≤ 350000000000) :
    Calls Tryd.prog 13 #[.slice a L.length cap] w fun e w' => ∃ v, e = .returned v ∧ OwnG w' w.heap.size v (GroupD.merge L) ∧ Below w.heap.size w w' := by
  obtain ⟨b, o, hab, hcell⟩ := h
  have HI := Lib.hid hcell
  have HK := Lib.hid hK
  have hmm := @run_makeMap Tryd.prog
  have hb0 : Below w.heap.size w (w.alloc (.map #[] 0)) := (Below.refl _ _).alloc (Nat.le_refl _) _
  have HB0 := Lib.hid hb0
  have HO := Lib.hid (World.ownsMap_made w Tryd.prog 3 rG)
  clear hcell hb0 hK
  go_enter Tryd.func13, Tryd.ntmps13
  go_wp2_with fail
  clear hmm
  go_loopw [11] (fun x wr => ∃ (k : Nat) (D : DataW Unit), x = .int .i64 k ∧ k ≤ L.length ∧ Hid (OwnM wr w.heap.size k D) ∧ Hid (AtG D (L.take k)) ∧ Hid (Below w.heap.size w wr)) (fun x _ => L.length - (intOf x).toNat)
  case atStart => exact ⟨0, _, rfl, Nat.zero_le _, HO.out, atG_nil, HB0.out⟩
  case round =>
    obtain ⟨k, D, rfl, hk, ho, hat, hb⟩ := hrel
    by_cases hlt : k < L.length
    · obtain ⟨g, hg⟩ : ∃ g, L[k]? = some g := ⟨_, List.getElem?_eq_getElem hlt⟩
      obtain ⟨rfl, hbl⟩ := hab (fun e => by rw [e] at hlt; simp at hlt)
      obtain ⟨c0, c1, c2, c3, c4⟩ := HI.out k g hg
      have f0 := (hb.out.cell (p := ⟨b, o + k * 5, none⟩) hbl).trans c0
      have f1 := (hb.out.cell (p := ⟨b, o + k * 5 + 1, none⟩) hbl).trans c1
      have f2 := (hb.out.cell (p := ⟨b, o + k * 5 + 2, none⟩) hbl).trans c2
      have f3 := (hb.out.cell (p := ⟨b, o + k * 5 + 3, none⟩) hbl).trans c3
      have f4 := (hb.out.cell (p := ⟨b, o + k * 5 + 4, none⟩) hbl).trans c4
      clear c0 c1 c2 c3 c4
      have hwf := HK.out g (List.mem_of_getElem? hg)
      have hoa := ho.out.alloc (.cells #[.int .i64 g.fKey, .int .i64 g.fCount, .int .i64 g.fSum, .int .i64 g.fMin, .int .i64 g.fMax] 33)
      obtain ⟨v0, hl, hv0⟩ := OwnM.look hoa hat.out g.fKey hwf
      have HG := Lib.hid hg
      have HV := Lib.hid hv0
      have HW := Lib.hid hwf
      clear hoa hg hv0 hwf
      have HB := Lib.hid hb.out
      have HMAP := Lib.hid ho.out.isMap
      have HTK : Hid (L.take (k + 1) = L.take k ++ [g]) := Lib.hid (by rw [List.take_succ_eq_append_getElem hlt]; rw [List.getElem?_eq_getElem hlt] at HG; rw [Option.some.inj HG.out])
      obtain ⟨A, hAd⟩ : ∃ A, A = Obj.cells #[.int .i64 g.fKey, .int .i64 g.fCount, .int .i64 g.fSum, .int .i64 g.fMin, .int .i64 g.fMax] 33 := ⟨_, rfl⟩
      obtain ⟨B, hBd⟩ : ∃ B, B = Obj.cells #[.int .i64 v0.fKey, .int .i64 v0.fCount, .int .i64 v0.fSum, .int .i64 v0.fMin, .int .i64 v0.fMax] 33 := ⟨_, rfl⟩
      have hob := (ho.out.alloc A).alloc B
      have hbb : Below w.heap.size w ((wr.alloc A).alloc B) := (hb.out.alloc hb.out.size _).alloc (by have := hb.out.size; simp; omega) _
      cases hget : (GroupD.get g.fKey (L.take k)).isSome with
      | false =>
        rw [hget] at hl
        have hnone : GroupD.get g.fKey (L.take k) = none := by simpa using hget
        obtain ⟨w3, hu, hown3, hg3⟩ := hob.update intKeyed Tryd.underlying80 (by unfold maxLen; omega) (keyOf_int_mk Tryd.underlying3 HW.out) (rG_val g)
        have hat3 := atG_put HMAP.out hat.out (g := g) (o := g) (by rw [hnone]; rfl)
        rw [← HTK.out] at hat3
        have hb3 : Below w.heap.size w w3 := hbb.grown hg3 hbb.size (fun z hz => by cases hz; exact Nat.le_refl _)
        have HO3 := Lib.hid hown3
        have HA3 := Lib.hid hat3
        have HB3 := Lib.hid hb3
        unfold GroupD.val at hu
        subst hAd hBd
        clear hob hbb hown3 hat3 hb3 hg3 hnone hget
        go_wp2_with fail
        go_roundw
        case rel => exact ⟨k + 1, _, by go_num, by omega, HO3.out, HA3.out, HB3.out⟩
        case measure => simp [intOf]; omega
      | true =>
        rw [hget] at hl
        obtain ⟨h0, hh0⟩ := Option.isSome_iff_exists.1 hget
        obtain rfl : v0 = h0 := HV.out h0 hh0
        obtain ⟨c, hc⟩ : ∃ c, c = GroupD.comb v0 g := ⟨_, rfl⟩
        have hck : c.fKey = g.fKey := by rw [hc, GroupD.comb_key]; exact GroupD.get_key hh0
        have hcall := icomb v0 g ((wr.alloc A).alloc B)
        rw [← hc] at hcall
        unfold GroupD.val at hcall
        have hat3 := atG_put HMAP.out hat.out (g := g) (o := c) (by rw [hh0, hc]; rfl)
        rw [← HTK.out] at hat3
        have HA3 := Lib.hid hat3
        have HOB := Lib.hid hob
        have HBB := Lib.hid hbb
        have hnA : ((wr.alloc A).alloc B).heap[wr.heap.size]? = some A := (Below.heap_alloc _ _ _ (by simp)).trans (by show (wr.heap.push A)[wr.heap.size]? = some A; simp)
        have hsB : wr.heap.size < ((wr.alloc A).alloc B).heap.size := by simp; omega
        have HNA := Lib.hid hnA
        have HSB := Lib.hid hsB
        have HC := Lib.hid hcall
        have HAD := Lib.hid hAd
        have HBD := Lib.hid hBd
        have HCK := Lib.hid hck
        clear hat3 hob hbb hnA hsB hcall hck hc hget hh0
        subst hAd hBd
        go_wp2_with fail
        refine HC.out.mono ?_
        rintro e w3 ⟨rfl, hb3⟩
        have hn3 := (hb3.block _ HSB.out).trans HNA.out
        have hne : w.heap.size ≠ wr.heap.size := by have := ho.out.lt; omega
        have hown3 : OwnM w3 w.heap.size k D := by
          have hl := HOB.out.lt
          obtain ⟨es, clock, hb1, Ft, hs, hD⟩ := HOB.out
          exact ⟨es, clock, (hb3.block _ hl).trans hb1, Ft, hs, hD⟩
        obtain ⟨w4, hw4⟩ : ∃ w4, w4 = w3.setCells wr.heap.size 0 c.cells := ⟨_, rfl⟩
        have hst : (storeVar 33 ⟨wr.heap.size, 0, none⟩ (.agg #[.int .i64 c.fKey, .int .i64 c.fCount, .int .i64 c.fSum, .int .i64 c.fMin, .int .i64 c.fMax])).run Tryd.prog w3 = .ok () w4 := by
          rw [hw4]
          exact V.store_run (ag := true) (m := 5) (us := c.cells) V.sz_impl_Group (fun h => by cases h) rfl (cells_one c) (fun q hq => by
            simp only [World.cell?, hn3, Nat.zero_add]
            simp [hq]) fun q hq => by simp [World.frozen?, hn3]
        have hn4 : w4.heap[wr.heap.size]? = some (.cells c.cells.toArray 33 (0, 0)) := by
          rw [hw4, V.setCells_heap wr.heap.size c.cells 0 w3 [.int .i64 g.fKey, .int .i64 g.fCount, .int .i64 g.fSum, .int .i64 g.fMin, .int .i64 g.fMax] 33 hn3 (by simp [GroupD.cells])]
          simp [GroupD.cells]
        have hfar : ∀ z, z ≠ wr.heap.size → w4.heap[z]? = w3.heap[z]? := fun z hz => by rw [hw4]; exact V.setCells_far _ _ _ _ z hz
        have hb4 : Below wr.heap.size w3 w4 := by rw [hw4]; exact V.setCells_below _ _ _ _ _ (Nat.le_refl _)
        obtain ⟨y0, y1, y2, y3, y4⟩ : w4.cell? ⟨wr.heap.size, 0, none⟩ = some (.int .i64 c.fKey) ∧ w4.cell? ⟨wr.heap.size, 1, none⟩ = some (.int .i64 c.fCount) ∧ w4.cell? ⟨wr.heap.size, 2, none⟩ = some (.int .i64 c.fSum) ∧ w4.cell? ⟨wr.heap.size, 3, none⟩ = some (.int .i64 c.fMin) ∧ w4.cell? ⟨wr.heap.size, 4, none⟩ = some (.int .i64 c.fMax) := by
          refine ⟨?_, ?_, ?_, ?_, ?_⟩ <;> simp [World.cell?, hn4, GroupD.cells]
        have hown4 : OwnM w4 w.heap.size k D := by
          obtain ⟨es, clock, hb1, Ft, hs, hD⟩ := hown3
          exact ⟨es, clock, (hfar _ hne).trans hb1, Ft, hs, hD⟩
        obtain ⟨w5, hu, hown5, hg5⟩ := hown4.update (key := .int .i64 c.fKey) (kl := .int .i64 g.fKey) intKeyed Tryd.underlying80 (by unfold maxLen; omega) (by rw [HCK.out]; exact keyOf_int_mk Tryd.underlying3 HW.out) (rG_val c)
        unfold GroupD.val at hu
        have hb5 : Below w.heap.size w w5 := by
          have h1 := HBB.out.trans (hb3.mono HBB.out.size)
          have h2 := h1.trans (hb4.mono (Nat.le_trans HB.out.size (Nat.le_refl _)))
          exact h2.grown hg5 h2.size (fun z hz => by cases hz; exact Nat.le_refl _)
        have HO5 := Lib.hid hown5
        have HB5 := Lib.hid hb5
        clear hn3 hb3 hown3 hn4 hfar hb4 hown4 hown5 hg5 hb5 hw4
        go_wp2_with (refine wpList_store_own rfl _ _ 33 rfl ⟨wr.heap.size, 0, none⟩ (.agg #[.int .i64 c.fKey, .int .i64 c.fCount, .int .i64 c.fSum, .int .i64 c.fMin, .int .i64 c.fMax]) rfl rfl w4 hst ?_)
        go_roundw
        case rel => exact ⟨k + 1, _, by go_num, by omega, HO5.out, HA3.out, HB5.out⟩
        case measure => simp [intOf]; omega
    · have hkl : k = L.length := by omega
      have hall : L.take k = L := by rw [hkl, List.take_length]
      rw [hall] at hat
      obtain ⟨W2, hW2⟩ : ∃ W2, W2 = wr.alloc (.cells #[.map (some w.heap.size)] 80) := ⟨_, rfl⟩
      have hs := gsorted wr.heap.size w.heap.size k D L hat.out W2 (by rw [hW2]; simp) (by rw [hW2]; simp) (by rw [hW2]; exact ho.out.alloc _) (by omega)
      have HS := Lib.hid hs
      have HB := Lib.hid (show Below w.heap.size w W2 by rw [hW2]; exact hb.out.alloc hb.out.size _)
      clear hs hall
      go_wp2_with fail
      refine (gvalues (some w.heap.size) wr).mono ?_
      rintro e w' ⟨rfl, rfl⟩
      go_wp2_with fail
      rw [← hW2]
      refine HS.out.mono ?_
      rintro e w3 ⟨v, rfl, hv, hb3⟩
      go_wp2_with fail
      go_ret
      exact ⟨v, rfl, V.ownsRow_lower hv HB.out.size, HB.out.trans (hb3.mono HB.out.size)⟩
theorem own_groups {w : World} {B : Nat} {v : Value} {L : List GroupD} (h : OwnG w B v L) : V.Own w 0 (.seq 33 (L.map tGroup)) v (fun b => v.ownBlock = some b) := by
  refine .seq 5 (by decide) V.sz_impl_Group (fun e he => by obtain ⟨x, -, rfl⟩ := List.mem_map.1 he; rfl) (L.flatMap GroupD.cells) (by rw [List.length_map]; exact V.ownsRow_lower h (Nat.zero_le _)) (fun _ _ => False) (fun k e j t u h1 h2 h3 => ?_) (fun u hu => ?_) (fun b hb => hb) (fun q b hb => hb.elim) (fun q b hb => hb.elim) fun q q' b hb => hb.elim
  · rw [List.getElem?_map] at h1
    obtain ⟨g, hg, rfl⟩ := Option.map_eq_some_iff.1 h1
    have hj : j < 5 := by simpa [tGroup] using (List.getElem?_eq_some_iff.1 h2).1
    have hkl := V.get_lt hg
    obtain ⟨k1, u0, k2, k3⟩ := V.mapk_get cells_len L (k * 5 + j) (V.at_lt hkl hj)
    have d1 : (k * 5 + j) / 5 = k := by omega
    have d2 : (k * 5 + j) % 5 = j := by omega
    rw [k3] at h3
    have hgk : L[(k * 5 + j) / 5] = g := by
      have e8 : L[(k * 5 + j) / 5]? = some g := by rw [d1]; exact hg
      rw [List.getElem?_eq_getElem k1] at e8
      exact Option.some.inj e8
    rw [hgk, d2, Option.some.inj h3] at k2
    match j, hj, h2, k2 with
    | 0, _, h2, k2 => cases h2; cases k2; exact .lit rfl
    | 1, _, h2, k2 => cases h2; cases k2; exact .lit rfl
    | 2, _, h2, k2 => cases h2; cases k2; exact .lit rfl
    | 3, _, h2, k2 => cases h2; cases k2; exact .lit rfl
    | 4, _, h2, k2 => cases h2; cases k2; exact .lit rfl
  · obtain ⟨g, -, hg⟩ := List.mem_flatMap.1 hu
    exact cells_one g u hg
theorem gives_groups {w w' : World} {v : Value} {L : List GroupD} (hm : OwnG w' w.heap.size v L) (hb : Below w.heap.size w w') : V.Gives (V.Env.of w) false [(false, [.seq 33 (L.map tGroup)])] (.returned v) w' := by
  refine ⟨[[v]], fun c j b => c = 0 ∧ j = 0 ∧ v.ownBlock = some b, rfl, rfl, fun c ag ts us hc hu => ?_, fun c j c' j' b hb hb' => ⟨hb.1.trans hb'.1.symm, hb.2.1.trans hb'.2.1.symm⟩, fun c j b hb => ?_, .of_below hb⟩
  · match c, hc, hu with
    | 0, hc, hu => cases hc; cases hu; exact ⟨rfl, fun j t u h h' => by match j, h, h' with | 0, h, h' => cases h; cases h'; exact (own_groups hm).mono fun b hb => ⟨rfl, rfl, hb⟩⟩
  · have := World.ownsRow.lt hm b hb.2.2
    exact ⟨.inl this.1, this.2⟩
theorem vmerge_i (L : List GroupD) (hL : L.length ≤ 300000000000) (hK : ∀ g ∈ L, (Lit.int .i64 g.fKey).wf = true) : V.VC Tryd.prog 13 [(false, [.seq 33 (L.map tGroup)])] false [(false, [.seq 33 ((GroupD.merge L).map tGroup)])] := fun w vs hv => by
  obtain ⟨hl, ha⟩ := hv
  match vs, hl with
  | [v], _ =>
    obtain ⟨us, e1, e2, e3⟩ := ha 0 false _ v rfl rfl
    match us, e2 with
    | [x], _ =>
      have hx := e3 0 _ x rfl rfl
      have e1' : v = x := e1
      subst e1'
      obtain ⟨ad, c, n, hv, hc, hm, h0, hp, hz, hn, b, o, us, had, hb, hcell, hr⟩ := V.inn_seq hx
      have hn5 : n = 5 := hz.eq V.sz_impl_Group
      subst hn5
      rw [List.length_map] at hv hc
      subst hv
      refine (imerge ad c L w ⟨b, o, fun hne => ?_, fun k g hg => ?_⟩ hK (by omega)).mono fun e w' ⟨v, he, hm, hb⟩ => he ▸ gives_groups hm hb
      · have hne' : L.map tGroup ≠ [] := fun e => hne (List.map_eq_nil_iff.1 e)
        have hpos : 0 < L.length := List.length_pos_iff.2 hne
        cases ad with
        | none => have := h0 rfl; omega
        | some a => exact ⟨by rw [had a rfl hne'], (hb hne').2⟩
      · have hk : (L.map tGroup)[k]? = some (tGroup g) := by rw [List.getElem?_map, hg]; rfl
        have key : ∀ j u, (tGroup g)[j]? = some (.lit u) → w.cell? ⟨b, o + (k * 5 + j), none⟩ = some u := fun j u hj => by
          have h1 := hcell k _ j _ hk hj
          have h2 := hr k _ j _ hk hj
          have : us (k * 5 + j) = u := by
            cases h2; rfl
          rw [h1, this]
        exact ⟨key 0 _ rfl, by have := key 1 _ rfl; rwa [← Nat.add_assoc] at this, by have := key 2 _ rfl; rwa [← Nat.add_assoc] at this, by have := key 3 _ rfl; rwa [← Nat.add_assoc] at this, by have := key 4 _ rfl; rwa [← Nat.add_assoc] at this⟩
end Go.Proofs.YtmlcdhblofjpbaaDoor
/- The program's groups: told by trees. -/
namespace Go.Proofs.YtmlcdhblofjpbaaDoor
open Go Go.RowKit V
set_option linter.unusedVariables false
set_option maxRecDepth 100000 in
set_option maxHeartbeats 2000000 in
theorem vref_i (X : List R) (hX : X.length ≤ 1048576) (hK : ∀ r ∈ X, (Lit.int .i64 r.key).wf = true) : VC Tryd.prog 9 [(false, [.seq 41 (X.map tRow)])] false [(false, [.seq 33 ((GroupD.merge (X.map GroupD.ofRow)).map tGroup)])] := by
  refine VC.enter Tryd.func9 rfl Tryd.ntmps9 (Nat.le_of_ble_eq_true rfl) fun E hE => ?_
  refine SV.seq' ?_
  refine SV.region ?_
  refine SV.op (OpL.ok (nb := 0) (ok_move (v := V.one (.sc _)) (.inr rfl) rfl) rfl (Nat.le_of_ble_eq_true rfl)) rfl ?_
  refine SV.nil ?_
  refine SV.tn ?_
  refine SV.seq' ?_
  refine SV.region ?_
  refine SV.op (OpL.ok (nb := 0) (ok_move (v := V.one (.ro _)) (.inl rfl) rfl) rfl (Nat.le_of_ble_eq_true rfl)) rfl ?_
  refine SV.op (OpL.ok (nb := 0) (ok_len (lf := .ro _) rfl elt_impl_Row.und rfl rfl) rfl (Nat.le_of_ble_eq_true rfl)) rfl ?_
  refine SV.op (OpMk.ok (ok_make (kk := 0) (zs := [.sc _, .sc _, .sc _, .sc _, .sc _]) elt_impl_Group rfl rfl rfl rfl ⟨rfl, rfl, rfl, rfl, rfl, rfl, rfl, rfl, rfl, rfl, trivial⟩ rfl (by rw [List.length_map]; omega) rfl (Nat.le_of_ble_eq_true rfl))) rfl ?_
  refine SV.op (OpL.ok (nb := 0) (ok_move (v := V.one (.hd 0)) (.inr rfl) rfl) rfl (Nat.le_of_ble_eq_true rfl)) rfl ?_
  refine SV.nil ?_
  refine SV.tn ?_
  refine SV.seq' ?_
  refine SV.seq' ?_
  refine SV.region ?_
  refine SV.op (OpL.ok (nb := 0) (ok_move (v := V.one (.ro _)) (.inl rfl) rfl) rfl (Nat.le_of_ble_eq_true rfl)) rfl ?_
  refine SV.op (OpL.ok (nb := 0) (ok_len (lf := .ro _) rfl elt_impl_Row.und rfl rfl) rfl (Nat.le_of_ble_eq_true rfl)) rfl ?_
  refine SV.op (OpL.ok (nb := 0) (ok_move (v := V.one (.sc _)) (.inl rfl) rfl) rfl (Nat.le_of_ble_eq_true rfl)) rfl ?_
  refine SV.nil ?_
  refine SV.tn ?_
  refine SV.block ?_
  refine SV.loopF (X := Nat) (fun (σ : VS) t => ((((((VS.nil.new (.seq 33 (toL (fun r => tGroup (GroupD.ofRow r)) zGroup X t))).put 2 (σ.tm 2)).put 3 (V.flat false [.hd 0])).put 9 (σ.tm 9)).put 10 (σ.tm 10)).put 11 (V.flat false [.sc (.int .i64 ((t : Int)))]))) (fun t => t ≤ X.length) (fun t => X.length - t) ?_ ?_
  · skip
    refine SV.again (fun i => [0].getD i 0) 0 ((by first | exact Nat.zero_le _ | (refine ⟨Nat.zero_le _, ?_⟩; simp; done) | (simp; done) | omega)) (pins hE rfl rfl) (VS.le.mk' (le_put (le_put (le_put (le_put (le_put (le_new le_nil) (V.le.keep (ag := false) (xs := [.sc _]) (ys := [.sc _]) rfl rfl ⟨rfl, trivial⟩)) (V.le.keep (ag := false) (xs := [.hd 0]) (ys := [.hd 0]) rfl rfl ⟨⟨rfl, (Nat.le_of_ble_eq_true rfl), (Nat.le_of_ble_eq_true rfl)⟩, trivial⟩)) (V.le.keep (ag := false) (xs := [.ro _]) (ys := [.ro _]) rfl rfl ⟨rfl, trivial⟩)) (V.le.keep (ag := false) (xs := [.sc _]) (ys := [.sc _]) rfl rfl ⟨rfl, trivial⟩)) (V.le.keep (ag := false) (xs := [.sc _]) (ys := [.sc _]) rfl rfl ⟨(by first | rfl | (show Leaf.sc _ = Leaf.sc _; refine congrArg Leaf.sc ?_; first | rfl | go_num | (simp [cntAll]; done)) | (simp [cntAll]; done) | (simp; omega)), trivial⟩)) trivial ⟨.inr ⟨_, _, rfl, ?ob1_0, (Nat.le_of_ble_eq_true rfl)⟩, trivial⟩ (new_ob nil_ob) (fun i j hi hj e => inj_list (l := [0]) (by decide) i j hi hj e))
    case ob1_0 =>
      show some (T.seq _ _) = some (T.seq _ _)
      rw [toL_zero, List.length_map]; rfl
  · rintro t ht
    refine SV.seq' ?_
    refine SV.region ?_
    refine SV.op (OpL.ok (nb := 0) (ok_s2 (x := .tmp 11) (x' := .tmp 10) (VScal.one rfl) (VScal.one rfl) (fun ρ h1 h2 w => by go_simp; (try go_bits); with_reducible rfl) rfl) rfl (Nat.le_of_ble_eq_true rfl)) rfl ?_
    refine SV.nil ?_
    refine SV.tn ?_
    refine SV.seq' ?_
    refine SV.cond rfl (fun hc0 => ?_) (fun hc0 => ?_)
    · skip   -- c0.T
      have htl : t < X.length := by simpa using hc0
      have hx : X[t]? = some X[t] := by simp [htl]
      refine SV.skip ?_
      refine SV.tn ?_
      refine SV.seq' ?_
      refine SV.block ?_
      refine SV.seq' ?_
      refine SV.region ?_
      refine SV.op (OpL.ok (nb := 0) (ok_move (v := V.one (.sc _)) (.inl rfl) rfl) rfl (Nat.le_of_ble_eq_true rfl)) rfl ?_
      refine SV.op (OpL.ok (nb := 0) (ok_index (n := 3) (lf := .ro _) rfl elt_impl_Row.und sz_impl_Row rfl rfl rfl (map_at (by assumption))) rfl (Nat.le_of_ble_eq_true rfl)) rfl ?_
      refine SV.op (OpL.ok (nb := 0) (ok_load_rp (ag := true) (m := 3) (ys := [.sc _, .sc _, .sc _]) rfl rfl agg_impl_Row sz_impl_Row (fun h => by cases h) (Nat.le_of_ble_eq_true rfl) rfl) rfl (Nat.le_of_ble_eq_true rfl)) rfl ?_
      refine SV.op (OpMk.ok (ok_alloc (kk := 0) (xs := [.sc _, .sc _, .sc _]) rfl rfl zero_impl_Row ⟨rfl, rfl, rfl, rfl, rfl, rfl, trivial⟩ rfl (Nat.le_of_ble_eq_true rfl))) rfl ?_
      refine SV.op (OpL.ok (nb := 1) (ok_move (v := V.one (.sc _)) (.inr rfl) rfl) rfl (Nat.le_of_ble_eq_true rfl)) rfl ?_
      refine SV.op (ok_store_bp (b := 0) (i := 0) (m := 3) (ag := true) (zs := [.sc _, .sc _, .sc _]) (ys := [.sc _, .sc _, .sc _]) rfl rfl rfl rfl sz_impl_Row (fun h => by cases h) rfl (Nat.le_of_ble_eq_true rfl) rfl rfl rfl) rfl ?_
      refine SV.nil ?_
      refine SV.tn ?_
      refine SV.region ?_
      refine SV.op (OpL.ok (nb := 1) (ok_move (v := V.one (.hd 0)) (.inl rfl) rfl) rfl (Nat.le_of_ble_eq_true rfl)) rfl ?_
      refine SV.op (OpL.ok (nb := 1) (ok_move (v := V.one (.sc _)) (.inl rfl) rfl) rfl (Nat.le_of_ble_eq_true rfl)) rfl ?_
      refine SV.op (OpL.ok (nb := 1) (ok_load_bp (b := 0) (i := 0) (ag := true) (m := 3) (ys := [.sc _, .sc _, .sc _]) rfl rfl rfl agg_impl_Row sz_impl_Row (fun h => by cases h) rfl rfl (Nat.le_of_ble_eq_true rfl)) rfl (Nat.le_of_ble_eq_true rfl)) rfl ?_
      refine SV.op (OpMk.ok (ok_call (ls := [(true, [.sc _, .sc _, .sc _, .sc _, .sc _])]) rfl rfl ⟨_, _, Tryd.func26, rfl, by decide⟩ (vofrow_i X[t]) ⟨⟨[.sc _, .sc _, .sc _], rfl, ⟨rfl, rfl, rfl, trivial⟩⟩, trivial⟩ rfl (Nat.le_of_ble_eq_true rfl))) rfl ?_
      refine SV.op (OpL.ok (nb := 1) (ok_index (n := 5) (lf := .hd 0) rfl elt_impl_Group.und sz_impl_Group rfl rfl rfl (toL_at htl)) rfl (Nat.le_of_ble_eq_true rfl)) rfl ?_
      refine SV.op (ok_store_ep (i := 0) (n := 5) (m := 5) (ag := true) (zs := [.sc _, .sc _, .sc _, .sc _, .sc _]) rfl rfl rfl rfl (toL_at htl) sz_impl_Group (fun h => by cases h) rfl sz_impl_Group (Nat.le_of_ble_eq_true rfl) (outs_c rfl (outs_c rfl (outs_c rfl (outs_c rfl (outs_c rfl outs_n))))) (by simp [two]) rfl rfl rfl) rfl ?_
      refine SV.nil ?_
      refine SV.bn ?_
      refine SV.tn ?_
      refine SV.region ?_
      refine SV.op (OpL.ok (nb := 1) (ok_s2 (x := .tmp 11) (x' := .const ((Value.int IntKind.i64 1))) (VScal.one rfl) (VScal.one rfl) (fun ρ h1 h2 w => by go_simp; (try go_bits); with_reducible rfl) rfl) rfl (Nat.le_of_ble_eq_true rfl)) rfl ?_
      refine SV.op (OpL.ok (nb := 1) (ok_move (v := V.one (.sc _)) (.inl rfl) rfl) rfl (Nat.le_of_ble_eq_true rfl)) rfl ?_
      refine SV.nil ?_
      refine SV.tn ?_
      refine SV.again (fun i => [0].getD i 0) (t + 1) (⟨by omega, by omega⟩) (pins hE rfl rfl) (VS.le.mk' (le_put (le_put (le_put (le_put (le_put (le_new le_nil) (V.le.keep (ag := false) (xs := [.sc _]) (ys := [.sc _]) rfl rfl ⟨rfl, trivial⟩)) (V.le.keep (ag := false) (xs := [.hd 0]) (ys := [.hd 0]) rfl rfl ⟨⟨rfl, (Nat.le_of_ble_eq_true rfl), (Nat.le_of_ble_eq_true rfl)⟩, trivial⟩)) (V.le.keep (ag := false) (xs := [.ro _]) (ys := [.ro _]) rfl rfl ⟨rfl, trivial⟩)) (V.le.keep (ag := false) (xs := [.sc _]) (ys := [.sc _]) rfl rfl ⟨rfl, trivial⟩)) (V.le.keep (ag := false) (xs := [.sc _]) (ys := [.sc _]) rfl rfl ⟨(by first | rfl | (show Leaf.sc _ = Leaf.sc _; refine congrArg Leaf.sc ?_; first | rfl | go_num | (simp [cntAll]; done)) | (simp [cntAll]; done) | (simp; omega)), trivial⟩)) trivial ⟨.inr ⟨_, _, rfl, ?ob2_0, (Nat.le_of_ble_eq_true rfl)⟩, trivial⟩ (new_ob nil_ob) (fun i j hi hj e => inj_list (l := [0]) (by decide) i j hi hj e))
      case ob2_0 =>
        show some (T.seq _ _) = some (T.seq _ _)
        rw [← toL_next htl]; rfl
    · skip   -- c0.F
      have hte : ¬ t < X.length := by simpa using hc0
      have hm := vmerge_i (X.map GroupD.ofRow) (by simp; omega) (fun g hg => by obtain ⟨r, hr, rfl⟩ := List.mem_map.1 hg; exact hK r hr)
      rw [show (X.map GroupD.ofRow).map tGroup = toL (fun r => tGroup (GroupD.ofRow r)) zGroup X t from ((toL_all hte).trans (by rw [List.map_map]; rfl)).symm] at hm
      refine SV.exit ?_
      refine SV.te ?_
      refine SV.te ?_
      refine SV.bh ?_
      refine SV.tn ?_
      refine SV.seq' ?_
      refine SV.region ?_
      refine SV.op (OpL.ok (nb := 0) (ok_move (v := V.one (.hd 0)) (.inl rfl) rfl) rfl (Nat.le_of_ble_eq_true rfl)) rfl ?_
      refine SV.op (OpMk.ok (ok_call (ls := [(false, [.hd 1])]) rfl rfl ⟨_, _, Tryd.func13, rfl, by decide⟩ (hm) ⟨⟨[.hd 0], rfl, ⟨rfl, trivial⟩⟩, trivial⟩ rfl (Nat.le_of_ble_eq_true rfl))) rfl ?_
      refine SV.op (OpL.ok (nb := 0) (ok_move (v := V.one (.hd 1)) (.inr rfl) rfl) rfl (Nat.le_of_ble_eq_true rfl)) rfl ?_
      refine SV.nil ?_
      refine SV.tn ?_
      refine SV.ret ?_
      apply SV.done (hf := Tryd.results9) (ht := rfl) (he := .inl rfl)
      case hr => exact (ResAll.cons (ResOk.tmp (ag := false) (xs := [.hd 1]) rfl) ResAll.nil')
      case h2 => simp [two]
      refine ⟨rfl, ⟨?_, trivial⟩, trivial⟩ <;> rfl
end Go.Proofs.YtmlcdhblofjpbaaDoor
/- What the rows' listed variables give the walks: the table of powers of ten; and how it is kept. -/
namespace Go.Proofs.YtmlcdhblofjpbaaDoor
open Go Go.RowKit Go.Shelf

theorem gTab : Tryd.prog.globalNamed "internal/strconv.uint64pow10" = some 1 := by kernel_rfl
theorem tTab : (Tryd.prog.globals[1]?).map (·.type) = some 206 := by kernel_rfl
theorem tabDatum : (Rows.laid_internal_strconv_uint64pow10 : DataW Unit) = Lib.tabData .u64 Lib.pow10Tab := by kernel_rfl

/-- The table of powers of ten lies as the library lays it. -/
def Tab (w : World) : Prop := Lib.TabIs Tryd.prog w "internal/strconv.uint64pow10" .u64 Lib.pow10Tab
theorem Tab.stay {w w' : World} (h : Tab w) (hb : Below w.heap.size w w') : Tab w' := Joins.tab_stays gTab h hb (Nat.le_refl _)
theorem tab_of {r : List (String × DataW Unit)} {w : World} (h : laidMet Tryd.prog (("internal/strconv.uint64pow10", Rows.laid_internal_strconv_uint64pow10) :: r) w) : Tab w := by
  rw [tabDatum] at h
  exact Lib.tabIs_of_head gTab tTab Tryd.underlying206 Tryd.underlying174 (by kernel_rfl) (by kernel_rfl) h
/-- FormatInt of the program. -/
theorem below_grow (w : World) (k : Nat) (os : Array Obj) : Below w.heap.size w (Sort.grow (w.drewN k) os) :=
  ⟨rfl, rfl, rfl, by simp [Sort.grow], fun i hi => Sort.heap_grow_old (w.drewN k) os hi⟩
theorem itoa_any (n : Int) (w : World) (h0 : -9223372036854775808 ≤ n) (h1 : n ≤ 9223372036854775807) (ht : Tab w) :
    Calls Tryd.prog 130 #[.int .i64 n] w fun e w' => e = .returned (.string ⟨(Lib.itoa n).toArray⟩) ∧ Below w.heap.size w w' := by
  refine (Tryd.strconv_Itoa n h0 h1 w ht).mono fun e w' ⟨he, hw⟩ => ⟨he, ?_⟩
  obtain ⟨k, os, rfl⟩ := hw
  exact below_grow w k os
theorem ifmt (n : Int) (w : World) (h0 : -9223372036854775808 ≤ n) (h1 : n ≤ 9223372036854775807) (ht : Tab w) :
    Calls Tryd.prog 98 #[.int .i64 n] w fun e w' => e = .returned (.string ⟨(Lib.itoa n).toArray⟩) ∧ Below w.heap.size w w' := by
  have HT := Lib.hid ht
  clear ht
  go_enter Tryd.func98, Tryd.ntmps98
  go_wp2_with fail
  refine (itoa_any n _ h0 h1 HT.out).mono ?_
  rintro e w1 ⟨rfl, b1⟩
  go_wp2_with fail
  go_ret
  exact ⟨rfl, b1⟩
end Go.Proofs.YtmlcdhblofjpbaaDoor
/- States told by trees: contracts under the table that the library's variables hold. -/
namespace Go.Proofs.YtmlcdhblofjpbaaDoor.V
open Go Go.RowKit
set_option linter.unusedVariables false
variable {P : Program} {E : Env} {N : Nat} {σ : VS} {o : Oper}
/-- The call answers so, wherever the table lies. -/
def VCD (P : Program) (f : FuncId) (ins : List (Bool × List T)) (tup : Bool) (rs : List (Bool × List T)) : Prop := ∀ (w : World), Tab w → ∀ (vs : List Value), ArgsIn (Env.of w) w ins vs → Calls P f vs.toArray w (Gives (Env.of w) tup rs)
theorem VC.door {f : FuncId} {ins rs : List (Bool × List T)} {tup : Bool} (h : VC P f ins tup rs) : VCD P f ins tup rs := fun w _ => h w
/-- The table lay at the call's beginning, and nothing was lent. -/
def Env.door (E : Env) : Prop := Tab E.w0 ∧ ∀ b, ¬ E.ln b
theorem Env.door.at {w : World} (h : E.door) (hs : Same E E.w0 w) : Tab w := h.1.stay ⟨hs.os, hs.tape, hs.output, hs.size, fun b hb => hs.block b ⟨hb, h.2 b⟩⟩
theorem VCD.enter {f : FuncId} {fn : Func} {c : Go.Code} {n : Nat} {ins rs : List (Bool × List T)} {tup : Bool} (hf : P.funcs[f]? = some fn) (hb : fn.body = some c) (hn : fn.ntmps = n) (hl : ins.length ≤ n)
    (h : ∀ E, E.plain 0 → E.door → SV E n (VS.init (ins.map fun p => V.flat p.1 (p.2.map argLeaf))) (c.wp P (bodyPost P fn (Gives E tup rs)))) : VCD P f ins tup rs := fun w hT vs hv => by
  refine calls_of_wp hf hb ?_
  obtain ⟨G, hG⟩ := init_rel (E := Env.of w) ⟨rfl, rfl⟩ (n := n) hv (by rw [hv.1]; exact hl)
  have := h (Env.of w) ⟨rfl, rfl⟩ ⟨hT, fun b hb => hb.elim⟩ _ _ G hG
  rw [hn]
  have e : (Env.of w).w0 = w := rfl
  rw [e] at this
  simpa using this
theorem ok_callD {d : Nat} {f : FuncId} {xs : List Operand} {ats : Array TypeId} {qs : List (Bool × List T)} {tup : Bool} {rs : List (Bool × List T)} {ls : List (Bool × List Leaf)} (hD : E.door) (hk : ansLs σ.nx rs = ls) (ho : o.op = .call { callee := .value (.func f), args := xs.toArray, argTypes := ats }) (hb : ∃ fn c, P.funcs[f]? = some fn ∧ fn.body = some c ∧ fn.name ≠ "runtime.NumGoroutine")
    (hc : VCD P f qs tup rs) (hx : σ.argss xs qs) (hd : o.dst = some d) (hdN : d < N) : OpMk P E N none σ o ((ansSs σ rs).put d ⟨tup, ls⟩) := ok_callW hk ho hb (fun w hs => hc w (hD.at hs)) hx hd hdN
/-- A call of plain values that answers a plain value and changes nothing. -/
theorem VCD.plain {f : FuncId} {ins : List (Bool × List Value)} {ag : Bool} {rs : List Value} (h1 : ∀ u ∈ rs, u.oneCell' = true) (h : ∀ w, Tab w → Calls P f (ins.map fun p => cval p.1 p.2).toArray w fun e w' => e = .returned (cval ag rs) ∧ Below w.heap.size w w') : VCD P f (ins.map fun p => (p.1, p.2.map T.lit)) false [(ag, rs.map T.lit)] := fun w hT =>
  VC.plainAt h1 (h w hT)
/-- A law's contract, as its last step takes it. -/
theorem VCD.law {f : FuncId} {ins : List (Bool × List T)} (h : VCD P f ins false [(false, [.lit (.bool true)])]) {w : World} (hT : Tab w) {vs : List Value} (hv : ArgsIn (Env.of w) w ins vs) : Calls P f vs.toArray w fun e w' => e = .returned (.bool true) ∧ Below w.heap.size w w' :=
  (h w hT vs hv).mono fun e w' hg => by
    obtain ⟨he, hs⟩ := Gives.lit hg
    exact ⟨he, ⟨hs.os, hs.tape, hs.output, hs.size, fun b hb => hs.block b ⟨hb, fun h => h.elim⟩⟩⟩
end Go.Proofs.YtmlcdhblofjpbaaDoor.V
/- The reference's l1In, by contract; a string's ending. -/
namespace Go.Proofs.YtmlcdhblofjpbaaDoor
open Go.RowKit

theorem in_yes (x lo hi : Int) (w : World) (h1 : lo ≤ x) (h2 : x ≤ hi) : Calls Tryd.prog 66 #[.int .i64 x, .int .i64 lo, .int .i64 hi] w fun e w' => e = .returned (.bool true) ∧ w = w' := by
  go_enter Tryd.func66, Tryd.ntmps66
  go_wp2
  go_ret
  exact ⟨rfl, rfl⟩
theorem in_no (x lo hi : Int) (w : World) (h : x < lo ∨ hi < x) : Calls Tryd.prog 66 #[.int .i64 x, .int .i64 lo, .int .i64 hi] w fun e w' => e = .returned (.bool false) ∧ w = w' := by
  by_cases h1 : x < lo
  · go_enter Tryd.func66, Tryd.ntmps66
    go_wp2
    go_ret
    exact ⟨rfl, rfl⟩
  · have h2 : hi < x := by omega
    have h3 : lo ≤ x := by omega
    have hd : decide (x ≤ hi) = false := by simpa using h2
    clear h1 h
    go_enter Tryd.func66, Tryd.ntmps66
    go_wp2
    go_ret
    exact ⟨rfl, rfl⟩

theorem ret_str {a b : List UInt8} (h : a = b) : Ending.returned (.string ⟨a.toArray⟩) = .returned (.string ⟨b.toArray⟩) := by rw [h]
end Go.Proofs.YtmlcdhblofjpbaaDoor
/- FormatInt of the reference: the decimal numeral of every integer. -/
namespace Go.Proofs.YtmlcdhblofjpbaaDoor
open Go.RowKit Num Dec

theorem str_cat (b : UInt8) (l : List UInt8) : (⟨[b].toArray⟩ : ByteArray) ++ ⟨l.toArray⟩ = ⟨(b :: l).toArray⟩ := ByteArray.mk_append_mk [b] l

theorem sfmt_zero (w : World) : Calls Tryd.prog 60 #[.int .i64 0] w fun e w' => e = .returned (.string ⟨(Lib.itoa 0).toArray⟩) ∧ Below w.heap.size w w' := by
  rw [itoa_zero]
  go_enter Tryd.func60, Tryd.ntmps60
  go_wp2
  go_ret
  exact ⟨rfl, Below.refl _ _⟩

set_option maxRecDepth 100000 in
theorem sfmt_pos (n : Int) (w : World) (h0 : 0 < n) (h63 : n ≤ 9223372036854775807) :
    Calls Tryd.prog 60 #[.int .i64 n] w fun e w' => e = .returned (.string ⟨(Lib.itoa n).toArray⟩) ∧ Below w.heap.size w w' := by
  rw [itoa_pos n h0]
  have hlen := dd_length_le n.toNat (by omega)
  have hz : (n == 0) = false := by rw [beq_eq_false_iff_ne]; omega
  have hneg : decide (n < 0) = false := by simp; omega
  go_enter Tryd.func60, Tryd.ntmps60
  go_wp2
  go_loopw [0, 3, 5] (fun m o _ wr => ∃ (x : Int) (out : List UInt8), m = .int .i64 x ∧ o = .string ⟨out.toArray⟩ ∧ 0 ≤ x ∧ x ≤ 9223372036854775807 ∧ Hid (dd n.toNat = dd x.toNat ++ out) ∧ Below w.heap.size w wr) (fun m _ _ _ => (intOf m).toNat)
  case atStart => exact ⟨n, [], rfl, rfl, by omega, h63, by show _ = _; simp, Below.refl _ _⟩
  case round =>
    obtain ⟨x, out, rfl, rfl, hx0, hx1, hD, hb⟩ := hrel
    have hol : out.length ≤ 20 := by have := congrArg List.length hD.out; rw [List.length_append] at this; omega
    by_cases hx : x = 0
    · have hout := hD.out
      rw [hx] at hout
      have HO : Hid (dd n.toNat = out) := hout
      have ht : (x != 0) = false := by rw [bne_eq_false_iff_eq]; exact hx
      clear hx hout
      go_wp2_with fail
      go_ret
      exact ⟨ret_str HO.out.symm, hb⟩
    · have ht : (x != 0) = true := by rw [bne_iff_ne]; exact hx
      have hxp : 0 < x := by omega
      clear hx
      obtain ⟨b, hb8⟩ : ∃ b : UInt8, b = UInt8.ofNat (48 + x.toNat % 10) := ⟨_, rfl⟩
      have hone := one_string wr (48 + x % 10) b (by rw [hb8, UInt8.toNat_ofNat']; omega)
      have HB := Lib.hid hb8
      clear hb8
      have hdec : ¬ x % 10 < 0 := by omega
      go_wp2_with fail
      go_roundw
      case rel =>
        refine ⟨x / 10, b :: out, rfl, by exact congrArg Value.string (str_cat _ _), by omega, by omega, ?_, hb.alloc hb.size _⟩
        show _ = _
        rw [hD.out, dd_step x.toNat (by omega), ← HB.out, show (x / 10).toNat = x.toNat / 10 by omega, List.append_assoc]; rfl
      case measure => simp [intOf]; omega

set_option maxRecDepth 100000 in
theorem sfmt_neg (n : Int) (w : World) (h0 : n < 0) (h63 : -9223372036854775808 ≤ n) :
    Calls Tryd.prog 60 #[.int .i64 n] w fun e w' => e = .returned (.string ⟨(Lib.itoa n).toArray⟩) ∧ Below w.heap.size w w' := by
  rw [itoa_neg n h0]
  have hlen := dd_length_le n.natAbs (by omega)
  have hz : (n == 0) = false := by rw [beq_eq_false_iff_ne]; omega
  have hneg : decide (n < 0) = true := by simpa using h0
  go_enter Tryd.func60, Tryd.ntmps60
  go_wp2
  go_loopw [0, 3, 5] (fun m o _ wr => ∃ (x : Int) (out : List UInt8), m = .int .i64 x ∧ o = .string ⟨out.toArray⟩ ∧ x ≤ 0 ∧ -9223372036854775808 ≤ x ∧ Hid (dd n.natAbs = dd x.natAbs ++ out) ∧ Below w.heap.size w wr) (fun m _ _ _ => (intOf m).natAbs)
  case atStart => exact ⟨n, [], rfl, rfl, by omega, h63, by show _ = _; simp, Below.refl _ _⟩
  case round =>
    obtain ⟨x, out, rfl, rfl, hx0, hx1, hD, hb⟩ := hrel
    have hol : out.length ≤ 20 := by have := congrArg List.length hD.out; rw [List.length_append] at this; omega
    by_cases hx : x = 0
    · have hout := hD.out
      rw [hx] at hout
      have HO : Hid (dd n.natAbs = out) := hout
      have ht : (x != 0) = false := by rw [bne_eq_false_iff_eq]; exact hx
      clear hx hout
      go_wp2_with fail
      go_ret
      exact ⟨by rw [HO.out]; exact congrArg (fun z => Ending.returned (Value.string z)) (str_cat 45 out), hb⟩
    · have ht : (x != 0) = true := by rw [bne_iff_ne]; exact hx
      have hxp : x < 0 := by omega
      clear hx
      obtain ⟨u, hu⟩ : ∃ u : Nat, x = -(u : Int) := ⟨x.natAbs, by omega⟩
      obtain ⟨b, hb8⟩ : ∃ b : UInt8, b = UInt8.ofNat (48 + u % 10) := ⟨_, rfl⟩
      obtain ⟨r, hr⟩ : ∃ r : Int, r = ((u % 10 : Nat) : Int) := ⟨_, rfl⟩
      obtain ⟨q, hq⟩ : ∃ q : Int, q = -((u / 10 : Nat) : Int) := ⟨_, rfl⟩
      have hmod : x.tmod 10 = -r := by rw [hu, hr, Int.neg_tmod, Int.ofNat_tmod]; rfl
      have hdiv : x.tdiv 10 = q := by rw [hu, hq, Int.neg_tdiv, Int.ofNat_tdiv]; rfl
      have hone := one_string wr (48 + r) b (by rw [hb8, hr, UInt8.toNat_ofNat']; omega)
      have hr0 : 0 ≤ r := by omega
      have hr1 : r ≤ 9 := by omega
      have hq0 : q ≤ 0 := by omega
      have hq1 : -922337203685477580 ≤ q := by omega
      have hqx : q.natAbs < x.natAbs := by omega
      have HB := Lib.hid hb8
      have HR := Lib.hid hr
      have HQ := Lib.hid hq
      have HU := Lib.hid hu
      clear hb8 hr hq hu
      by_cases hr2 : r = 0
      · have hmod0 : x.tmod 10 = 0 := by rw [hmod, hr2]; rfl
        have hone0 := one_string wr 48 b (by rw [HB.out, UInt8.toNat_ofNat']; have := HR.out; omega)
        clear hmod hone hr2 hr0 hr1
        go_wp2_with fail
        go_roundw
        case rel =>
          refine ⟨q, b :: out, rfl, by exact congrArg Value.string (str_cat _ _), hq0, by omega, ?_, hb.alloc hb.size _⟩
          show _ = _
          have h1 := HU.out
          have h2 := HQ.out
          rw [hD.out, dd_step x.natAbs (by omega), show x.natAbs = u by omega, ← HB.out, show q.natAbs = u / 10 by omega, List.append_assoc]; rfl
        case measure => simp [intOf]; omega
      · have hneg1 : decide (-r < 0) = true := by simp; omega
        go_wp2_with fail
        go_roundw
        case rel =>
          refine ⟨q, b :: out, rfl, by exact congrArg Value.string (str_cat _ _), hq0, by omega, ?_, hb.alloc hb.size _⟩
          show _ = _
          have h1 := HU.out
          have h2 := HQ.out
          rw [hD.out, dd_step x.natAbs (by omega), show x.natAbs = u by omega, ← HB.out, show q.natAbs = u / 10 by omega, List.append_assoc]; rfl
        case measure => simp [intOf]; omega
theorem sfmt (n : Int) (w : World) (h0 : -9223372036854775808 ≤ n) (h1 : n ≤ 9223372036854775807) :
    Calls Tryd.prog 60 #[.int .i64 n] w fun e w' => e = .returned (.string ⟨(Lib.itoa n).toArray⟩) ∧ Below w.heap.size w w' := by
  by_cases hz : n = 0
  · subst hz; exact sfmt_zero w
  · by_cases hp : 0 < n
    · exact sfmt_pos n w hp h1
    · exact sfmt_neg n w (by omega) h0
end Go.Proofs.YtmlcdhblofjpbaaDoor
/- FormatInt: told by trees. -/
namespace Go.Proofs.YtmlcdhblofjpbaaDoor
open Go Go.RowKit V
set_option linter.unusedVariables false
theorem vfint_s (n : Int) (h : -9223372036854775808 ≤ n ∧ n ≤ 9223372036854775807) : VCD Tryd.prog 60 [(false, [.lit (.int .i64 n)])] false [(false, [.lit (.string ⟨(Lib.itoa n).toArray⟩)])] :=
  VCD.plain (ins := [(false, [.int .i64 n])]) (ag := false) (rs := [.string ⟨(Lib.itoa n).toArray⟩]) (fun u hu => by rw [List.mem_singleton.1 hu]; rfl) (fun w _ => sfmt n w h.1 h.2)
theorem vfint_i (n : Int) (h : -9223372036854775808 ≤ n ∧ n ≤ 9223372036854775807) : VCD Tryd.prog 98 [(false, [.lit (.int .i64 n)])] false [(false, [.lit (.string ⟨(Lib.itoa n).toArray⟩)])] :=
  VCD.plain (ins := [(false, [.int .i64 n])]) (ag := false) (rs := [.string ⟨(Lib.itoa n).toArray⟩]) (fun u hu => by rw [List.mem_singleton.1 hu]; rfl) (fun w hT => ifmt n w h.1 h.2 hT)
end Go.Proofs.YtmlcdhblofjpbaaDoor
/- The reference's FormatGroups: told by trees. -/
namespace Go.Proofs.YtmlcdhblofjpbaaDoor
open Go Go.RowKit V
set_option linter.unusedVariables false
set_option maxRecDepth 100000 in
set_option maxHeartbeats 2000000 in
theorem vfgroups_s (X : List GroupD) (hX : ∀ g ∈ X, GroupD.wf g) (hL : X.length ≤ 1048576) : VCD Tryd.prog 15 [(false, [.seq 33 (X.map tGroup)])] false [(false, [.lit (.string (⟨(Lib.join (X.map GroupD.txt) [32]).toArray⟩))])] := by
  refine VCD.enter Tryd.func15 rfl Tryd.ntmps15 (Nat.le_of_ble_eq_true rfl) fun E hE hD => ?_
  refine SV.seq' ?_
  refine SV.region ?_
  refine SV.op (OpL.ok (nb := 0) (ok_move (v := V.one (.sc _)) (.inr rfl) rfl) rfl (Nat.le_of_ble_eq_true rfl)) rfl ?_
  refine SV.nil ?_
  refine SV.tn ?_
  refine SV.seq' ?_
  refine SV.region ?_
  refine SV.op (OpL.ok (nb := 0) (ok_move (v := V.one (.sc _)) (.inr rfl) rfl) rfl (Nat.le_of_ble_eq_true rfl)) rfl ?_
  refine SV.nil ?_
  refine SV.tn ?_
  refine SV.seq' ?_
  refine SV.seq' ?_
  refine SV.region ?_
  refine SV.op (OpL.ok (nb := 0) (ok_move (v := V.one (.sc _)) (.inr rfl) rfl) rfl (Nat.le_of_ble_eq_true rfl)) rfl ?_
  refine SV.nil ?_
  refine SV.tn ?_
  refine SV.block ?_
  refine SV.loopF (X := Nat) (fun (σ : VS) t => ((((VS.nil.put 0 (σ.tm 0)).put 2 (σ.tm 2)).put 3 (V.flat false [.sc (.string ⟨(Lib.join ((X.take t).map GroupD.txt) [32]).toArray⟩)])).put 4 (V.flat false [.sc (.int .i64 ((t : Int)))]))) (fun t => t ≤ X.length) (fun t => X.length - t) ?_ ?_
  · skip
    refine SV.again (fun i => [].getD i 0) 0 ((by first | exact Nat.zero_le _ | (refine ⟨Nat.zero_le _, ?_⟩; simp; done) | (simp; done) | omega)) (pins hE rfl rfl) (VS.le.mk' (le_put (le_put (le_put (le_put le_nil (V.le.keep (ag := false) (xs := [.ro _]) (ys := [.ro _]) rfl rfl ⟨rfl, trivial⟩)) (V.le.keep (ag := false) (xs := [.sc _]) (ys := [.sc _]) rfl rfl ⟨rfl, trivial⟩)) (V.le.keep (ag := false) (xs := [.sc _]) (ys := [.sc _]) rfl rfl ⟨(by first | rfl | (show Leaf.sc _ = Leaf.sc _; refine congrArg Leaf.sc ?_; first | rfl | go_num | ((first | (rw [hn]; simp [GroupD.txt]; done) | (subst ht0; rw [hn]; simp [GroupD.txt, Lib.join_nil]; done)); first | done | rfl | go_num | (simp; done) | (simp; omega)) | (simp [cntAll]; done)) | (simp [cntAll]; done) | (simp; omega)), trivial⟩)) (V.le.keep (ag := false) (xs := [.sc _]) (ys := [.sc _]) rfl rfl ⟨(by first | rfl | (show Leaf.sc _ = Leaf.sc _; refine congrArg Leaf.sc ?_; first | rfl | go_num | ((first | (rw [hn]; simp [GroupD.txt]; done) | (subst ht0; rw [hn]; simp [GroupD.txt, Lib.join_nil]; done)); first | done | rfl | go_num | (simp; done) | (simp; omega)) | (simp [cntAll]; done)) | (simp [cntAll]; done) | (simp; omega)), trivial⟩)) trivial trivial nil_ob (fun i j hi hj e => absurd hi (Nat.not_lt_zero i)))
  · rintro t ht
    refine SV.seq' ?_
    refine SV.seq' ?_
    refine SV.region ?_
    refine SV.op (OpL.ok (nb := 0) (ok_move (v := V.one (.sc _)) (.inl rfl) rfl) rfl (Nat.le_of_ble_eq_true rfl)) rfl ?_
    refine SV.op (OpL.ok (nb := 0) (ok_move (v := V.one (.ro _)) (.inl rfl) rfl) rfl (Nat.le_of_ble_eq_true rfl)) rfl ?_
    refine SV.op (OpL.ok (nb := 0) (ok_len (lf := .ro _) rfl elt_impl_Group.und rfl rfl) rfl (Nat.le_of_ble_eq_true rfl)) rfl ?_
    refine SV.op (OpL.ok (nb := 0) (ok_s2 (x := .tmp 5) (x' := .tmp 7) (VScal.one rfl) (VScal.one rfl) (fun ρ h1 h2 w => by go_simp; (try go_bits); with_reducible rfl) rfl) rfl (Nat.le_of_ble_eq_true rfl)) rfl ?_
    refine SV.nil ?_
    refine SV.tn ?_
    refine SV.cond rfl (fun hc0 => ?_) (fun hc0 => ?_)
    · skip   -- c0.T
      have htl : t < X.length := by simpa using hc0
      have hx : X[t]? = some X[t] := by simp [htl]
      have hw := hX X[t] (List.getElem_mem htl)
      have hjl := GroupD.join_len_le (X.take t) (fun g hg => hX g (List.mem_of_mem_take hg))
      have hj2 : (X.take t).length ≤ t := by simp; omega
      have f0 := GroupD.itoa_le hw.1
      have f1 := GroupD.itoa_le hw.2.1
      have f2 := GroupD.itoa_le hw.2.2.1
      have f3 := GroupD.itoa_le hw.2.2.2.1
      have f4 := GroupD.itoa_le hw.2.2.2.2
      refine SV.skip ?_
      refine SV.tn ?_
      refine SV.seq' ?_
      refine SV.block ?_
      refine SV.seq' ?_
      refine SV.seq' ?_
      refine SV.region ?_
      refine SV.op (OpL.ok (nb := 0) (ok_move (v := V.one (.sc _)) (.inl rfl) rfl) rfl (Nat.le_of_ble_eq_true rfl)) rfl ?_
      refine SV.op (OpL.ok (nb := 0) (ok_s2 (x := .tmp 11) (x' := .const ((Value.int IntKind.i64 0))) (VScal.one rfl) (VScal.one rfl) (fun ρ h1 h2 w => by go_simp; (try go_bits); with_reducible rfl) rfl) rfl (Nat.le_of_ble_eq_true rfl)) rfl ?_
      refine SV.nil ?_
      refine SV.tn ?_
      refine SV.cond rfl (fun hc1 => ?_) (fun hc1 => ?_)
      · skip   -- c1.T
        have hn := GroupD.join_next X t htl
        rw [if_neg (by simp at hc1; omega)] at hn
        refine SV.region ?_
        refine SV.op (OpL.ok (nb := 0) (ok_move (v := V.one (.sc _)) (.inl rfl) rfl) rfl (Nat.le_of_ble_eq_true rfl)) rfl ?_
        refine SV.op (OpL.ok (nb := 0) (ok_s2 (v := .string ⟨List.toArray (_ ++ _)⟩) (x := .tmp 13) (x' := .const ((Value.string { data := #[32] }))) (VScal.one rfl) (VScal.one rfl) (fun ρ h1 h2 w => cat_run rfl h1 h2 (by first | omega | (simp only [List.length_append, List.length_cons, List.length_nil]; omega))) rfl) rfl (Nat.le_of_ble_eq_true rfl)) rfl ?_
        refine SV.op (OpL.ok (nb := 0) (ok_move (v := V.one (.sc _)) (.inr rfl) rfl) rfl (Nat.le_of_ble_eq_true rfl)) rfl ?_
        refine SV.nil ?_
        refine SV.tn ?_
        refine SV.draw [.q 0, .q 1, .q 2, .q 3, .q 4, .q 5, .q 9, .q 10, .q 11, .q 12, .q 13, .q 17, .q 18, .q 19, .q 20, .q 21, .q 25, .q 26, .q 27, .q 28, .q 29, .q 33, .q 34, .q 35, .q 36, .q 37, .m 6, .q 7, .q 8, .m 14, .q 15, .q 16, .m 22, .q 23, .q 24, .m 30, .q 31, .q 32, .m 38, .q 39, .q 40] [] (by kernel_rfl) (by kernel_rfl) ?_
        refine DW.q rfl (ok_move (v := V.one (.sc _)) (.inl rfl) rfl) rfl rfl (Nat.le_of_ble_eq_true rfl) (fun _ _ _ _ h => h) ?_
        refine DW.q rfl (ok_move (v := V.one (.ro _)) (.inl rfl) rfl) rfl rfl (Nat.le_of_ble_eq_true rfl) (fun _ _ _ _ h => h) ?_
        refine DW.q rfl (ok_move (v := V.one (.sc _)) (.inl rfl) rfl) rfl rfl (Nat.le_of_ble_eq_true rfl) (fun _ _ _ _ h => h) ?_
        refine DW.q rfl (ok_index (n := 5) (lf := .ro _) rfl elt_impl_Group.und sz_impl_Group rfl rfl rfl (map_at (by assumption))) rfl rfl (Nat.le_of_ble_eq_true rfl) (fun _ _ _ _ h => h) ?_
        refine DW.q rfl (ok_field_el (p := .rp _) (off := 0) rfl rfl rfl fld_impl_Group_0) rfl rfl (Nat.le_of_ble_eq_true rfl) (fun _ _ _ _ h => h) ?_
        refine DW.q rfl (ok_load_rp (ag := false) (m := 1) (ys := [.sc _]) rfl rfl agg_int sz_int (fun _ => rfl) (Nat.le_of_ble_eq_true rfl) rfl) rfl rfl (Nat.le_of_ble_eq_true rfl) (fun _ _ _ _ h => h) ?_
        refine DW.q rfl (ok_move (v := V.one (.ro _)) (.inl rfl) rfl) rfl rfl (Nat.le_of_ble_eq_true rfl) (fun _ _ _ _ h => h) ?_
        refine DW.q rfl (ok_move (v := V.one (.sc _)) (.inl rfl) rfl) rfl rfl (Nat.le_of_ble_eq_true rfl) (fun _ _ _ _ h => h) ?_
        refine DW.q rfl (ok_index (n := 5) (lf := .ro _) rfl elt_impl_Group.und sz_impl_Group rfl rfl rfl (map_at (by assumption))) rfl rfl (Nat.le_of_ble_eq_true rfl) (fun _ _ _ _ h => h) ?_
        refine DW.q rfl (ok_field_el (p := .rp _) (off := 1) rfl rfl rfl fld_impl_Group_1) rfl rfl (Nat.le_of_ble_eq_true rfl) (fun _ _ _ _ h => h) ?_
        refine DW.q rfl (ok_load_rp (ag := false) (m := 1) (ys := [.sc _]) rfl rfl agg_int sz_int (fun _ => rfl) (Nat.le_of_ble_eq_true rfl) rfl) rfl rfl (Nat.le_of_ble_eq_true rfl) (fun _ _ _ _ h => h) ?_
        refine DW.q rfl (ok_move (v := V.one (.ro _)) (.inl rfl) rfl) rfl rfl (Nat.le_of_ble_eq_true rfl) (fun _ _ _ _ h => h) ?_
        refine DW.q rfl (ok_move (v := V.one (.sc _)) (.inl rfl) rfl) rfl rfl (Nat.le_of_ble_eq_true rfl) (fun _ _ _ _ h => h) ?_
        refine DW.q rfl (ok_index (n := 5) (lf := .ro _) rfl elt_impl_Group.und sz_impl_Group rfl rfl rfl (map_at (by assumption))) rfl rfl (Nat.le_of_ble_eq_true rfl) (fun _ _ _ _ h => h) ?_
        refine DW.q rfl (ok_field_el (p := .rp _) (off := 2) rfl rfl rfl fld_impl_Group_2) rfl rfl (Nat.le_of_ble_eq_true rfl) (fun _ _ _ _ h => h) ?_
        refine DW.q rfl (ok_load_rp (ag := false) (m := 1) (ys := [.sc _]) rfl rfl agg_int sz_int (fun _ => rfl) (Nat.le_of_ble_eq_true rfl) rfl) rfl rfl (Nat.le_of_ble_eq_true rfl) (fun _ _ _ _ h => h) ?_
        refine DW.q rfl (ok_move (v := V.one (.ro _)) (.inl rfl) rfl) rfl rfl (Nat.le_of_ble_eq_true rfl) (fun _ _ _ _ h => h) ?_
        refine DW.q rfl (ok_move (v := V.one (.sc _)) (.inl rfl) rfl) rfl rfl (Nat.le_of_ble_eq_true rfl) (fun _ _ _ _ h => h) ?_
        refine DW.q rfl (ok_index (n := 5) (lf := .ro _) rfl elt_impl_Group.und sz_impl_Group rfl rfl rfl (map_at (by assumption))) rfl rfl (Nat.le_of_ble_eq_true rfl) (fun _ _ _ _ h => h) ?_
        refine DW.q rfl (ok_field_el (p := .rp _) (off := 3) rfl rfl rfl fld_impl_Group_3) rfl rfl (Nat.le_of_ble_eq_true rfl) (fun _ _ _ _ h => h) ?_
        refine DW.q rfl (ok_load_rp (ag := false) (m := 1) (ys := [.sc _]) rfl rfl agg_int sz_int (fun _ => rfl) (Nat.le_of_ble_eq_true rfl) rfl) rfl rfl (Nat.le_of_ble_eq_true rfl) (fun _ _ _ _ h => h) ?_
        refine DW.q rfl (ok_move (v := V.one (.ro _)) (.inl rfl) rfl) rfl rfl (Nat.le_of_ble_eq_true rfl) (fun _ _ _ _ h => h) ?_
        refine DW.q rfl (ok_move (v := V.one (.sc _)) (.inl rfl) rfl) rfl rfl (Nat.le_of_ble_eq_true rfl) (fun _ _ _ _ h => h) ?_
        refine DW.q rfl (ok_index (n := 5) (lf := .ro _) rfl elt_impl_Group.und sz_impl_Group rfl rfl rfl (map_at (by assumption))) rfl rfl (Nat.le_of_ble_eq_true rfl) (fun _ _ _ _ h => h) ?_
        refine DW.q rfl (ok_field_el (p := .rp _) (off := 4) rfl rfl rfl fld_impl_Group_4) rfl rfl (Nat.le_of_ble_eq_true rfl) (fun _ _ _ _ h => h) ?_
        refine DW.q rfl (ok_load_rp (ag := false) (m := 1) (ys := [.sc _]) rfl rfl agg_int sz_int (fun _ => rfl) (Nat.le_of_ble_eq_true rfl) rfl) rfl rfl (Nat.le_of_ble_eq_true rfl) (fun _ _ _ _ h => h) ?_
        refine DW.m [] rfl (ok_callD (ls := [(false, [.sc _])]) hD rfl rfl ⟨_, _, Tryd.func60, rfl, by decide⟩ (vfint_s X[t].fKey hw.1) ⟨⟨[.sc _], rfl, ⟨rfl, trivial⟩⟩, trivial⟩ rfl (Nat.le_of_ble_eq_true rfl)) rfl (Nat.le_of_ble_eq_true rfl) (Nat.le_of_ble_eq_true rfl) (.inl rfl) (fun j hj => by cases hj) ?_
        refine DW.q rfl (ok_s2 (v := .string ⟨List.toArray (_ ++ _)⟩) (x := .tmp 15) (x' := .tmp 21) (VScal.one rfl) (VScal.one rfl) (fun ρ h1 h2 w => cat_run rfl h1 h2 (by first | omega | (simp only [List.length_append, List.length_cons, List.length_nil]; omega))) rfl) rfl rfl (Nat.le_of_ble_eq_true rfl) (fun _ _ _ _ h => h) ?_
        refine DW.q rfl (ok_s2 (v := .string ⟨List.toArray (_ ++ _)⟩) (x := .tmp 22) (x' := .const ((Value.string { data := #[58] }))) (VScal.one rfl) (VScal.one rfl) (fun ρ h1 h2 w => cat_run rfl h1 h2 (by first | omega | (simp only [List.length_append, List.length_cons, List.length_nil]; omega))) rfl) rfl rfl (Nat.le_of_ble_eq_true rfl) (fun _ _ _ _ h => h) ?_
        refine DW.m [] rfl (ok_callD (ls := [(false, [.sc _])]) hD rfl rfl ⟨_, _, Tryd.func60, rfl, by decide⟩ (vfint_s X[t].fCount hw.2.1) ⟨⟨[.sc _], rfl, ⟨rfl, trivial⟩⟩, trivial⟩ rfl (Nat.le_of_ble_eq_true rfl)) rfl (Nat.le_of_ble_eq_true rfl) (Nat.le_of_ble_eq_true rfl) (.inl rfl) (fun j hj => by cases hj) ?_
        refine DW.q rfl (ok_s2 (v := .string ⟨List.toArray (_ ++ _)⟩) (x := .tmp 23) (x' := .tmp 29) (VScal.one rfl) (VScal.one rfl) (fun ρ h1 h2 w => cat_run rfl h1 h2 (by first | omega | (simp only [List.length_append, List.length_cons, List.length_nil]; omega))) rfl) rfl rfl (Nat.le_of_ble_eq_true rfl) (fun _ _ _ _ h => h) ?_
        refine DW.q rfl (ok_s2 (v := .string ⟨List.toArray (_ ++ _)⟩) (x := .tmp 30) (x' := .const ((Value.string { data := #[44] }))) (VScal.one rfl) (VScal.one rfl) (fun ρ h1 h2 w => cat_run rfl h1 h2 (by first | omega | (simp only [List.length_append, List.length_cons, List.length_nil]; omega))) rfl) rfl rfl (Nat.le_of_ble_eq_true rfl) (fun _ _ _ _ h => h) ?_
        refine DW.m [] rfl (ok_callD (ls := [(false, [.sc _])]) hD rfl rfl ⟨_, _, Tryd.func60, rfl, by decide⟩ (vfint_s X[t].fSum hw.2.2.1) ⟨⟨[.sc _], rfl, ⟨rfl, trivial⟩⟩, trivial⟩ rfl (Nat.le_of_ble_eq_true rfl)) rfl (Nat.le_of_ble_eq_true rfl) (Nat.le_of_ble_eq_true rfl) (.inl rfl) (fun j hj => by cases hj) ?_
        refine DW.q rfl (ok_s2 (v := .string ⟨List.toArray (_ ++ _)⟩) (x := .tmp 31) (x' := .tmp 37) (VScal.one rfl) (VScal.one rfl) (fun ρ h1 h2 w => cat_run rfl h1 h2 (by first | omega | (simp only [List.length_append, List.length_cons, List.length_nil]; omega))) rfl) rfl rfl (Nat.le_of_ble_eq_true rfl) (fun _ _ _ _ h => h) ?_
        refine DW.q rfl (ok_s2 (v := .string ⟨List.toArray (_ ++ _)⟩) (x := .tmp 38) (x' := .const ((Value.string { data := #[44] }))) (VScal.one rfl) (VScal.one rfl) (fun ρ h1 h2 w => cat_run rfl h1 h2 (by first | omega | (simp only [List.length_append, List.length_cons, List.length_nil]; omega))) rfl) rfl rfl (Nat.le_of_ble_eq_true rfl) (fun _ _ _ _ h => h) ?_
        refine DW.m [] rfl (ok_callD (ls := [(false, [.sc _])]) hD rfl rfl ⟨_, _, Tryd.func60, rfl, by decide⟩ (vfint_s X[t].fMin hw.2.2.2.1) ⟨⟨[.sc _], rfl, ⟨rfl, trivial⟩⟩, trivial⟩ rfl (Nat.le_of_ble_eq_true rfl)) rfl (Nat.le_of_ble_eq_true rfl) (Nat.le_of_ble_eq_true rfl) (.inl rfl) (fun j hj => by cases hj) ?_
        refine DW.q rfl (ok_s2 (v := .string ⟨List.toArray (_ ++ _)⟩) (x := .tmp 39) (x' := .tmp 45) (VScal.one rfl) (VScal.one rfl) (fun ρ h1 h2 w => cat_run rfl h1 h2 (by first | omega | (simp only [List.length_append, List.length_cons, List.length_nil]; omega))) rfl) rfl rfl (Nat.le_of_ble_eq_true rfl) (fun _ _ _ _ h => h) ?_
        refine DW.q rfl (ok_s2 (v := .string ⟨List.toArray (_ ++ _)⟩) (x := .tmp 46) (x' := .const ((Value.string { data := #[44] }))) (VScal.one rfl) (VScal.one rfl) (fun ρ h1 h2 w => cat_run rfl h1 h2 (by first | omega | (simp only [List.length_append, List.length_cons, List.length_nil]; omega))) rfl) rfl rfl (Nat.le_of_ble_eq_true rfl) (fun _ _ _ _ h => h) ?_
        refine DW.m [] rfl (ok_callD (ls := [(false, [.sc _])]) hD rfl rfl ⟨_, _, Tryd.func60, rfl, by decide⟩ (vfint_s X[t].fMax hw.2.2.2.2) ⟨⟨[.sc _], rfl, ⟨rfl, trivial⟩⟩, trivial⟩ rfl (Nat.le_of_ble_eq_true rfl)) rfl (Nat.le_of_ble_eq_true rfl) (Nat.le_of_ble_eq_true rfl) (.inl rfl) (fun j hj => by cases hj) ?_
        refine DW.q rfl (ok_s2 (v := .string ⟨List.toArray (_ ++ _)⟩) (x := .tmp 47) (x' := .tmp 53) (VScal.one rfl) (VScal.one rfl) (fun ρ h1 h2 w => cat_run rfl h1 h2 (by first | omega | (simp only [List.length_append, List.length_cons, List.length_nil]; omega))) rfl) rfl rfl (Nat.le_of_ble_eq_true rfl) (fun _ _ _ _ h => h) ?_
        refine DW.q rfl (ok_move (v := V.one (.sc _)) (.inr rfl) rfl) rfl rfl (Nat.le_of_ble_eq_true rfl) (fun _ _ _ _ h => h) ?_
        refine DW.stores ?_
        refine SV.zend ?_
        refine SV.bn ?_
        refine SV.tn ?_
        refine SV.region ?_
        refine SV.op (OpL.ok (nb := 0) (ok_move (v := V.one (.sc _)) (.inl rfl) rfl) rfl (Nat.le_of_ble_eq_true rfl)) rfl ?_
        refine SV.op (OpL.ok (nb := 0) (ok_s2 (x := .tmp 9) (x' := .const ((Value.int IntKind.i64 1))) (VScal.one rfl) (VScal.one rfl) (fun ρ h1 h2 w => by go_simp; (try go_bits); with_reducible rfl) rfl) rfl (Nat.le_of_ble_eq_true rfl)) rfl ?_
        refine SV.op (OpL.ok (nb := 0) (ok_move (v := V.one (.sc _)) (.inr rfl) rfl) rfl (Nat.le_of_ble_eq_true rfl)) rfl ?_
        refine SV.nil ?_
        refine SV.tn ?_
        refine SV.again (fun i => [].getD i 0) (t + 1) (⟨by omega, by omega⟩) (pins hE rfl rfl) (VS.le.mk' (le_put (le_put (le_put (le_put le_nil (V.le.keep (ag := false) (xs := [.ro _]) (ys := [.ro _]) rfl rfl ⟨rfl, trivial⟩)) (V.le.keep (ag := false) (xs := [.sc _]) (ys := [.sc _]) rfl rfl ⟨rfl, trivial⟩)) (V.le.keep (ag := false) (xs := [.sc _]) (ys := [.sc _]) rfl rfl ⟨(by first | rfl | (show Leaf.sc _ = Leaf.sc _; refine congrArg Leaf.sc ?_; first | rfl | go_num | ((first | (rw [hn]; simp [GroupD.txt]; done) | (subst ht0; rw [hn]; simp [GroupD.txt, Lib.join_nil]; done)); first | done | rfl | go_num | (simp; done) | (simp; omega)) | (simp [cntAll]; done)) | (simp [cntAll]; done) | (simp; omega)), trivial⟩)) (V.le.keep (ag := false) (xs := [.sc _]) (ys := [.sc _]) rfl rfl ⟨(by first | rfl | (show Leaf.sc _ = Leaf.sc _; refine congrArg Leaf.sc ?_; first | rfl | go_num | ((first | (rw [hn]; simp [GroupD.txt]; done) | (subst ht0; rw [hn]; simp [GroupD.txt, Lib.join_nil]; done)); first | done | rfl | go_num | (simp; done) | (simp; omega)) | (simp [cntAll]; done)) | (simp [cntAll]; done) | (simp; omega)), trivial⟩)) trivial trivial nil_ob (fun i j hi hj e => absurd hi (Nat.not_lt_zero i)))
      · skip   -- c1.F
        have hn := GroupD.join_next X t htl
        rw [if_pos (by simp at hc1; omega)] at hn
        have ht0 : t = 0 := (by simp at hc1; omega)
        refine SV.skip ?_
        refine SV.tn ?_
        refine SV.draw [.q 0, .q 1, .q 2, .q 3, .q 4, .q 5, .q 9, .q 10, .q 11, .q 12, .q 13, .q 17, .q 18, .q 19, .q 20, .q 21, .q 25, .q 26, .q 27, .q 28, .q 29, .q 33, .q 34, .q 35, .q 36, .q 37, .m 6, .q 7, .q 8, .m 14, .q 15, .q 16, .m 22, .q 23, .q 24, .m 30, .q 31, .q 32, .m 38, .q 39, .q 40] [] (by kernel_rfl) (by kernel_rfl) ?_
        refine DW.q rfl (ok_move (v := V.one (.sc _)) (.inl rfl) rfl) rfl rfl (Nat.le_of_ble_eq_true rfl) (fun _ _ _ _ h => h) ?_
        refine DW.q rfl (ok_move (v := V.one (.ro _)) (.inl rfl) rfl) rfl rfl (Nat.le_of_ble_eq_true rfl) (fun _ _ _ _ h => h) ?_
        refine DW.q rfl (ok_move (v := V.one (.sc _)) (.inl rfl) rfl) rfl rfl (Nat.le_of_ble_eq_true rfl) (fun _ _ _ _ h => h) ?_
        refine DW.q rfl (ok_index (n := 5) (lf := .ro _) rfl elt_impl_Group.und sz_impl_Group rfl rfl rfl (map_at (by assumption))) rfl rfl (Nat.le_of_ble_eq_true rfl) (fun _ _ _ _ h => h) ?_
        refine DW.q rfl (ok_field_el (p := .rp _) (off := 0) rfl rfl rfl fld_impl_Group_0) rfl rfl (Nat.le_of_ble_eq_true rfl) (fun _ _ _ _ h => h) ?_
        refine DW.q rfl (ok_load_rp (ag := false) (m := 1) (ys := [.sc _]) rfl rfl agg_int sz_int (fun _ => rfl) (Nat.le_of_ble_eq_true rfl) rfl) rfl rfl (Nat.le_of_ble_eq_true rfl) (fun _ _ _ _ h => h) ?_
        refine DW.q rfl (ok_move (v := V.one (.ro _)) (.inl rfl) rfl) rfl rfl (Nat.le_of_ble_eq_true rfl) (fun _ _ _ _ h => h) ?_
        refine DW.q rfl (ok_move (v := V.one (.sc _)) (.inl rfl) rfl) rfl rfl (Nat.le_of_ble_eq_true rfl) (fun _ _ _ _ h => h) ?_
        refine DW.q rfl (ok_index (n := 5) (lf := .ro _) rfl elt_impl_Group.und sz_impl_Group rfl rfl rfl (map_at (by assumption))) rfl rfl (Nat.le_of_ble_eq_true rfl) (fun _ _ _ _ h => h) ?_
        refine DW.q rfl (ok_field_el (p := .rp _) (off := 1) rfl rfl rfl fld_impl_Group_1) rfl rfl (Nat.le_of_ble_eq_true rfl) (fun _ _ _ _ h => h) ?_
        refine DW.q rfl (ok_load_rp (ag := false) (m := 1) (ys := [.sc _]) rfl rfl agg_int sz_int (fun _ => rfl) (Nat.le_of_ble_eq_true rfl) rfl) rfl rfl (Nat.le_of_ble_eq_true rfl) (fun _ _ _ _ h => h) ?_
        refine DW.q rfl (ok_move (v := V.one (.ro _)) (.inl rfl) rfl) rfl rfl (Nat.le_of_ble_eq_true rfl) (fun _ _ _ _ h => h) ?_
        refine DW.q rfl (ok_move (v := V.one (.sc _)) (.inl rfl) rfl) rfl rfl (Nat.le_of_ble_eq_true rfl) (fun _ _ _ _ h => h) ?_
        refine DW.q rfl (ok_index (n := 5) (lf := .ro _) rfl elt_impl_Group.und sz_impl_Group rfl rfl rfl (map_at (by assumption))) rfl rfl (Nat.le_of_ble_eq_true rfl) (fun _ _ _ _ h => h) ?_
        refine DW.q rfl (ok_field_el (p := .rp _) (off := 2) rfl rfl rfl fld_impl_Group_2) rfl rfl (Nat.le_of_ble_eq_true rfl) (fun _ _ _ _ h => h) ?_
        refine DW.q rfl (ok_load_rp (ag := false) (m := 1) (ys := [.sc _]) rfl rfl agg_int sz_int (fun _ => rfl) (Nat.le_of_ble_eq_true rfl) rfl) rfl rfl (Nat.le_of_ble_eq_true rfl) (fun _ _ _ _ h => h) ?_
        refine DW.q rfl (ok_move (v := V.one (.ro _)) (.inl rfl) rfl) rfl rfl (Nat.le_of_ble_eq_true rfl) (fun _ _ _ _ h => h) ?_
        refine DW.q rfl (ok_move (v := V.one (.sc _)) (.inl rfl) rfl) rfl rfl (Nat.le_of_ble_eq_true rfl) (fun _ _ _ _ h => h) ?_
        refine DW.q rfl (ok_index (n := 5) (lf := .ro _) rfl elt_impl_Group.und sz_impl_Group rfl rfl rfl (map_at (by assumption))) rfl rfl (Nat.le_of_ble_eq_true rfl) (fun _ _ _ _ h => h) ?_
        refine DW.q rfl (ok_field_el (p := .rp _) (off := 3) rfl rfl rfl fld_impl_Group_3) rfl rfl (Nat.le_of_ble_eq_true rfl) (fun _ _ _ _ h => h) ?_
        refine DW.q rfl (ok_load_rp (ag := false) (m := 1) (ys := [.sc _]) rfl rfl agg_int sz_int (fun _ => rfl) (Nat.le_of_ble_eq_true rfl) rfl) rfl rfl (Nat.le_of_ble_eq_true rfl) (fun _ _ _ _ h => h) ?_
        refine DW.q rfl (ok_move (v := V.one (.ro _)) (.inl rfl) rfl) rfl rfl (Nat.le_of_ble_eq_true rfl) (fun _ _ _ _ h => h) ?_
        refine DW.q rfl (ok_move (v := V.one (.sc _)) (.inl rfl) rfl) rfl rfl (Nat.le_of_ble_eq_true rfl) (fun _ _ _ _ h => h) ?_
        refine DW.q rfl (ok_index (n := 5) (lf := .ro _) rfl elt_impl_Group.und sz_impl_Group rfl rfl rfl (map_at (by assumption))) rfl rfl (Nat.le_of_ble_eq_true rfl) (fun _ _ _ _ h => h) ?_
        refine DW.q rfl (ok_field_el (p := .rp _) (off := 4) rfl rfl rfl fld_impl_Group_4) rfl rfl (Nat.le_of_ble_eq_true rfl) (fun _ _ _ _ h => h) ?_
        refine DW.q rfl (ok_load_rp (ag := false) (m := 1) (ys := [.sc _]) rfl rfl agg_int sz_int (fun _ => rfl) (Nat.le_of_ble_eq_true rfl) rfl) rfl rfl (Nat.le_of_ble_eq_true rfl) (fun _ _ _ _ h => h) ?_
        refine DW.m [] rfl (ok_callD (ls := [(false, [.sc _])]) hD rfl rfl ⟨_, _, Tryd.func60, rfl, by decide⟩ (vfint_s X[t].fKey hw.1) ⟨⟨[.sc _], rfl, ⟨rfl, trivial⟩⟩, trivial⟩ rfl (Nat.le_of_ble_eq_true rfl)) rfl (Nat.le_of_ble_eq_true rfl) (Nat.le_of_ble_eq_true rfl) (.inl rfl) (fun j hj => by cases hj) ?_
        refine DW.q rfl (ok_s2 (v := .string ⟨List.toArray (_ ++ _)⟩) (x := .tmp 15) (x' := .tmp 21) (VScal.one rfl) (VScal.one rfl) (fun ρ h1 h2 w => cat_run rfl h1 h2 (by first | omega | (simp only [List.length_append, List.length_cons, List.length_nil]; omega))) rfl) rfl rfl (Nat.le_of_ble_eq_true rfl) (fun _ _ _ _ h => h) ?_
        refine DW.q rfl (ok_s2 (v := .string ⟨List.toArray (_ ++ _)⟩) (x := .tmp 22) (x' := .const ((Value.string { data := #[58] }))) (VScal.one rfl) (VScal.one rfl) (fun ρ h1 h2 w => cat_run rfl h1 h2 (by first | omega | (simp only [List.length_append, List.length_cons, List.length_nil]; omega))) rfl) rfl rfl (Nat.le_of_ble_eq_true rfl) (fun _ _ _ _ h => h) ?_
        refine DW.m [] rfl (ok_callD (ls := [(false, [.sc _])]) hD rfl rfl ⟨_, _, Tryd.func60, rfl, by decide⟩ (vfint_s X[t].fCount hw.2.1) ⟨⟨[.sc _], rfl, ⟨rfl, trivial⟩⟩, trivial⟩ rfl (Nat.le_of_ble_eq_true rfl)) rfl (Nat.le_of_ble_eq_true rfl) (Nat.le_of_ble_eq_true rfl) (.inl rfl) (fun j hj => by cases hj) ?_
        refine DW.q rfl (ok_s2 (v := .string ⟨List.toArray (_ ++ _)⟩) (x := .tmp 23) (x' := .tmp 29) (VScal.one rfl) (VScal.one rfl) (fun ρ h1 h2 w => cat_run rfl h1 h2 (by first | omega | (simp only [List.length_append, List.length_cons, List.length_nil]; omega))) rfl) rfl rfl (Nat.le_of_ble_eq_true rfl) (fun _ _ _ _ h => h) ?_
        refine DW.q rfl (ok_s2 (v := .string ⟨List.toArray (_ ++ _)⟩) (x := .tmp 30) (x' := .const ((Value.string { data := #[44] }))) (VScal.one rfl) (VScal.one rfl) (fun ρ h1 h2 w => cat_run rfl h1 h2 (by first | omega | (simp only [List.length_append, List.length_cons, List.length_nil]; omega))) rfl) rfl rfl (Nat.le_of_ble_eq_true rfl) (fun _ _ _ _ h => h) ?_
        refine DW.m [] rfl (ok_callD (ls := [(false, [.sc _])]) hD rfl rfl ⟨_, _, Tryd.func60, rfl, by decide⟩ (vfint_s X[t].fSum hw.2.2.1) ⟨⟨[.sc _], rfl, ⟨rfl, trivial⟩⟩, trivial⟩ rfl (Nat.le_of_ble_eq_true rfl)) rfl (Nat.le_of_ble_eq_true rfl) (Nat.le_of_ble_eq_true rfl) (.inl rfl) (fun j hj => by cases hj) ?_
        refine DW.q rfl (ok_s2 (v := .string ⟨List.toArray (_ ++ _)⟩) (x := .tmp 31) (x' := .tmp 37) (VScal.one rfl) (VScal.one rfl) (fun ρ h1 h2 w => cat_run rfl h1 h2 (by first | omega | (simp only [List.length_append, List.length_cons, List.length_nil]; omega))) rfl) rfl rfl (Nat.le_of_ble_eq_true rfl) (fun _ _ _ _ h => h) ?_
        refine DW.q rfl (ok_s2 (v := .string ⟨List.toArray (_ ++ _)⟩) (x := .tmp 38) (x' := .const ((Value.string { data := #[44] }))) (VScal.one rfl) (VScal.one rfl) (fun ρ h1 h2 w => cat_run rfl h1 h2 (by first | omega | (simp only [List.length_append, List.length_cons, List.length_nil]; omega))) rfl) rfl rfl (Nat.le_of_ble_eq_true rfl) (fun _ _ _ _ h => h) ?_
        refine DW.m [] rfl (ok_callD (ls := [(false, [.sc _])]) hD rfl rfl ⟨_, _, Tryd.func60, rfl, by decide⟩ (vfint_s X[t].fMin hw.2.2.2.1) ⟨⟨[.sc _], rfl, ⟨rfl, trivial⟩⟩, trivial⟩ rfl (Nat.le_of_ble_eq_true rfl)) rfl (Nat.le_of_ble_eq_true rfl) (Nat.le_of_ble_eq_true rfl) (.inl rfl) (fun j hj => by cases hj) ?_
        refine DW.q rfl (ok_s2 (v := .string ⟨List.toArray (_ ++ _)⟩) (x := .tmp 39) (x' := .tmp 45) (VScal.one rfl) (VScal.one rfl) (fun ρ h1 h2 w => cat_run rfl h1 h2 (by first | omega | (simp only [List.length_append, List.length_cons, List.length_nil]; omega))) rfl) rfl rfl (Nat.le_of_ble_eq_true rfl) (fun _ _ _ _ h => h) ?_
        refine DW.q rfl (ok_s2 (v := .string ⟨List.toArray (_ ++ _)⟩) (x := .tmp 46) (x' := .const ((Value.string { data := #[44] }))) (VScal.one rfl) (VScal.one rfl) (fun ρ h1 h2 w => cat_run rfl h1 h2 (by first | omega | (simp only [List.length_append, List.length_cons, List.length_nil]; omega))) rfl) rfl rfl (Nat.le_of_ble_eq_true rfl) (fun _ _ _ _ h => h) ?_
        refine DW.m [] rfl (ok_callD (ls := [(false, [.sc _])]) hD rfl rfl ⟨_, _, Tryd.func60, rfl, by decide⟩ (vfint_s X[t].fMax hw.2.2.2.2) ⟨⟨[.sc _], rfl, ⟨rfl, trivial⟩⟩, trivial⟩ rfl (Nat.le_of_ble_eq_true rfl)) rfl (Nat.le_of_ble_eq_true rfl) (Nat.le_of_ble_eq_true rfl) (.inl rfl) (fun j hj => by cases hj) ?_
        refine DW.q rfl (ok_s2 (v := .string ⟨List.toArray (_ ++ _)⟩) (x := .tmp 47) (x' := .tmp 53) (VScal.one rfl) (VScal.one rfl) (fun ρ h1 h2 w => cat_run rfl h1 h2 (by first | omega | (simp only [List.length_append, List.length_cons, List.length_nil]; omega))) rfl) rfl rfl (Nat.le_of_ble_eq_true rfl) (fun _ _ _ _ h => h) ?_
        refine DW.q rfl (ok_move (v := V.one (.sc _)) (.inr rfl) rfl) rfl rfl (Nat.le_of_ble_eq_true rfl) (fun _ _ _ _ h => h) ?_
        refine DW.stores ?_
        refine SV.zend ?_
        refine SV.bn ?_
        refine SV.tn ?_
        refine SV.region ?_
        refine SV.op (OpL.ok (nb := 0) (ok_move (v := V.one (.sc _)) (.inl rfl) rfl) rfl (Nat.le_of_ble_eq_true rfl)) rfl ?_
        refine SV.op (OpL.ok (nb := 0) (ok_s2 (x := .tmp 9) (x' := .const ((Value.int IntKind.i64 1))) (VScal.one rfl) (VScal.one rfl) (fun ρ h1 h2 w => by go_simp; (try go_bits); with_reducible rfl) rfl) rfl (Nat.le_of_ble_eq_true rfl)) rfl ?_
        refine SV.op (OpL.ok (nb := 0) (ok_move (v := V.one (.sc _)) (.inr rfl) rfl) rfl (Nat.le_of_ble_eq_true rfl)) rfl ?_
        refine SV.nil ?_
        refine SV.tn ?_
        refine SV.again (fun i => [].getD i 0) (t + 1) (⟨by omega, by omega⟩) (pins hE rfl rfl) (VS.le.mk' (le_put (le_put (le_put (le_put le_nil (V.le.keep (ag := false) (xs := [.ro _]) (ys := [.ro _]) rfl rfl ⟨rfl, trivial⟩)) (V.le.keep (ag := false) (xs := [.sc _]) (ys := [.sc _]) rfl rfl ⟨rfl, trivial⟩)) (V.le.keep (ag := false) (xs := [.sc _]) (ys := [.sc _]) rfl rfl ⟨(by first | rfl | (show Leaf.sc _ = Leaf.sc _; refine congrArg Leaf.sc ?_; first | rfl | go_num | ((first | (rw [hn]; simp [GroupD.txt]; done) | (subst ht0; rw [hn]; simp [GroupD.txt, Lib.join_nil]; done)); first | done | rfl | go_num | (simp; done) | (simp; omega)) | (simp [cntAll]; done)) | (simp [cntAll]; done) | (simp; omega)), trivial⟩)) (V.le.keep (ag := false) (xs := [.sc _]) (ys := [.sc _]) rfl rfl ⟨(by first | rfl | (show Leaf.sc _ = Leaf.sc _; refine congrArg Leaf.sc ?_; first | rfl | go_num | ((first | (rw [hn]; simp [GroupD.txt]; done) | (subst ht0; rw [hn]; simp [GroupD.txt, Lib.join_nil]; done)); first | done | rfl | go_num | (simp; done) | (simp; omega)) | (simp [cntAll]; done)) | (simp [cntAll]; done) | (simp; omega)), trivial⟩)) trivial trivial nil_ob (fun i j hi hj e => absurd hi (Nat.not_lt_zero i)))
    · skip   -- c0.F
      have hte : ¬ t < X.length := by simpa using hc0
      refine SV.exit ?_
      refine SV.te ?_
      refine SV.te ?_
      refine SV.bh ?_
      refine SV.tn ?_
      refine SV.seq' ?_
      refine SV.region ?_
      refine SV.op (OpL.ok (nb := 0) (ok_move (v := V.one (.sc _)) (.inl rfl) rfl) rfl (Nat.le_of_ble_eq_true rfl)) rfl ?_
      refine SV.op (OpL.ok (nb := 0) (ok_move (v := V.one (.sc _)) (.inr rfl) rfl) rfl (Nat.le_of_ble_eq_true rfl)) rfl ?_
      refine SV.nil ?_
      refine SV.tn ?_
      refine SV.ret ?_
      apply SV.done (hf := Tryd.results15) (ht := rfl) (he := .inl rfl)
      case hr => exact (ResAll.cons (ResOk.tmp (ag := false) (xs := [.sc _]) rfl) ResAll.nil')
      case h2 => simp [two]
      refine ⟨rfl, ⟨?_, trivial⟩, trivial⟩ <;> (show some (T.lit (Value.string _)) = some (T.lit (Value.string _)); rw [List.take_of_length_le (by omega)])
end Go.Proofs.YtmlcdhblofjpbaaDoor
/- strings.Join, told by trees. -/
namespace Go.Proofs.YtmlcdhblofjpbaaDoor
open Go Go.RowKit V
set_option linter.unusedVariables false
theorem vjoin_strs (Z : List (List UInt8)) (b : UInt8) (hZ : Z.length ≤ 1000000000) (hl : (Lib.join Z [b]).length ≤ 140737488355328) : VC Tryd.prog 59 [(false, [.seq 9 (Z.map fun z => [.lit (.string ⟨z.toArray⟩)])]), (false, [.lit (.string ⟨[b].toArray⟩)])] false [(false, [.lit (.string ⟨(Lib.join Z [b]).toArray⟩)])] := fun w vs hv => by
  obtain ⟨hvl, ha⟩ := hv
  match vs, hvl with
  | [v, u], _ =>
    obtain ⟨us, e1, e2, e3⟩ := ha 0 false _ v rfl rfl
    obtain ⟨us', f1, f2, f3⟩ := ha 1 false _ u rfl rfl
    match us, e2 with
    | [x], _ =>
      match us', f2 with
      | [y], _ =>
        have g1 := e3 0 _ x rfl rfl
        have g2 := inn_lit (f3 0 _ y rfl rfl)
        have e1' : v = x := e1
        have f1' : u = y := f1
        subst e1' f1' g2
        have hd : (Z.map fun z => (⟨z.toArray⟩ : ByteArray)).map (·.data.toList) = Z := by
          rw [List.map_map, show ((fun x : ByteArray => x.data.toList) ∘ fun z : List UInt8 => (⟨z.toArray⟩ : ByteArray)) = id from by funext z; simp, List.map_id]
        have hc : Calls Tryd.prog 59 #[v, .string ⟨[b].toArray⟩] w fun e w' => e = .returned (.string ⟨(Lib.join Z [b]).toArray⟩) ∧ Below w.heap.size w w' := by
          cases g1 with
          | @seq ty es a c n hp hz hn hc hm h0 bk o us ha' hb hcell hr =>
            rcases Nat.eq_zero_or_pos Z.length with hz0 | hz0
            · have hZe : Z = [] := List.eq_nil_of_length_eq_zero hz0
              subst hZe
              refine (Tryd.strings_Join_none a c ⟨[b].toArray⟩ w).mono fun e w' ⟨he, hw⟩ => ?_
              subst hw
              exact ⟨he, Below.refl _ _⟩
            · have hne : (Z.map fun z => [T.lit (.string ⟨z.toArray⟩)]) ≠ [] := by intro e; have := congrArg List.length e; simp at this; rw [this] at hz0; simp at hz0
              have hn1 : n = 1 := by
                obtain ⟨z, Z', rfl⟩ := List.exists_cons_of_length_pos hz0
                exact (hn [T.lit (.string ⟨z.toArray⟩)] (by simp)).symm
              subst hn1
              cases a with
              | none => have := h0 rfl; subst this; simp at hc; rw [hc] at hz0; simp at hz0
              | some ad =>
                have had := ha' ad rfl hne
                subst had
                have hj := Tryd.strings_Join bk o c (Z.map fun z => ⟨z.toArray⟩) ⟨[b].toArray⟩ w (fun j x hx => by
                  rw [List.getElem?_map] at hx
                  obtain ⟨z, hz1, rfl⟩ := Option.map_eq_some_iff.1 hx
                  have h1 := hcell j [T.lit (.string ⟨z.toArray⟩)] 0 _ (by rw [List.getElem?_map, hz1]; rfl) rfl
                  have h2 := inn_lit (hr j [T.lit (.string ⟨z.toArray⟩)] 0 _ (by rw [List.getElem?_map, hz1]; rfl) rfl)
                  rw [h2] at h1
                  simpa using h1) (hb hne).2 (by simp; omega) (by simpa using hc) (by rw [hd]; exact hl)
                rw [hd] at hj
                simpa using hj
        exact (VC.plainAt (ins := [(false, [v]), (false, [.string ⟨[b].toArray⟩])]) (ag := false) (rs := [.string ⟨(Lib.join Z [b]).toArray⟩]) (fun u hu => by rw [List.mem_singleton.1 hu]; rfl) hc [v, .string ⟨[b].toArray⟩] ⟨rfl, fun c ag ts v' h1 h2 => by
          have hone : v.oneCell' = true := g1.one
          match c, h1, h2 with
          | 0, h1, h2 => cases h1; cases h2; exact ⟨[v], rfl, rfl, fun j t u h3 h4 => by match j, h3, h4 with | 0, h3, h4 => cases h3; cases h4; exact .lit hone⟩
          | 1, h1, h2 => cases h1; cases h2; exact ⟨[_], rfl, rfl, fun j t u h3 h4 => by match j, h3, h4 with | 0, h3, h4 => cases h3; cases h4; exact .lit rfl⟩⟩)
end Go.Proofs.YtmlcdhblofjpbaaDoor
/- The program's FormatGroups: told by trees. -/
namespace Go.Proofs.YtmlcdhblofjpbaaDoor
open Go Go.RowKit V
set_option linter.unusedVariables false
set_option maxRecDepth 100000 in
set_option maxHeartbeats 2000000 in
theorem vfgroup_i (g : GroupD) (hw : GroupD.wf g) : VCD Tryd.prog 58 [(true, tGroup g)] false [(false, [.lit (.string (⟨(GroupD.txt g).toArray⟩))])] := by
  refine VCD.enter Tryd.func58 rfl Tryd.ntmps58 (Nat.le_of_ble_eq_true rfl) fun E hE hD => ?_
  have f0 := GroupD.itoa_le hw.1
  have f1 := GroupD.itoa_le hw.2.1
  have f2 := GroupD.itoa_le hw.2.2.1
  have f3 := GroupD.itoa_le hw.2.2.2.1
  have f4 := GroupD.itoa_le hw.2.2.2.2
  have fj : (Lib.join (GroupD.fields g) [44]).length ≤ 100 := by rw [GroupD.join_fields]; simp only [List.length_append, List.length_cons]; omega
  refine SV.seq' ?_
  refine SV.region ?_
  refine SV.op (OpMk.ok (ok_box (kk := 0) (ag := true) (xs := [.sc _, .sc _, .sc _, .sc _, .sc _]) rfl rfl rfl (fun h => by cases h) rfl rfl (Nat.le_of_ble_eq_true rfl))) rfl ?_
  refine SV.op (OpL.ok (nb := 1) (ok_move (v := V.one (.sc _)) (.inr rfl) rfl) rfl (Nat.le_of_ble_eq_true rfl)) rfl ?_
  refine SV.nil ?_
  refine SV.tn ?_
  refine SV.seq' ?_
  refine SV.draw [.q 0, .q 1, .q 3, .q 4, .q 6, .q 7, .q 9, .q 10, .m 2, .m 5, .m 8, .m 11, .m 12, .q 13] [] (by kernel_rfl) (by kernel_rfl) ?_
  refine DW.q rfl (ok_field_bp (b := 0) (o' := 0) (off := 1) rfl rfl fld_impl_Group_1) rfl rfl (Nat.le_of_ble_eq_true rfl) (fun _ _ _ _ h => h) ?_
  refine DW.q rfl (ok_load_bp (b := 0) (i := 1) (ag := false) (m := 1) (ys := [.sc _]) rfl rfl rfl agg_int sz_int (fun _ => rfl) rfl rfl (Nat.le_of_ble_eq_true rfl)) rfl rfl (Nat.le_of_ble_eq_true rfl) (fun _ _ _ _ h => h) ?_
  refine DW.q rfl (ok_field_bp (b := 0) (o' := 0) (off := 2) rfl rfl fld_impl_Group_2) rfl rfl (Nat.le_of_ble_eq_true rfl) (fun _ _ _ _ h => h) ?_
  refine DW.q rfl (ok_load_bp (b := 0) (i := 2) (ag := false) (m := 1) (ys := [.sc _]) rfl rfl rfl agg_int sz_int (fun _ => rfl) rfl rfl (Nat.le_of_ble_eq_true rfl)) rfl rfl (Nat.le_of_ble_eq_true rfl) (fun _ _ _ _ h => h) ?_
  refine DW.q rfl (ok_field_bp (b := 0) (o' := 0) (off := 3) rfl rfl fld_impl_Group_3) rfl rfl (Nat.le_of_ble_eq_true rfl) (fun _ _ _ _ h => h) ?_
  refine DW.q rfl (ok_load_bp (b := 0) (i := 3) (ag := false) (m := 1) (ys := [.sc _]) rfl rfl rfl agg_int sz_int (fun _ => rfl) rfl rfl (Nat.le_of_ble_eq_true rfl)) rfl rfl (Nat.le_of_ble_eq_true rfl) (fun _ _ _ _ h => h) ?_
  refine DW.q rfl (ok_field_bp (b := 0) (o' := 0) (off := 4) rfl rfl fld_impl_Group_4) rfl rfl (Nat.le_of_ble_eq_true rfl) (fun _ _ _ _ h => h) ?_
  refine DW.q rfl (ok_load_bp (b := 0) (i := 4) (ag := false) (m := 1) (ys := [.sc _]) rfl rfl rfl agg_int sz_int (fun _ => rfl) rfl rfl (Nat.le_of_ble_eq_true rfl)) rfl rfl (Nat.le_of_ble_eq_true rfl) (fun _ _ _ _ h => h) ?_
  refine DW.m [] rfl (ok_callD (ls := [(false, [.sc _])]) hD rfl rfl ⟨_, _, Tryd.func98, rfl, by decide⟩ (vfint_i g.fCount hw.2.1) ⟨⟨[.sc _], rfl, ⟨rfl, trivial⟩⟩, trivial⟩ rfl (Nat.le_of_ble_eq_true rfl)) rfl (Nat.le_of_ble_eq_true rfl) (Nat.le_of_ble_eq_true rfl) (.inl rfl) (fun j hj => by cases hj) ?_
  refine DW.m [] rfl (ok_callD (ls := [(false, [.sc _])]) hD rfl rfl ⟨_, _, Tryd.func98, rfl, by decide⟩ (vfint_i g.fSum hw.2.2.1) ⟨⟨[.sc _], rfl, ⟨rfl, trivial⟩⟩, trivial⟩ rfl (Nat.le_of_ble_eq_true rfl)) rfl (Nat.le_of_ble_eq_true rfl) (Nat.le_of_ble_eq_true rfl) (.inl rfl) (fun j hj => by cases hj) ?_
  refine DW.m [] rfl (ok_callD (ls := [(false, [.sc _])]) hD rfl rfl ⟨_, _, Tryd.func98, rfl, by decide⟩ (vfint_i g.fMin hw.2.2.2.1) ⟨⟨[.sc _], rfl, ⟨rfl, trivial⟩⟩, trivial⟩ rfl (Nat.le_of_ble_eq_true rfl)) rfl (Nat.le_of_ble_eq_true rfl) (Nat.le_of_ble_eq_true rfl) (.inl rfl) (fun j hj => by cases hj) ?_
  refine DW.m [] rfl (ok_callD (ls := [(false, [.sc _])]) hD rfl rfl ⟨_, _, Tryd.func98, rfl, by decide⟩ (vfint_i g.fMax hw.2.2.2.2) ⟨⟨[.sc _], rfl, ⟨rfl, trivial⟩⟩, trivial⟩ rfl (Nat.le_of_ble_eq_true rfl)) rfl (Nat.le_of_ble_eq_true rfl) (Nat.le_of_ble_eq_true rfl) (.inl rfl) (fun j hj => by cases hj) ?_
  refine DW.m [0] rfl (ok_litS (kk := 0) (xs := [.tmp 6, .tmp 9, .tmp 12, .tmp 15]) (us := [_, _, _, _]) elt_string rfl rfl rfl rfl (by decide) (by decide) ⟨rfl, rfl, rfl, rfl, trivial⟩ rfl (Nat.le_of_ble_eq_true rfl)) rfl (Nat.le_of_ble_eq_true rfl) (Nat.le_of_ble_eq_true rfl) (.inl rfl) (fun j hj => by
      simp only [List.mem_cons, List.not_mem_nil, or_false] at hj
      rcases hj with rfl
      · exact .inr ⟨(Nat.le_of_ble_eq_true rfl), (Nat.le_of_ble_eq_true rfl), .inl rfl⟩) ?_
  refine DW.q rfl (ok_move (v := V.one (.hd 0)) (.inr rfl) rfl) rfl rfl (Nat.le_of_ble_eq_true rfl) (fun _ _ _ _ h => h) ?_
  refine DW.stores ?_
  refine SV.zend ?_
  refine SV.tn ?_
  refine SV.seq' ?_
  refine SV.region ?_
  refine SV.op (OpL.ok (nb := 1) (ok_field_bp (b := 0) (o' := 0) (off := 0) rfl rfl fld_impl_Group_0) rfl (Nat.le_of_ble_eq_true rfl)) rfl ?_
  refine SV.op (OpL.ok (nb := 1) (ok_load_bp (b := 0) (i := 0) (ag := false) (m := 1) (ys := [.sc _]) rfl rfl rfl agg_int sz_int (fun _ => rfl) rfl rfl (Nat.le_of_ble_eq_true rfl)) rfl (Nat.le_of_ble_eq_true rfl)) rfl ?_
  refine SV.op (OpMk.ok (ok_callD (ls := [(false, [.sc _])]) hD rfl rfl ⟨_, _, Tryd.func98, rfl, by decide⟩ (vfint_i g.fKey hw.1) ⟨⟨[.sc _], rfl, ⟨rfl, trivial⟩⟩, trivial⟩ rfl (Nat.le_of_ble_eq_true rfl))) rfl ?_
  refine SV.op (OpL.ok (nb := 1) (ok_s2 (v := .string ⟨List.toArray (_ ++ _)⟩) (x := .tmp 19) (x' := .const ((Value.string { data := #[58] }))) (VScal.one rfl) (VScal.one rfl) (fun ρ h1 h2 w => cat_run rfl h1 h2 (by first | omega | (simp only [List.length_append, List.length_cons, List.length_nil]; omega))) rfl) rfl (Nat.le_of_ble_eq_true rfl)) rfl ?_
  refine SV.op (OpL.ok (nb := 1) (ok_move (v := V.one (.hd 0)) (.inl rfl) rfl) rfl (Nat.le_of_ble_eq_true rfl)) rfl ?_
  refine SV.op (OpMk.ok (ok_call (ls := [(false, [.sc _])]) rfl rfl ⟨_, _, Tryd.func59, rfl, by decide⟩ (vjoin_strs (GroupD.fields g) 44 (by simp [GroupD.fields]) (by rw [GroupD.join_fields]; simp only [List.length_append, List.length_cons]; omega)) ⟨⟨[.hd 0], rfl, ⟨rfl, trivial⟩⟩, ⟨[.sc _], rfl, ⟨rfl, trivial⟩⟩, trivial⟩ rfl (Nat.le_of_ble_eq_true rfl))) rfl ?_
  refine SV.op (OpL.ok (nb := 1) (ok_s2 (v := .string ⟨List.toArray (_ ++ _)⟩) (x := .tmp 20) (x' := .tmp 22) (VScal.one rfl) (VScal.one rfl) (fun ρ h1 h2 w => cat_run rfl h1 h2 (by first | omega | (simp only [List.length_append, List.length_cons, List.length_nil]; omega))) rfl) rfl (Nat.le_of_ble_eq_true rfl)) rfl ?_
  refine SV.op (OpL.ok (nb := 1) (ok_move (v := V.one (.sc _)) (.inr rfl) rfl) rfl (Nat.le_of_ble_eq_true rfl)) rfl ?_
  refine SV.nil ?_
  refine SV.tn ?_
  refine SV.ret ?_
  apply SV.done (hf := Tryd.results58) (ht := rfl) (he := .inl rfl)
  case hr => exact (ResAll.cons (ResOk.tmp (ag := false) (xs := [.sc _]) rfl) ResAll.nil')
  case h2 => simp [two]
  refine ⟨rfl, ⟨?_, trivial⟩, trivial⟩ <;> (show some (T.lit (Value.string _)) = some (T.lit (Value.string _)); rw [GroupD.join_fields]; unfold GroupD.txt; simp; done)
set_option maxRecDepth 100000 in
set_option maxHeartbeats 2000000 in
theorem vfgroups_i (X : List GroupD) (hX : ∀ g ∈ X, GroupD.wf g) (hL : X.length ≤ 1048576) : VCD Tryd.prog 14 [(false, [.seq 33 (X.map tGroup)])] false [(false, [.lit (.string (⟨(Lib.join (X.map GroupD.txt) [32]).toArray⟩))])] := by
  refine VCD.enter Tryd.func14 rfl Tryd.ntmps14 (Nat.le_of_ble_eq_true rfl) fun E hE hD => ?_
  refine SV.seq' ?_
  refine SV.region ?_
  refine SV.op (OpL.ok (nb := 0) (ok_move (v := V.one (.sc _)) (.inr rfl) rfl) rfl (Nat.le_of_ble_eq_true rfl)) rfl ?_
  refine SV.nil ?_
  refine SV.tn ?_
  refine SV.seq' ?_
  refine SV.region ?_
  refine SV.op (OpL.ok (nb := 0) (ok_move (v := V.one (.ro _)) (.inl rfl) rfl) rfl (Nat.le_of_ble_eq_true rfl)) rfl ?_
  refine SV.op (OpL.ok (nb := 0) (ok_len (lf := .ro _) rfl elt_impl_Group.und rfl rfl) rfl (Nat.le_of_ble_eq_true rfl)) rfl ?_
  refine SV.op (OpMk.ok (ok_make (kk := 0) (zs := [.sc _]) elt_string rfl rfl rfl rfl ⟨rfl, rfl, trivial⟩ rfl (by rw [List.length_map]; omega) rfl (Nat.le_of_ble_eq_true rfl))) rfl ?_
  refine SV.op (OpL.ok (nb := 0) (ok_move (v := V.one (.hd 0)) (.inr rfl) rfl) rfl (Nat.le_of_ble_eq_true rfl)) rfl ?_
  refine SV.nil ?_
  refine SV.tn ?_
  refine SV.seq' ?_
  refine SV.seq' ?_
  refine SV.region ?_
  refine SV.op (OpL.ok (nb := 0) (ok_move (v := V.one (.ro _)) (.inl rfl) rfl) rfl (Nat.le_of_ble_eq_true rfl)) rfl ?_
  refine SV.op (OpL.ok (nb := 0) (ok_len (lf := .ro _) rfl elt_impl_Group.und rfl rfl) rfl (Nat.le_of_ble_eq_true rfl)) rfl ?_
  refine SV.op (OpL.ok (nb := 0) (ok_move (v := V.one (.sc _)) (.inl rfl) rfl) rfl (Nat.le_of_ble_eq_true rfl)) rfl ?_
  refine SV.nil ?_
  refine SV.tn ?_
  refine SV.block ?_
  refine SV.loopF (X := Nat) (fun (σ : VS) t => ((((((VS.nil.new (.seq 9 (toL (fun x => [.lit (.string ⟨(GroupD.txt x).toArray⟩)]) [.lit (.string ⟨#[]⟩)] X t))).put 2 (σ.tm 2)).put 3 (V.flat false [.hd 0])).put 9 (σ.tm 9)).put 10 (σ.tm 10)).put 11 (V.flat false [.sc (.int .i64 ((t : Int)))]))) (fun t => t ≤ X.length) (fun t => X.length - t) ?_ ?_
  · skip
    refine SV.again (fun i => [0].getD i 0) 0 ((by first | exact Nat.zero_le _ | (refine ⟨Nat.zero_le _, ?_⟩; simp; done) | (simp; done) | omega)) (pins hE rfl rfl) (VS.le.mk' (le_put (le_put (le_put (le_put (le_put (le_new le_nil) (V.le.keep (ag := false) (xs := [.sc _]) (ys := [.sc _]) rfl rfl ⟨rfl, trivial⟩)) (V.le.keep (ag := false) (xs := [.hd 0]) (ys := [.hd 0]) rfl rfl ⟨⟨rfl, (Nat.le_of_ble_eq_true rfl), (Nat.le_of_ble_eq_true rfl)⟩, trivial⟩)) (V.le.keep (ag := false) (xs := [.ro _]) (ys := [.ro _]) rfl rfl ⟨rfl, trivial⟩)) (V.le.keep (ag := false) (xs := [.sc _]) (ys := [.sc _]) rfl rfl ⟨rfl, trivial⟩)) (V.le.keep (ag := false) (xs := [.sc _]) (ys := [.sc _]) rfl rfl ⟨(by first | rfl | (show Leaf.sc _ = Leaf.sc _; refine congrArg Leaf.sc ?_; first | rfl | go_num | (simp [cntAll]; done)) | (simp [cntAll]; done) | (simp; omega)), trivial⟩)) trivial ⟨.inr ⟨_, _, rfl, ?ob1_0, (Nat.le_of_ble_eq_true rfl)⟩, trivial⟩ (new_ob nil_ob) (fun i j hi hj e => inj_list (l := [0]) (by decide) i j hi hj e))
    case ob1_0 =>
      show some (T.seq _ _) = some (T.seq _ _)
      rw [toL_zero, List.length_map]; rfl
  · rintro t ht
    refine SV.seq' ?_
    refine SV.region ?_
    refine SV.op (OpL.ok (nb := 0) (ok_s2 (x := .tmp 11) (x' := .tmp 10) (VScal.one rfl) (VScal.one rfl) (fun ρ h1 h2 w => by go_simp; (try go_bits); with_reducible rfl) rfl) rfl (Nat.le_of_ble_eq_true rfl)) rfl ?_
    refine SV.nil ?_
    refine SV.tn ?_
    refine SV.seq' ?_
    refine SV.cond rfl (fun hc0 => ?_) (fun hc0 => ?_)
    · skip   -- c0.T
      have htl : t < X.length := by simpa using hc0
      have hx : X[t]? = some X[t] := by simp [htl]
      have hw := hX X[t] (List.getElem_mem htl)
      refine SV.skip ?_
      refine SV.tn ?_
      refine SV.seq' ?_
      refine SV.block ?_
      refine SV.seq' ?_
      refine SV.region ?_
      refine SV.op (OpL.ok (nb := 0) (ok_move (v := V.one (.sc _)) (.inl rfl) rfl) rfl (Nat.le_of_ble_eq_true rfl)) rfl ?_
      refine SV.op (OpL.ok (nb := 0) (ok_index (n := 5) (lf := .ro _) rfl elt_impl_Group.und sz_impl_Group rfl rfl rfl (map_at (by assumption))) rfl (Nat.le_of_ble_eq_true rfl)) rfl ?_
      refine SV.op (OpL.ok (nb := 0) (ok_load_rp (ag := true) (m := 5) (ys := [.sc _, .sc _, .sc _, .sc _, .sc _]) rfl rfl agg_impl_Group sz_impl_Group (fun h => by cases h) (Nat.le_of_ble_eq_true rfl) rfl) rfl (Nat.le_of_ble_eq_true rfl)) rfl ?_
      refine SV.op (OpMk.ok (ok_alloc (kk := 0) (xs := [.sc _, .sc _, .sc _, .sc _, .sc _]) rfl rfl zero_impl_Group ⟨rfl, rfl, rfl, rfl, rfl, rfl, rfl, rfl, rfl, rfl, trivial⟩ rfl (Nat.le_of_ble_eq_true rfl))) rfl ?_
      refine SV.op (OpL.ok (nb := 1) (ok_move (v := V.one (.sc _)) (.inr rfl) rfl) rfl (Nat.le_of_ble_eq_true rfl)) rfl ?_
      refine SV.op (ok_store_bp (b := 0) (i := 0) (m := 5) (ag := true) (zs := [.sc _, .sc _, .sc _, .sc _, .sc _]) (ys := [.sc _, .sc _, .sc _, .sc _, .sc _]) rfl rfl rfl rfl sz_impl_Group (fun h => by cases h) rfl (Nat.le_of_ble_eq_true rfl) rfl rfl rfl) rfl ?_
      refine SV.nil ?_
      refine SV.tn ?_
      refine SV.region ?_
      refine SV.op (OpL.ok (nb := 1) (ok_move (v := V.one (.hd 0)) (.inl rfl) rfl) rfl (Nat.le_of_ble_eq_true rfl)) rfl ?_
      refine SV.op (OpL.ok (nb := 1) (ok_move (v := V.one (.sc _)) (.inl rfl) rfl) rfl (Nat.le_of_ble_eq_true rfl)) rfl ?_
      refine SV.op (OpL.ok (nb := 1) (ok_load_bp (b := 0) (i := 0) (ag := true) (m := 5) (ys := [.sc _, .sc _, .sc _, .sc _, .sc _]) rfl rfl rfl agg_impl_Group sz_impl_Group (fun h => by cases h) rfl rfl (Nat.le_of_ble_eq_true rfl)) rfl (Nat.le_of_ble_eq_true rfl)) rfl ?_
      refine SV.op (OpMk.ok (ok_callD (ls := [(false, [.sc _])]) hD rfl rfl ⟨_, _, Tryd.func58, rfl, by decide⟩ (vfgroup_i X[t] hw) ⟨⟨[.sc _, .sc _, .sc _, .sc _, .sc _], rfl, ⟨rfl, rfl, rfl, rfl, rfl, trivial⟩⟩, trivial⟩ rfl (Nat.le_of_ble_eq_true rfl))) rfl ?_
      refine SV.op (OpL.ok (nb := 1) (ok_index (n := 1) (lf := .hd 0) rfl elt_string.und sz_string rfl rfl rfl (toL_at htl)) rfl (Nat.le_of_ble_eq_true rfl)) rfl ?_
      refine SV.op (ok_store_ep (i := 0) (n := 1) (m := 1) (ag := false) (zs := [.sc _]) rfl rfl rfl rfl (toL_at htl) sz_string (fun _ => rfl) rfl sz_string (Nat.le_of_ble_eq_true rfl) (outs_c rfl outs_n) (by simp [two]) rfl rfl rfl) rfl ?_
      refine SV.nil ?_
      refine SV.bn ?_
      refine SV.tn ?_
      refine SV.region ?_
      refine SV.op (OpL.ok (nb := 1) (ok_s2 (x := .tmp 11) (x' := .const ((Value.int IntKind.i64 1))) (VScal.one rfl) (VScal.one rfl) (fun ρ h1 h2 w => by go_simp; (try go_bits); with_reducible rfl) rfl) rfl (Nat.le_of_ble_eq_true rfl)) rfl ?_
      refine SV.op (OpL.ok (nb := 1) (ok_move (v := V.one (.sc _)) (.inl rfl) rfl) rfl (Nat.le_of_ble_eq_true rfl)) rfl ?_
      refine SV.nil ?_
      refine SV.tn ?_
      refine SV.again (fun i => [0].getD i 0) (t + 1) (⟨by omega, by omega⟩) (pins hE rfl rfl) (VS.le.mk' (le_put (le_put (le_put (le_put (le_put (le_new le_nil) (V.le.keep (ag := false) (xs := [.sc _]) (ys := [.sc _]) rfl rfl ⟨rfl, trivial⟩)) (V.le.keep (ag := false) (xs := [.hd 0]) (ys := [.hd 0]) rfl rfl ⟨⟨rfl, (Nat.le_of_ble_eq_true rfl), (Nat.le_of_ble_eq_true rfl)⟩, trivial⟩)) (V.le.keep (ag := false) (xs := [.ro _]) (ys := [.ro _]) rfl rfl ⟨rfl, trivial⟩)) (V.le.keep (ag := false) (xs := [.sc _]) (ys := [.sc _]) rfl rfl ⟨rfl, trivial⟩)) (V.le.keep (ag := false) (xs := [.sc _]) (ys := [.sc _]) rfl rfl ⟨(by first | rfl | (show Leaf.sc _ = Leaf.sc _; refine congrArg Leaf.sc ?_; first | rfl | go_num | (simp [cntAll]; done)) | (simp [cntAll]; done) | (simp; omega)), trivial⟩)) trivial ⟨.inr ⟨_, _, rfl, ?ob2_0, (Nat.le_of_ble_eq_true rfl)⟩, trivial⟩ (new_ob nil_ob) (fun i j hi hj e => inj_list (l := [0]) (by decide) i j hi hj e))
      case ob2_0 =>
        show some (T.seq _ _) = some (T.seq _ _)
        rw [← toL_next htl]; rfl
    · skip   -- c0.F
      have hte : ¬ t < X.length := by simpa using hc0
      have hj := vjoin_strs (X.map GroupD.txt) 32 (by simp; omega) (by have := GroupD.join_len_le X hX; omega)
      rw [show (X.map GroupD.txt).map (fun z => [T.lit (.string ⟨z.toArray⟩)]) = toL (fun x => [T.lit (.string ⟨(GroupD.txt x).toArray⟩)]) [T.lit (.string ⟨#[]⟩)] X t from ((toL_all hte).trans (by rw [List.map_map]; rfl)).symm] at hj
      refine SV.exit ?_
      refine SV.te ?_
      refine SV.te ?_
      refine SV.bh ?_
      refine SV.tn ?_
      refine SV.seq' ?_
      refine SV.region ?_
      refine SV.op (OpL.ok (nb := 0) (ok_move (v := V.one (.hd 0)) (.inl rfl) rfl) rfl (Nat.le_of_ble_eq_true rfl)) rfl ?_
      refine SV.op (OpMk.ok (ok_call (ls := [(false, [.sc _])]) rfl rfl ⟨_, _, Tryd.func59, rfl, by decide⟩ (hj) ⟨⟨[.hd 0], rfl, ⟨rfl, trivial⟩⟩, ⟨[.sc _], rfl, ⟨rfl, trivial⟩⟩, trivial⟩ rfl (Nat.le_of_ble_eq_true rfl))) rfl ?_
      refine SV.op (OpL.ok (nb := 0) (ok_move (v := V.one (.sc _)) (.inr rfl) rfl) rfl (Nat.le_of_ble_eq_true rfl)) rfl ?_
      refine SV.nil ?_
      refine SV.tn ?_
      refine SV.ret ?_
      apply SV.done (hf := Tryd.results14) (ht := rfl) (he := .inl rfl)
      case hr => exact (ResAll.cons (ResOk.tmp (ag := false) (xs := [.sc _]) rfl) ResAll.nil')
      case h2 => simp [two]
      refine ⟨rfl, ⟨?_, trivial⟩, trivial⟩ <;> rfl
end Go.Proofs.YtmlcdhblofjpbaaDoor
