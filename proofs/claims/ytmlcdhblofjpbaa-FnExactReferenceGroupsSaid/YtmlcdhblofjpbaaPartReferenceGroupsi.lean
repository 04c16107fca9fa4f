/- Texts joined: MergeI RefI. -/
import Derived.Test.YtmlcdhblofjpbaaPartReferenceGroupsh
/- The program's MergeGroups: groups gathered in a map, sorted by their keys. -/
namespace Go.Proofs.Ytmlcdhblofjpbaa
open Go Go.RowKit Go.Maps
set_option linter.unusedVariables false
theorem args_of {w : World} {g : GroupD} {j : Nat} {t : V.T} {u : Value} (h1 : (tGroup g)[j]? = some t) (h2 : g.cells[j]? = some u) : V.Inn (V.Env.of w).old w t u := by
  have hj : j < 5 := by simpa [GroupD.cells] using (List.getElem?_eq_some_iff.1 h2).1
  match j, hj, h1, h2 with
  | 0, _, h1, h2 => cases h1; cases h2; exact .lit rfl
  | 1, _, h1, h2 => cases h1; cases h2; exact .lit rfl
  | 2, _, h1, h2 => cases h1; cases h2; exact .lit rfl
  | 3, _, h1, h2 => cases h1; cases h2; exact .lit rfl
  | 4, _, h1, h2 => cases h1; cases h2; exact .lit rfl
theorem own_lit {w : World} {B : Nat} {u v : Value} {F : Nat → Prop} (h : V.Own w B (.lit u) v F) : v = u := by cases h; rfl
theorem icomb (a b : GroupD) (w : World) : Calls Try.prog 23 #[a.val, b.val] w fun e w' => e = .returned (GroupD.comb a b).val ∧ Below w.heap.size w w' := by
  refine (vcomb_i a b w [a.val, b.val] ⟨rfl, fun c ag ts v h1 h2 => ?_⟩).mono fun e w' h => ?_
  · match c, h1, h2 with
    | 0, h1, h2 => cases h1; cases h2; exact ⟨a.cells, rfl, rfl, fun j t u h3 h4 => args_of h3 h4⟩
    | 1, h1, h2 => cases h1; cases h2; exact ⟨b.cells, rfl, rfl, fun j t u h3 h4 => args_of h3 h4⟩
  · obtain ⟨uss, F, h1, h2, h3, -, -, h4⟩ := h
    match uss, h1 with
    | [us], _ =>
      obtain ⟨h5, h6⟩ := h3 0 true (tGroup (GroupD.comb a b)) us rfl rfl
      match us, h5 with
      | [u0, u1, u2, u3, u4], _ =>
        have e0 := own_lit (h6 0 _ u0 rfl rfl)
        have e1 := own_lit (h6 1 _ u1 rfl rfl)
        have e2 := own_lit (h6 2 _ u2 rfl rfl)
        have e3 := own_lit (h6 3 _ u3 rfl rfl)
        have e4 := own_lit (h6 4 _ u4 rfl rfl)
        subst e0 e1 e2 e3 e4
        exact ⟨h2, ⟨h4.os, h4.tape, h4.output, h4.size, fun k hk => h4.block k ⟨hk, fun h => h⟩⟩⟩
/-- A slice of groups that may be read. -/
def InG (w : World) (a : Option Addr) (L : List GroupD) : Prop := ∃ b o, (L ≠ [] → a = some ⟨b, o, none⟩ ∧ b < w.heap.size) ∧ ∀ k g, L[k]? = some g → w.cell? ⟨b, o + k * 5, none⟩ = some (.int .i64 g.fKey) ∧ w.cell? ⟨b, o + k * 5 + 1, none⟩ = some (.int .i64 g.fCount) ∧ w.cell? ⟨b, o + k * 5 + 2, none⟩ = some (.int .i64 g.fSum) ∧ w.cell? ⟨b, o + k * 5 + 3, none⟩ = some (.int .i64 g.fMin) ∧ w.cell? ⟨b, o + k * 5 + 4, none⟩ = some (.int .i64 g.fMax)
theorem gvalues (mb : Option Nat) (w : World) : Calls Try.prog 32 #[.map mb] w fun e w' => e = .returned (.func (.func 38) #[] #[.pointer (some ⟨w.heap.size, 0, none⟩)]) ∧ w' = w.alloc (.cells #[.map mb] 54) := by
  go_enter Try.func32, Try.ntmps32
  go_wp2_with fail
  go_ret
  exact ⟨rfl, rfl⟩
theorem zeroGroup (w : World) : (zeroValue 36).run Try.prog w = .ok (GroupD.val ⟨0, 0, 0, 0, 0⟩) w := Try.zeroValue36 w
theorem OwnM.look {w : World} {b n : Nat} {D : DataW Unit} {M : List GroupD} (h : OwnM w b n D) (hA : AtG D M) (x : Int) (hx : (Lit.int .i64 x).wf = true) :
    ∃ v0 : GroupD, (Instr.lookup 54 (.map (some b)) (.int .i64 x) true).run Try.prog w = .ok (.tuple #[.agg #[.int .i64 v0.fKey, .int .i64 v0.fCount, .int .i64 v0.fSum, .int .i64 v0.fMin, .int .i64 v0.fMax], .bool (GroupD.get x M).isSome]) w ∧ ∀ h, GroupD.get x M = some h → v0 = h := by
  obtain ⟨v, ps, hrun, hv⟩ := h.look_ok intKeyed Try.underlying54 (zeroGroup w) (rG_val _) (keyOf_int_mk Try.underlying3 hx)
  obtain ⟨g, rfl, hg⟩ := rG_inv hv
  rw [(hA x).1] at hrun
  refine ⟨g, hrun, fun h' hh => ?_⟩
  have e1 := (hA x).2 h' hh (datG ⟨0, 0, 0, 0, 0⟩)
  have e2 : D.atKey (.int .i64 x) (datG ⟨0, 0, 0, 0, 0⟩) = datG g := (Prod.mk.inj hg).1
  exact datG_inj (e2.symm.trans e1)
theorem wpList_store_own {P : Program} {w : World} {ops : Array Oper} {rest : List Oper} {o : Oper} {a : Act} {Q : Exit → Act → World → Prop} (hg : o.guard = none) (x y : Operand) (ty : TypeId) (hop : o.op = .store ty x y) (p : Addr) (v : Value) (hx : a.eval x = .pointer (some p)) (hv : a.eval y = v) (w4 : World) (hst : (storeVar ty p v).run P w = .ok () w4)
    (hK : wpList P ops Q rest (a.put o.dst undef) w4) : wpList P ops Q (o :: rest) a w :=
  wpList_plain hg fun K hK' => V.wp_skipped (by simp [execOp, hop, hx, hv, Instr.storeAt, Instr.sureAddr, hst, Result.andThen]) (hK' _ _ hK)
set_option maxRecDepth 100000 in
set_option maxHeartbeats 2000000 in
theorem imerge (a : Option Addr) (cap : Nat) (L : List GroupD) (w : World) (h : InG w a L) (hK : ∀ g ∈ L, (Lit.int .i64 g.fKey).wf = true) (hlen : L.length ≤ 350000000000) :
    Calls Try.prog 27 #[.slice a L.length cap] w fun e w' => ∃ v, e = .returned v ∧ OwnG w' w.heap.size v (GroupD.merge L) ∧ Below w.heap.size w w' := by
  obtain ⟨b, o, hab, hcell⟩ := h
  have HI := Lib.hid hcell
  have HK := Lib.hid hK
  have hmm := @run_makeMap Try.prog
  have hb0 : Below w.heap.size w (w.alloc (.map #[] 0)) := (Below.refl _ _).alloc (Nat.le_refl _) _
  have HB0 := Lib.hid hb0
  have HO := Lib.hid (World.ownsMap_made w Try.prog 3 rG)
  clear hcell hb0 hK
  go_enter Try.func27, Try.ntmps27
  go_wp2_with fail
  clear hmm
  go_loopw [11] (fun x wr => ∃ (k : Nat) (D : DataW Unit), x = .int .i64 k ∧ k ≤ L.length ∧ Hid (OwnM wr w.heap.size k D) ∧ Hid (AtG D (L.take k)) ∧ Hid (Below w.heap.size w wr)) (fun x _ => L.length - (intOf x).toNat)
  case atStart => exact ⟨0, _, rfl, Nat.zero_le _, HO.out, atG_nil, HB0.out⟩
  case round =>
    obtain ⟨k, D, rfl, hk, ho, hat, hb⟩ := hrel
    by_cases hlt : k < L.length
    · obtain ⟨g, hg⟩ : ∃ g, L[k]? = some g := ⟨_, List.getElem?_eq_getElem hlt⟩
      obtain ⟨rfl, hbl⟩ := hab (fun e => by rw [e] at hlt; simp at hlt)
      obtain ⟨c0, c1, c2, c3, c4⟩ := HI.out k g hg
      have f0 := (hb.out.cell (p := ⟨b, o + k * 5, none⟩) hbl).trans c0
      have f1 := (hb.out.cell (p := ⟨b, o + k * 5 + 1, none⟩) hbl).trans c1
      have f2 := (hb.out.cell (p := ⟨b, o + k * 5 + 2, none⟩) hbl).trans c2
      have f3 := (hb.out.cell (p := ⟨b, o + k * 5 + 3, none⟩) hbl).trans c3
      have f4 := (hb.out.cell (p := ⟨b, o + k * 5 + 4, none⟩) hbl).trans c4
      clear c0 c1 c2 c3 c4
      have hwf := HK.out g (List.mem_of_getElem? hg)
      have hoa := ho.out.alloc (.cells #[.int .i64 g.fKey, .int .i64 g.fCount, .int .i64 g.fSum, .int .i64 g.fMin, .int .i64 g.fMax] 36)
      obtain ⟨v0, hl, hv0⟩ := OwnM.look hoa hat.out g.fKey hwf
      have HG := Lib.hid hg
      have HV := Lib.hid hv0
      have HW := Lib.hid hwf
      clear hoa hg hv0 hwf
      have HB := Lib.hid hb.out
      have HMAP := Lib.hid ho.out.isMap
      have HTK : Hid (L.take (k + 1) = L.take k ++ [g]) := Lib.hid (by rw [List.take_succ_eq_append_getElem hlt]; rw [List.getElem?_eq_getElem hlt] at HG; rw [Option.some.inj HG.out])
      obtain ⟨A, hAd⟩ : ∃ A, A = Obj.cells #[.int .i64 g.fKey, .int .i64 g.fCount, .int .i64 g.fSum, .int .i64 g.fMin, .int .i64 g.fMax] 36 := ⟨_, rfl⟩
      obtain ⟨B, hBd⟩ : ∃ B, B = Obj.cells #[.int .i64 v0.fKey, .int .i64 v0.fCount, .int .i64 v0.fSum, .int .i64 v0.fMin, .int .i64 v0.fMax] 36 := ⟨_, rfl⟩
      have hob := (ho.out.alloc A).alloc B
      have hbb : Below w.heap.size w ((wr.alloc A).alloc B) := (hb.out.alloc hb.out.size _).alloc (by have := hb.out.size; simp; omega) _
      cases hget : (GroupD.get g.fKey (L.take k)).isSome with
      | false =>
        rw [hget] at hl
        have hnone : GroupD.get g.fKey (L.take k) = none := by simpa using hget
        obtain ⟨w3, hu, hown3, hg3⟩ := hob.update intKeyed Try.underlying54 (by unfold maxLen; omega) (keyOf_int_mk Try.underlying3 HW.out) (rG_val g)
        have hat3 := atG_put HMAP.out hat.out (g := g) (o := g) (by rw [hnone]; rfl)
        rw [← HTK.out] at hat3
        have hb3 : Below w.heap.size w w3 := hbb.grown hg3 hbb.size (fun z hz => by cases hz; exact Nat.le_refl _)
        have HO3 := Lib.hid hown3
        have HA3 := Lib.hid hat3
        have HB3 := Lib.hid hb3
        unfold GroupD.val at hu
        subst hAd hBd
        clear hob hbb hown3 hat3 hb3 hg3 hnone hget
        go_wp2_with fail
        go_roundw
        case rel => exact ⟨k + 1, _, by go_num, by omega, HO3.out, HA3.out, HB3.out⟩
        case measure => simp [intOf]; omega
      | true =>
        rw [hget] at hl
        obtain ⟨h0, hh0⟩ := Option.isSome_iff_exists.1 hget
        obtain rfl : v0 = h0 := HV.out h0 hh0
        obtain ⟨c, hc⟩ : ∃ c, c = GroupD.comb v0 g := ⟨_, rfl⟩
        have hck : c.fKey = g.fKey := by rw [hc, GroupD.comb_key]; exact GroupD.get_key hh0
        have hcall := icomb v0 g ((wr.alloc A).alloc B)
        rw [← hc] at hcall
        unfold GroupD.val at hcall
        have hat3 := atG_put HMAP.out hat.out (g := g) (o := c) (by rw [hh0, hc]; rfl)
        rw [← HTK.out] at hat3
        have HA3 := Lib.hid hat3
        have HOB := Lib.hid hob
        have HBB := Lib.hid hbb
        have hnA : ((wr.alloc A).alloc B).heap[wr.heap.size]? = some A := (Below.heap_alloc _ _ _ (by simp)).trans (by show (wr.heap.push A)[wr.heap.size]? = some A; simp)
        have hsB : wr.heap.size < ((wr.alloc A).alloc B).heap.size := by simp; omega
        have HNA := Lib.hid hnA
        have HSB := Lib.hid hsB
        have HC := Lib.hid hcall
        have HAD := Lib.hid hAd
        have HBD := Lib.hid hBd
        have HCK := Lib.hid hck
        clear hat3 hob hbb hnA hsB hcall hck hc hget hh0
        subst hAd hBd
        go_wp2_with fail
        refine HC.out.mono ?_
        rintro e w3 ⟨rfl, hb3⟩
        have hn3 := (hb3.block _ HSB.out).trans HNA.out
        have hne : w.heap.size ≠ wr.heap.size := by have := ho.out.lt; omega
        have hown3 : OwnM w3 w.heap.size k D := by
          have hl := HOB.out.lt
          obtain ⟨es, clock, hb1, Ft, hs, hD⟩ := HOB.out
          exact ⟨es, clock, (hb3.block _ hl).trans hb1, Ft, hs, hD⟩
        obtain ⟨w4, hw4⟩ : ∃ w4, w4 = w3.setCells wr.heap.size 0 c.cells := ⟨_, rfl⟩
        have hst : (storeVar 36 ⟨wr.heap.size, 0, none⟩ (.agg #[.int .i64 c.fKey, .int .i64 c.fCount, .int .i64 c.fSum, .int .i64 c.fMin, .int .i64 c.fMax])).run Try.prog w3 = .ok () w4 := by
          rw [hw4]
          exact V.store_run (ag := true) (m := 5) (us := c.cells) V.sz_impl_Group (fun h => by cases h) rfl (cells_one c) (fun q hq => by
            simp only [World.cell?, hn3, Nat.zero_add]
            simp [hq]) fun q hq => by simp [World.frozen?, hn3]
        have hn4 : w4.heap[wr.heap.size]? = some (.cells c.cells.toArray 36 (0, 0)) := by
          rw [hw4, V.setCells_heap wr.heap.size c.cells 0 w3 [.int .i64 g.fKey, .int .i64 g.fCount, .int .i64 g.fSum, .int .i64 g.fMin, .int .i64 g.fMax] 36 hn3 (by simp [GroupD.cells])]
          simp [GroupD.cells]
        have hfar : ∀ z, z ≠ wr.heap.size → w4.heap[z]? = w3.heap[z]? := fun z hz => by rw [hw4]; exact V.setCells_far _ _ _ _ z hz
        have hb4 : Below wr.heap.size w3 w4 := by rw [hw4]; exact V.setCells_below _ _ _ _ _ (Nat.le_refl _)
        obtain ⟨y0, y1, y2, y3, y4⟩ : w4.cell? ⟨wr.heap.size, 0, none⟩ = some (.int .i64 c.fKey) ∧ w4.cell? ⟨wr.heap.size, 1, none⟩ = some (.int .i64 c.fCount) ∧ w4.cell? ⟨wr.heap.size, 2, none⟩ = some (.int .i64 c.fSum) ∧ w4.cell? ⟨wr.heap.size, 3, none⟩ = some (.int .i64 c.fMin) ∧ w4.cell? ⟨wr.heap.size, 4, none⟩ = some (.int .i64 c.fMax) := by
          refine ⟨?_, ?_, ?_, ?_, ?_⟩ <;> simp [World.cell?, hn4, GroupD.cells]
        have hown4 : OwnM w4 w.heap.size k D := by
          obtain ⟨es, clock, hb1, Ft, hs, hD⟩ := hown3
          exact ⟨es, clock, (hfar _ hne).trans hb1, Ft, hs, hD⟩
        obtain ⟨w5, hu, hown5, hg5⟩ := hown4.update (key := .int .i64 c.fKey) (kl := .int .i64 g.fKey) intKeyed Try.underlying54 (by unfold maxLen; omega) (by rw [HCK.out]; exact keyOf_int_mk Try.underlying3 HW.out) (rG_val c)
        unfold GroupD.val at hu
        have hb5 : Below w.heap.size w w5 := by
          have h1 := HBB.out.trans (hb3.mono HBB.out.size)
          have h2 := h1.trans (hb4.mono (Nat.le_trans HB.out.size (Nat.le_refl _)))
          exact h2.grown hg5 h2.size (fun z hz => by cases hz; exact Nat.le_refl _)
        have HO5 := Lib.hid hown5
        have HB5 := Lib.hid hb5
        clear hn3 hb3 hown3 hn4 hfar hb4 hown4 hown5 hg5 hb5 hw4
        go_wp2_with (refine wpList_store_own rfl _ _ 36 rfl ⟨wr.heap.size, 0, none⟩ (.agg #[.int .i64 c.fKey, .int .i64 c.fCount, .int .i64 c.fSum, .int .i64 c.fMin, .int .i64 c.fMax]) rfl rfl w4 hst ?_)
        go_roundw
        case rel => exact ⟨k + 1, _, by go_num, by omega, HO5.out, HA3.out, HB5.out⟩
        case measure => simp [intOf]; omega
    · have hkl : k = L.length := by omega
      have hall : L.take k = L := by rw [hkl, List.take_length]
      rw [hall] at hat
      obtain ⟨W2, hW2⟩ : ∃ W2, W2 = wr.alloc (.cells #[.map (some w.heap.size)] 54) := ⟨_, rfl⟩
      have hs := gsorted wr.heap.size w.heap.size k D L hat.out W2 (by rw [hW2]; simp) (by rw [hW2]; simp) (by rw [hW2]; exact ho.out.alloc _) (by omega)
      have HS := Lib.hid hs
      have HB := Lib.hid (show Below w.heap.size w W2 by rw [hW2]; exact hb.out.alloc hb.out.size _)
      clear hs hall
      go_wp2_with fail
      refine (gvalues (some w.heap.size) wr).mono ?_
      rintro e w' ⟨rfl, rfl⟩
      go_wp2_with fail
      rw [← hW2]
      refine HS.out.mono ?_
      rintro e w3 ⟨v, rfl, hv, hb3⟩
      go_wp2_with fail
      go_ret
      exact ⟨v, rfl, V.ownsRow_lower hv HB.out.size, HB.out.trans (hb3.mono HB.out.size)⟩
theorem own_groups {w : World} {B : Nat} {v : Value} {L : List GroupD} (h : OwnG w B v L) : V.Own w 0 (.seq 36 (L.map tGroup)) v (fun b => v.ownBlock = some b) := by
  refine .seq 5 (by decide) V.sz_impl_Group (fun e he => by obtain ⟨x, -, rfl⟩ := List.mem_map.1 he; rfl) (L.flatMap GroupD.cells) (by rw [List.length_map]; exact V.ownsRow_lower h (Nat.zero_le _)) (fun _ _ => False) (fun k e j t u h1 h2 h3 => ?_) (fun u hu => ?_) (fun b hb => hb) (fun q b hb => hb.elim) (fun q b hb => hb.elim) fun q q' b hb => hb.elim
  · rw [List.getElem?_map] at h1
    obtain ⟨g, hg, rfl⟩ := Option.map_eq_some_iff.1 h1
    have hj : j < 5 := by simpa [tGroup] using (List.getElem?_eq_some_iff.1 h2).1
    have hkl := V.get_lt hg
    obtain ⟨k1, u0, k2, k3⟩ := V.mapk_get cells_len L (k * 5 + j) (V.at_lt hkl hj)
    have d1 : (k * 5 + j) / 5 = k := by omega
    have d2 : (k * 5 + j) % 5 = j := by omega
    rw [k3] at h3
    have hgk : L[(k * 5 + j) / 5] = g := by
      have e8 : L[(k * 5 + j) / 5]? = some g := by rw [d1]; exact hg
      rw [List.getElem?_eq_getElem k1] at e8
      exact Option.some.inj e8
    rw [hgk, d2, Option.some.inj h3] at k2
    match j, hj, h2, k2 with
    | 0, _, h2, k2 => cases h2; cases k2; exact .lit rfl
    | 1, _, h2, k2 => cases h2; cases k2; exact .lit rfl
    | 2, _, h2, k2 => cases h2; cases k2; exact .lit rfl
    | 3, _, h2, k2 => cases h2; cases k2; exact .lit rfl
    | 4, _, h2, k2 => cases h2; cases k2; exact .lit rfl
  · obtain ⟨g, -, hg⟩ := List.mem_flatMap.1 hu
    exact cells_one g u hg
theorem gives_groups {w w' : World} {v : Value} {L : List GroupD} (hm : OwnG w' w.heap.size v L) (hb : Below w.heap.size w w') : V.Gives (V.Env.of w) false [(false, [.seq 36 (L.map tGroup)])] (.returned v) w' := by
  refine ⟨[[v]], fun c j b => c = 0 ∧ j = 0 ∧ v.ownBlock = some b, rfl, rfl, fun c ag ts us hc hu => ?_, fun c j c' j' b hb hb' => ⟨hb.1.trans hb'.1.symm, hb.2.1.trans hb'.2.1.symm⟩, fun c j b hb => ?_, .of_below hb⟩
  · match c, hc, hu with
    | 0, hc, hu => cases hc; cases hu; exact ⟨rfl, fun j t u h h' => by match j, h, h' with | 0, h, h' => cases h; cases h'; exact (own_groups hm).mono fun b hb => ⟨rfl, rfl, hb⟩⟩
  · have := World.ownsRow.lt hm b hb.2.2
    exact ⟨.inl this.1, this.2⟩
theorem vmerge_i (L : List GroupD) (hL : L.length ≤ 300000000000) (hK : ∀ g ∈ L, (Lit.int .i64 g.fKey).wf = true) : V.VC Try.prog 27 [(false, [.seq 36 (L.map tGroup)])] false [(false, [.seq 36 ((GroupD.merge L).map tGroup)])] := fun w vs hv => by
  obtain ⟨hl, ha⟩ := hv
  match vs, hl with
  | [v], _ =>
    obtain ⟨us, e1, e2, e3⟩ := ha 0 false _ v rfl rfl
    match us, e2 with
    | [x], _ =>
      have hx := e3 0 _ x rfl rfl
      have e1' : v = x := e1
      subst e1'
      obtain ⟨ad, c, n, hv, hc, hm, h0, hp, hz, hn, b, o, us, had, hb, hcell, hr⟩ := V.inn_seq hx
      have hn5 : n = 5 := hz.eq V.sz_impl_Group
      subst hn5
      rw [List.length_map] at hv hc
      subst hv
      refine (imerge ad c L w ⟨b, o, fun hne => ?_, fun k g hg => ?_⟩ hK (by omega)).mono fun e w' ⟨v, he, hm, hb⟩ => he ▸ gives_groups hm hb
      · have hne' : L.map tGroup ≠ [] := fun e => hne (List.map_eq_nil_iff.1 e)
        have hpos : 0 < L.length := List.length_pos_iff.2 hne
        cases ad with
        | none => have := h0 rfl; omega
        | some a => exact ⟨by rw [had a rfl hne'], (hb hne').2⟩
      · have hk : (L.map tGroup)[k]? = some (tGroup g) := by rw [List.getElem?_map, hg]; rfl
        have key : ∀ j u, (tGroup g)[j]? = some (.lit u) → w.cell? ⟨b, o + (k * 5 + j), none⟩ = some u := fun j u hj => by
          have h1 := hcell k _ j _ hk hj
          have h2 := hr k _ j _ hk hj
          have : us (k * 5 + j) = u := by
            cases h2; rfl
          rw [h1, this]
        exact ⟨key 0 _ rfl, by have := key 1 _ rfl; rwa [← Nat.add_assoc] at this, by have := key 2 _ rfl; rwa [← Nat.add_assoc] at this, by have := key 3 _ rfl; rwa [← Nat.add_assoc] at this, by have := key 4 _ rfl; rwa [← Nat.add_assoc] at this⟩
end Go.Proofs.Ytmlcdhblofjpbaa
/- The program's groups: told by trees. -/
namespace Go.Proofs.Ytmlcdhblofjpbaa
open Go Go.RowKit V
set_option linter.unusedVariables false
set_option maxRecDepth 100000 in
set_option maxHeartbeats 2000000 in
theorem vref_i (X : List R) (hX : X.length ≤ 1048576) (hK : ∀ r ∈ X, (Lit.int .i64 r.key).wf = true) : VC Try.prog 11 [(false, [.seq 38 (X.map tRow)])] false [(false, [.seq 36 ((GroupD.merge (X.map GroupD.ofRow)).map tGroup)])] := by
  refine VC.enter Try.func11 rfl Try.ntmps11 (Nat.le_of_ble_eq_true rfl) fun E hE => ?_
  refine SV.seq' ?_
  refine SV.region ?_
  refine SV.op (OpL.ok (nb := 0) (ok_move (v := V.one (.sc _)) (.inr rfl) rfl) rfl (Nat.le_of_ble_eq_true rfl)) rfl ?_
  refine SV.nil ?_
  refine SV.tn ?_
  refine SV.seq' ?_
  refine SV.region ?_
  refine SV.op (OpL.ok (nb := 0) (ok_move (v := V.one (.ro _)) (.inl rfl) rfl) rfl (Nat.le_of_ble_eq_true rfl)) rfl ?_
  refine SV.op (OpL.ok (nb := 0) (ok_len (lf := .ro _) rfl elt_impl_Row.und rfl rfl) rfl (Nat.le_of_ble_eq_true rfl)) rfl ?_
  refine SV.op (OpMk.ok (ok_make (kk := 0) (zs := [.sc _, .sc _, .sc _, .sc _, .sc _]) elt_impl_Group rfl rfl rfl rfl ⟨rfl, rfl, rfl, rfl, rfl, rfl, rfl, rfl, rfl, rfl, trivial⟩ rfl (by rw [List.length_map]; omega) rfl (Nat.le_of_ble_eq_true rfl))) rfl ?_
  refine SV.op (OpL.ok (nb := 0) (ok_move (v := V.one (.hd 0)) (.inr rfl) rfl) rfl (Nat.le_of_ble_eq_true rfl)) rfl ?_
  refine SV.nil ?_
  refine SV.tn ?_
  refine SV.seq' ?_
  refine SV.seq' ?_
  refine SV.region ?_
  refine SV.op (OpL.ok (nb := 0) (ok_move (v := V.one (.ro _)) (.inl rfl) rfl) rfl (Nat.le_of_ble_eq_true rfl)) rfl ?_
  refine SV.op (OpL.ok (nb := 0) (ok_len (lf := .ro _) rfl elt_impl_Row.und rfl rfl) rfl (Nat.le_of_ble_eq_true rfl)) rfl ?_
  refine SV.op (OpL.ok (nb := 0) (ok_move (v := V.one (.sc _)) (.inl rfl) rfl) rfl (Nat.le_of_ble_eq_true rfl)) rfl ?_
  refine SV.nil ?_
  refine SV.tn ?_
  refine SV.block ?_
  refine SV.loopF (X := Nat) (fun (σ : VS) t => ((((((VS.nil.new (.seq 36 (toL (fun r => tGroup (GroupD.ofRow r)) zGroup X t))).put 2 (σ.tm 2)).put 3 (V.flat false [.hd 0])).put 9 (σ.tm 9)).put 10 (σ.tm 10)).put 11 (V.flat false [.sc (.int .i64 ((t : Int)))]))) (fun t => t ≤ X.length) (fun t => X.length - t) ?_ ?_
  · skip
    refine SV.again (fun i => [0].getD i 0) 0 ((by first | exact Nat.zero_le _ | (refine ⟨Nat.zero_le _, ?_⟩; simp; done) | (simp; done) | omega)) (pins hE rfl rfl) (VS.le.mk' (le_put (le_put (le_put (le_put (le_put (le_new le_nil) (V.le.keep (ag := false) (xs := [.sc _]) (ys := [.sc _]) rfl rfl ⟨rfl, trivial⟩)) (V.le.keep (ag := false) (xs := [.hd 0]) (ys := [.hd 0]) rfl rfl ⟨⟨rfl, (Nat.le_of_ble_eq_true rfl), (Nat.le_of_ble_eq_true rfl)⟩, trivial⟩)) (V.le.keep (ag := false) (xs := [.ro _]) (ys := [.ro _]) rfl rfl ⟨rfl, trivial⟩)) (V.le.keep (ag := false) (xs := [.sc _]) (ys := [.sc _]) rfl rfl ⟨rfl, trivial⟩)) (V.le.keep (ag := false) (xs := [.sc _]) (ys := [.sc _]) rfl rfl ⟨(by first | rfl | (show Leaf.sc _ = Leaf.sc _; refine congrArg Leaf.sc ?_; first | rfl | go_num | (simp [cntAll]; done)) | (simp [cntAll]; done) | (simp; omega)), trivial⟩)) trivial ⟨.inr ⟨_, _, rfl, ?ob1_0, (Nat.le_of_ble_eq_true rfl)⟩, trivial⟩ (new_ob nil_ob) (fun i j hi hj e => inj_list (l := [0]) (by decide) i j hi hj e))
    case ob1_0 =>
      show some (T.seq _ _) = some (T.seq _ _)
      rw [toL_zero, List.length_map]; rfl
  · rintro t ht
    refine SV.seq' ?_
    refine SV.region ?_
    refine SV.op (OpL.ok (nb := 0) (ok_s2 (x := .tmp 11) (x' := .tmp 10) (VScal.one rfl) (VScal.one rfl) (fun ρ h1 h2 w => by go_simp; (try go_bits); with_reducible rfl) rfl) rfl (Nat.le_of_ble_eq_true rfl)) rfl ?_
    refine SV.nil ?_
    refine SV.tn ?_
    refine SV.seq' ?_
    refine SV.cond rfl (fun hc0 => ?_) (fun hc0 => ?_)
    · skip   -- c0.T
      have htl : t < X.length := by simpa using hc0
      have hx : X[t]? = some X[t] := by simp [htl]
      refine SV.skip ?_
      refine SV.tn ?_
      refine SV.seq' ?_
      refine SV.block ?_
      refine SV.seq' ?_
      refine SV.region ?_
      refine SV.op (OpL.ok (nb := 0) (ok_move (v := V.one (.sc _)) (.inl rfl) rfl) rfl (Nat.le_of_ble_eq_true rfl)) rfl ?_
      refine SV.op (OpL.ok (nb := 0) (ok_index (n := 3) (lf := .ro _) rfl elt_impl_Row.und sz_impl_Row rfl rfl rfl (map_at (by assumption))) rfl (Nat.le_of_ble_eq_true rfl)) rfl ?_
      refine SV.op (OpL.ok (nb := 0) (ok_load_rp (ag := true) (m := 3) (ys := [.sc _, .sc _, .sc _]) rfl rfl agg_impl_Row sz_impl_Row (fun h => by cases h) (Nat.le_of_ble_eq_true rfl) rfl) rfl (Nat.le_of_ble_eq_true rfl)) rfl ?_
      refine SV.op (OpMk.ok (ok_alloc (kk := 0) (xs := [.sc _, .sc _, .sc _]) rfl rfl zero_impl_Row ⟨rfl, rfl, rfl, rfl, rfl, rfl, trivial⟩ rfl (Nat.le_of_ble_eq_true rfl))) rfl ?_
      refine SV.op (OpL.ok (nb := 1) (ok_move (v := V.one (.sc _)) (.inr rfl) rfl) rfl (Nat.le_of_ble_eq_true rfl)) rfl ?_
      refine SV.op (ok_store_bp (b := 0) (i := 0) (m := 3) (ag := true) (zs := [.sc _, .sc _, .sc _]) (ys := [.sc _, .sc _, .sc _]) rfl rfl rfl rfl sz_impl_Row (fun h => by cases h) rfl (Nat.le_of_ble_eq_true rfl) rfl rfl rfl) rfl ?_
      refine SV.nil ?_
      refine SV.tn ?_
      refine SV.region ?_
      refine SV.op (OpL.ok (nb := 1) (ok_move (v := V.one (.hd 0)) (.inl rfl) rfl) rfl (Nat.le_of_ble_eq_true rfl)) rfl ?_
      refine SV.op (OpL.ok (nb := 1) (ok_move (v := V.one (.sc _)) (.inl rfl) rfl) rfl (Nat.le_of_ble_eq_true rfl)) rfl ?_
      refine SV.op (OpL.ok (nb := 1) (ok_load_bp (b := 0) (i := 0) (ag := true) (m := 3) (ys := [.sc _, .sc _, .sc _]) rfl rfl rfl agg_impl_Row sz_impl_Row (fun h => by cases h) rfl rfl (Nat.le_of_ble_eq_true rfl)) rfl (Nat.le_of_ble_eq_true rfl)) rfl ?_
      refine SV.op (OpMk.ok (ok_call (ls := [(true, [.sc _, .sc _, .sc _, .sc _, .sc _])]) rfl rfl ⟨_, _, Try.func19, rfl, by decide⟩ (vofrow_i X[t]) ⟨⟨[.sc _, .sc _, .sc _], rfl, ⟨rfl, rfl, rfl, trivial⟩⟩, trivial⟩ rfl (Nat.le_of_ble_eq_true rfl))) rfl ?_
      refine SV.op (OpL.ok (nb := 1) (ok_index (n := 5) (lf := .hd 0) rfl elt_impl_Group.und sz_impl_Group rfl rfl rfl (toL_at htl)) rfl (Nat.le_of_ble_eq_true rfl)) rfl ?_
      refine SV.op (ok_store_ep (i := 0) (n := 5) (m := 5) (ag := true) (zs := [.sc _, .sc _, .sc _, .sc _, .sc _]) rfl rfl rfl rfl (toL_at htl) sz_impl_Group (fun h => by cases h) rfl sz_impl_Group (Nat.le_of_ble_eq_true rfl) (outs_c rfl (outs_c rfl (outs_c rfl (outs_c rfl (outs_c rfl outs_n))))) (by simp [two]) rfl rfl rfl) rfl ?_
      refine SV.nil ?_
      refine SV.bn ?_
      refine SV.tn ?_
      refine SV.region ?_
      refine SV.op (OpL.ok (nb := 1) (ok_s2 (x := .tmp 11) (x' := .const ((Value.int IntKind.i64 1))) (VScal.one rfl) (VScal.one rfl) (fun ρ h1 h2 w => by go_simp; (try go_bits); with_reducible rfl) rfl) rfl (Nat.le_of_ble_eq_true rfl)) rfl ?_
      refine SV.op (OpL.ok (nb := 1) (ok_move (v := V.one (.sc _)) (.inl rfl) rfl) rfl (Nat.le_of_ble_eq_true rfl)) rfl ?_
      refine SV.nil ?_
      refine SV.tn ?_
      refine SV.again (fun i => [0].getD i 0) (t + 1) (⟨by omega, by omega⟩) (pins hE rfl rfl) (VS.le.mk' (le_put (le_put (le_put (le_put (le_put (le_new le_nil) (V.le.keep (ag := false) (xs := [.sc _]) (ys := [.sc _]) rfl rfl ⟨rfl, trivial⟩)) (V.le.keep (ag := false) (xs := [.hd 0]) (ys := [.hd 0]) rfl rfl ⟨⟨rfl, (Nat.le_of_ble_eq_true rfl), (Nat.le_of_ble_eq_true rfl)⟩, trivial⟩)) (V.le.keep (ag := false) (xs := [.ro _]) (ys := [.ro _]) rfl rfl ⟨rfl, trivial⟩)) (V.le.keep (ag := false) (xs := [.sc _]) (ys := [.sc _]) rfl rfl ⟨rfl, trivial⟩)) (V.le.keep (ag := false) (xs := [.sc _]) (ys := [.sc _]) rfl rfl ⟨(by first | rfl | (show Leaf.sc _ = Leaf.sc _; refine congrArg Leaf.sc ?_; first | rfl | go_num | (simp [cntAll]; done)) | (simp [cntAll]; done) | (simp; omega)), trivial⟩)) trivial ⟨.inr ⟨_, _, rfl, ?ob2_0, (Nat.le_of_ble_eq_true rfl)⟩, trivial⟩ (new_ob nil_ob) (fun i j hi hj e => inj_list (l := [0]) (by decide) i j hi hj e))
      case ob2_0 =>
        show some (T.seq _ _) = some (T.seq _ _)
        rw [← toL_next htl]; rfl
    · skip   -- c0.F
      have hte : ¬ t < X.length := by simpa using hc0
      have hm := vmerge_i (X.map GroupD.ofRow) (by simp; omega) (fun g hg => by obtain ⟨r, hr, rfl⟩ := List.mem_map.1 hg; exact hK r hr)
      rw [show (X.map GroupD.ofRow).map tGroup = toL (fun r => tGroup (GroupD.ofRow r)) zGroup X t from ((toL_all hte).trans (by rw [List.map_map]; rfl)).symm] at hm
      refine SV.exit ?_
      refine SV.te ?_
      refine SV.te ?_
      refine SV.bh ?_
      refine SV.tn ?_
      refine SV.seq' ?_
      refine SV.region ?_
      refine SV.op (OpL.ok (nb := 0) (ok_move (v := V.one (.hd 0)) (.inl rfl) rfl) rfl (Nat.le_of_ble_eq_true rfl)) rfl ?_
      refine SV.op (OpMk.ok (ok_call (ls := [(false, [.hd 1])]) rfl rfl ⟨_, _, Try.func27, rfl, by decide⟩ (hm) ⟨⟨[.hd 0], rfl, ⟨rfl, trivial⟩⟩, trivial⟩ rfl (Nat.le_of_ble_eq_true rfl))) rfl ?_
      refine SV.op (OpL.ok (nb := 0) (ok_move (v := V.one (.hd 1)) (.inr rfl) rfl) rfl (Nat.le_of_ble_eq_true rfl)) rfl ?_
      refine SV.nil ?_
      refine SV.tn ?_
      refine SV.ret ?_
      apply SV.done (hf := Try.results11) (ht := rfl) (he := .inl rfl)
      case hr => exact (ResAll.cons (ResOk.tmp (ag := false) (xs := [.hd 1]) rfl) ResAll.nil')
      case h2 => simp [two]
      refine ⟨rfl, ⟨?_, trivial⟩, trivial⟩ <;> rfl
end Go.Proofs.Ytmlcdhblofjpbaa
