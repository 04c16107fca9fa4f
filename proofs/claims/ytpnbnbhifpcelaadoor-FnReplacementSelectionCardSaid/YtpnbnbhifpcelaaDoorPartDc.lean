/- Texts joined: VN VMk VJ TSorter VTr RunW Fits VQ Valids Ares SameRows Counti Cmps Cmpi Asc Class Sorts EqBagS Kit In Bits Fmt Frows FmtRows RowsT VNo VFg SameR Draw Byte Below New Pick Code Block RowDraw RowsDraw OneRows Draw7 VDr VCu. -/
import Derived.Test.YtpnbnbhifpcelaaDoorPartDb
import Derived.Deep.QuietTactic
import Derived.BigQuiet
import Derived.StillTailTactics
import Derived.Laws.StructEq
import Derived.Deep.RegionWith
import Derived.Deep.Quiet
import Derived.WalkKit
import Derived.Deep.RegionLaw
import Derived.Lib.SliceRun
import Derived.Test.YtpnbnbhifpcelaaDoorProg
import Derived.Below
import Derived.Lib.Hide
import Derived.OwnWalk
import Derived.Laws.IdiomStrings
import Derived.IntWalk
import Derived.Laws.OwnMore
import Derived.Laws.BitsAllLaws
import Derived.Laws.BitsLemmas
import Derived.Deep.RegionHeld3
import Derived.OpenShut
set_option linter.unusedSimpArgs false
set_option linter.unusedVariables false
/- States told by trees: what lies in an object's element is lent; an element's cells are written. -/
namespace Go.Proofs.YtpnbnbhifpcelaaDoor.V
open Go Go.RowKit
set_option linter.unusedVariables false
variable {P : Program} {E : Env} {N : Nat} {σ σ' : VS} {o : Oper} {a : Act} {w : World} {G : Ghost}
theorem at_inj {n k k' j j' : Nat} (hj : j < n) (hj' : j' < n) (h : k * n + j = k' * n + j') : k = k' ∧ j = j' := by
  rcases Nat.lt_trichotomy k k' with h1 | h1 | h1
  · have h2 : (k + 1) * n ≤ k' * n := Nat.mul_le_mul_right n h1
    rw [Nat.add_mul, Nat.one_mul] at h2
    omega
  · subst h1
    exact ⟨rfl, by omega⟩
  · have h2 : (k' + 1) * n ≤ k * n := Nat.mul_le_mul_right n h1
    rw [Nat.add_mul, Nat.one_mul] at h2
    omega
theorem set_get {α : Type} {l : List α} {k q : Nat} {x y : α} (h : (l.set k y)[q]? = some x) : (q = k ∧ x = y) ∨ (q ≠ k ∧ l[q]? = some x) := by
  by_cases hq : q = k
  · subst hq
    have hl : q < l.length := by have := get_lt h; simpa using this
    rw [List.getElem?_set_self hl] at h
    exact .inl ⟨rfl, (Option.some.inj h).symm⟩
  · rw [List.getElem?_set_ne (fun e => hq e.symm)] at h
    exact .inr ⟨hq, h⟩
theorem splice_get {α : Type} {l vs : List α} {i j : Nat} (h : i + vs.length ≤ l.length) : (l.take i ++ vs ++ l.drop (i + vs.length))[j]? = if i ≤ j ∧ j < i + vs.length then vs[j - i]? else l[j]? := by
  have hl : (l.take i).length = i := by rw [List.length_take]; omega
  rw [List.append_assoc]
  rcases Nat.lt_or_ge j i with hj | hj
  · rw [List.getElem?_append_left (by omega), List.getElem?_take, if_pos hj, if_neg (by omega)]
  · rw [List.getElem?_append_right (by omega), hl]
    rcases Nat.lt_or_ge (j - i) vs.length with hk | hk
    · rw [List.getElem?_append_left hk, if_pos ⟨hj, by omega⟩]
    · rw [List.getElem?_append_right hk, List.getElem?_drop, if_neg (by omega)]
      congr 1
      omega
theorem splice_len {α : Type} {l vs : List α} {i : Nat} (h : i + vs.length ≤ l.length) : (l.take i ++ vs ++ l.drop (i + vs.length)).length = l.length := by
  simp only [List.length_append, List.length_take, List.length_drop]
  omega
theorem kills_ob {cs : List Leaf} {j : Nat} (h : cs.any (isHd j) = false) : (σ.kills cs).ob j = σ.ob j := by show (bif cs.any (isHd j) then none else σ.ob j) = _; rw [h]; rfl
theorem kills_none {cs : List Leaf} {j : Nat} (h : cs.any (isHd j) = true) : (σ.kills cs).ob j = none := by show (bif cs.any (isHd j) then none else σ.ob j) = _; rw [h]; rfl
theorem ok_store_ep {i ver kk oo n m : Nat} {ty ty0 : TypeId} {x y : Operand} {ag : Bool} {zs : List Leaf} {ts : List T} {es es' : List (List T)} {e : List T} (ho : o.op = .store ty0 x y) (hx : σ.ev x = V.one (.ep i kk n oo)) (hy : σ.ev y = V.flat ag zs) (hi : σ.ob i = some (ver, .seq ty es)) (he : es[kk]? = some e) (hm : Sz ty0 m) (h1 : ag = false → m = 1)
    (hzl : zs.length = m) (hsn : Sz ty n) (hlen : oo + m ≤ n) (ht : σ.outs zs ts) (h2 : zs.Pairwise two) (hself : zs.any (isHd i) = false) (hes : es.set kk (e.take oo ++ ts ++ e.drop (oo + ts.length)) = es') (hd : o.dst = none) : OpOk Tryd.prog E N σ o ((σ.kills zs).setob i (.seq ty es')) :=
  fun a w G K Q h k => by
    subst hes
    have hxv := h.ev x
    rw [hx, vone] at hxv
    obtain ⟨⟨hlt, g, q0, M, c, hvl, hptr⟩, -⟩ := hxv
    have hyv := h.ev y
    rw [hy, vflat] at hyv
    obtain ⟨us, hu1, hu2, hu3⟩ := hyv
    obtain ⟨o1, o2⟩ := outs_get ht
    have hzo : ∀ z ∈ zs, ∃ t, σ.out z = some t := fun z hz => by
      obtain ⟨j, hj, rfl⟩ := List.getElem_of_mem hz
      obtain ⟨z', e1, e2⟩ := o2 j ts[j] (List.getElem?_eq_getElem (by omega))
      rw [List.getElem?_eq_getElem hj] at e1
      exact ⟨_, by rw [Option.some.inj e1]; exact e2⟩
    have hown1 : ∀ (j : Nat) (t : T) (u : Value), ts[j]? = some t → us[j]? = some u → ∃ z, zs[j]? = some z ∧ Own w 0 t u (z.foot G) := fun j t u hj hu => by
      obtain ⟨z, e1, e2⟩ := o2 j t hj
      exact ⟨z, e1, h.out (hu3 j z u e1 hu) e2⟩
    -- whose blocks they are
    have hfoot : ∀ z ∈ zs, ∀ b, z.foot G b → ∃ j, z = .hd j ∧ σ.ob j ≠ none ∧ j ≠ i ∧ G.ft j b := fun z hz b hb => by
      cases z with
      | hd j =>
        obtain ⟨t, e1⟩ := hzo _ hz
        obtain ⟨p, e2, -⟩ := Option.map_eq_some_iff.1 e1
        refine ⟨j, rfl, by rw [e2]; simp, fun e3 => ?_, hb⟩
        subst e3
        have := List.any_eq_false.1 hself _ hz
        exact this (Nat.beq_refl j)
      | _ => exact hb.elim
    have hfd : ∀ (q q' : Nat) (z z' : Leaf) (b : Nat), zs[q]? = some z → zs[q']? = some z' → z.foot G b → z'.foot G b → q = q' := fun q q' z z' b e1 e2 hb hb' => by
      obtain ⟨j, rfl, f1, f2, f3⟩ := hfoot z (get_mem e1) b hb
      obtain ⟨j', rfl, f4, f5, f6⟩ := hfoot z' (get_mem e2) b hb'
      have hjj : j = j' := by
        rcases Nat.decEq j j' with hne | hne
        · exact absurd f6 (h.disj j j' b f1 f4 hne f3)
        · exact hne
      subst hjj
      have g1 := get_lt e1
      have g2 := get_lt e2
      rw [List.getElem?_eq_getElem g1] at e1
      rw [List.getElem?_eq_getElem g2] at e2
      rcases Nat.lt_trichotomy q q' with hlt2 | he2 | hgt
      · have := (List.pairwise_iff_getElem.1 h2) q q' g1 g2 hlt2
        rw [Option.some.inj e1, Option.some.inj e2] at this
        exact absurd rfl (this j rfl)
      · exact he2
      · have := (List.pairwise_iff_getElem.1 h2) q' q g2 g1 hgt
        rw [Option.some.inj e1, Option.some.inj e2] at this
        exact absurd rfl (this j rfl)
    have hone1 : ∀ u ∈ us, u.oneCell' = true := fun u hu => by
      obtain ⟨j, hj, rfl⟩ := List.getElem_of_mem hu
      obtain ⟨z, -, e2⟩ := hown1 j ts[j] us[j] (List.getElem?_eq_getElem (by omega)) (List.getElem?_eq_getElem hj)
      exact e2.one
    obtain ⟨hlt2, hown0, -⟩ := h.objs i ver _ hi
    rw [hvl] at hown0
    cases hown0 with
    | seq n' hp hz hn xs0 hown Gs hr hone hFr hG hne hdd =>
    have hnn := hz.eq hsn
    subst hnn
    have hen : e.length = n' := hn e (get_mem he)
    have hkl := get_lt he
    have hwn := hown
    obtain ⟨hxl, ⟨e0, -⟩ | ⟨g2, q2, cap, cur, e0, hB, hh, hcap, hcm, hcs, htk⟩⟩ := hown
    · cases e0
    injection e0 with e0 e0' e0''
    injection e0 with e0
    injection e0 with e0 e1'
    subst e0 e1'
    have hq : kk * n' + oo + us.length ≤ es.length * n' := by
      have : (kk + 1) * n' ≤ es.length * n' := Nat.mul_le_mul_right n' hkl
      rw [Nat.add_mul, Nat.one_mul] at this
      omega
    have hcl : q0 + es.length * n' ≤ cur.toList.length := by
      have h3 := Nat.mul_le_mul_right n' hcap
      have h4 : cur.toList.length = cur.size := Array.length_toList
      omega
    have hh' : w.heap[g]? = some (.cells cur.toList.toArray ty (0, 0)) := by simpa using hh
    have hnew := setCells_heap g us (q0 + kk * n' + oo) w cur.toList ty hh' (by omega)
    obtain ⟨w', hw'⟩ : ∃ w', w' = w.setCells g (q0 + kk * n' + oo) us := ⟨_, rfl⟩
    rw [← hw'] at hnew
    have hfar : ∀ b, b ≠ g → w'.heap[b]? = w.heap[b]? := fun b hb => by rw [hw']; exact setCells_far g us _ w b hb
    have hbel : Below 0 w w' := by rw [hw']; exact setCells_below g 0 us _ w (Nat.zero_le _)
    have hgft : G.ft i g := hFr g rfl
    have hgl := h.ftlt i g (by rw [hi]; simp) hgft
    have hsm : Same E w w' := ⟨hbel.os, hbel.tape, hbel.output, hbel.size, fun b hb => hfar b fun e1 => by
      subst e1
      exact hgl.1.elim (fun h1 => by have := hb.1; omega) hb.2⟩
    have hrun := store_run (P := Tryd.prog) (w := w) (b := g) (i := q0 + kk * n' + oo) (us := us) (ag := ag) hm h1 (hu2.trans hzl) hone1 (fun q hq' => by
      rw [cell_of_row w _ _ _ _ _ hh]
      simp [show q0 + kk * n' + oo + q < cur.size by rw [← Array.length_toList]; omega]) fun q hq' => by simp [World.frozen?, hh]
    have hul : us.length = ts.length := by omega
    have htl : oo + ts.length ≤ e.length := by omega
    have hnewown : Own w' 0 (.seq ty (es.set kk (e.take oo ++ ts ++ e.drop (oo + ts.length)))) (.slice (some ⟨g, q0, none⟩) es.length cap) (fun b => G.ft i b ∨ ∃ z ∈ zs, z.foot G b) := by
      have hl' : (es.set kk (e.take oo ++ ts ++ e.drop (oo + ts.length))).length = es.length := List.length_set
      have hxs : ∀ q, (xs0.take (kk * n' + oo) ++ us ++ xs0.drop (kk * n' + oo + us.length))[q]? = if kk * n' + oo ≤ q ∧ q < kk * n' + oo + us.length then us[q - (kk * n' + oo)]? else xs0[q]? := fun q => splice_get (by omega)
      have hgn : ∀ z ∈ zs, ∀ b, z.foot G b → b ≠ g := fun z hz b hb e1 => by
        obtain ⟨j, -, f1, f2, f3⟩ := hfoot z hz b hb
        subst e1
        exact h.disj j i _ f1 (by rw [hi]; simp) f2 f3 hgft
      have hGz : ∀ z ∈ zs, ∀ q b, Gs q b → z.foot G b → False := fun z hz q b hb hb' => by
        obtain ⟨j, -, f1, f2, f3⟩ := hfoot z hz b hb'
        exact h.disj j i b f1 (by rw [hi]; simp) f2 f3 (hG q b hb)
      have hown2 : Row w' 0 ty n' (.slice (some ⟨g, q0, none⟩) es.length cap) es.length (xs0.take (kk * n' + oo) ++ us ++ xs0.drop (kk * n' + oo + us.length)) := by
        refine ⟨by rw [splice_len (by omega)]; exact hxl, .inr ⟨g, q0, cap, _, rfl, Nat.zero_le _, hnew, hcap, hcm, ?_, ?_⟩⟩
        · simp only [List.size_toArray]
          rw [splice_len (by omega), Array.length_toList]
          exact hcs
        · apply List.ext_getElem?
          intro q
          rw [hxs q, List.getElem?_take, List.getElem?_drop]
          simp only []
          rw [splice_get (by omega)]
          have hx0 : xs0[q]? = if q < es.length * n' then cur.toList[q0 + q]? else none := by rw [← htk, List.getElem?_take, List.getElem?_drop]
          rw [hx0]
          by_cases f1 : kk * n' + oo ≤ q ∧ q < kk * n' + oo + us.length
          · rw [if_pos f1, if_pos (by omega), if_pos (by omega), show q0 + q - (q0 + kk * n' + oo) = q - (kk * n' + oo) by omega]
          · rw [if_neg f1, if_neg (show ¬ (q0 + kk * n' + oo ≤ q0 + q ∧ q0 + q < q0 + kk * n' + oo + us.length) by omega)]
      refine .seq n' hp hz (fun e' he' => ?_) (xs0.take (kk * n' + oo) ++ us ++ xs0.drop (kk * n' + oo + us.length)) (by rw [hl']; exact hown2) (fun q b => if kk * n' + oo ≤ q ∧ q < kk * n' + oo + us.length then ∃ z, zs[q - (kk * n' + oo)]? = some z ∧ z.foot G b else Gs q b) (fun k2 e2 j t u hk2 hj hu => ?_) (fun u hu => ?_) (fun b hb => .inl (hFr b hb)) (fun q b hb => ?_) (fun q b hb hvb => ?_) fun q q' b hb hb' => ?_
      · rcases List.mem_or_eq_of_mem_set he' with h3 | h3
        · exact hn e' h3
        · rw [h3, splice_len htl]; exact hen
      · rw [hxs] at hu
        have hold : ∀ j, ¬ (kk * n' + oo ≤ k2 * n' + j ∧ k2 * n' + j < kk * n' + oo + us.length) → Own w 0 t u (Gs (k2 * n' + j)) → Own w' 0 t u (fun b => if kk * n' + oo ≤ k2 * n' + j ∧ k2 * n' + j < kk * n' + oo + us.length then ∃ z, zs[k2 * n' + j - (kk * n' + oo)]? = some z ∧ z.foot G b else Gs (k2 * n' + j) b) := fun j hneq hw => by
          refine (hw.frame fun b hb => hfar b fun e1 => hne _ b hb (by rw [e1]; rfl)).mono fun b hb => ?_
          rw [if_neg hneq]; exact hb
        rcases set_get hk2 with ⟨rfl, rfl⟩ | ⟨hk2n, hk2⟩
        · rw [splice_get htl] at hj
          by_cases hjr : oo ≤ j ∧ j < oo + ts.length
          · rw [if_pos hjr] at hj
            rw [if_pos (by omega), show k2 * n' + j - (k2 * n' + oo) = j - oo by omega] at hu
            obtain ⟨z, f1, f2⟩ := hown1 _ t u hj hu
            refine (f2.frame fun b hb => hfar b (hgn z (get_mem f1) b hb)).mono fun b hb => ?_
            rw [if_pos (by omega), show k2 * n' + j - (k2 * n' + oo) = j - oo by omega]
            exact ⟨z, f1, hb⟩
          · rw [if_neg hjr] at hj
            rw [if_neg (by omega)] at hu
            exact hold j (by omega) (hr k2 e j t u he hj hu)
        · have hjl : j < n' := by rw [← hn e2 (get_mem hk2)]; exact get_lt hj
          have hout : ¬ (kk * n' + oo ≤ k2 * n' + j ∧ k2 * n' + j < kk * n' + oo + us.length) := fun ⟨f1, f2⟩ => by
            have := at_inj (k := k2) (k' := kk) (j := j) (j' := k2 * n' + j - kk * n') hjl (by omega) (by omega)
            exact hk2n this.1
          rw [if_neg hout] at hu
          exact hold j hout (hr k2 e2 j t u hk2 hj hu)
      · rcases List.mem_append.1 hu with hu | hu
        · rcases List.mem_append.1 hu with hu | hu
          · exact hone u (List.mem_of_mem_take hu)
          · exact hone1 u hu
        · exact hone u (List.mem_of_mem_drop hu)
      · split at hb
        · obtain ⟨z, f1, f2⟩ := hb
          exact .inr ⟨z, get_mem f1, f2⟩
        · exact .inl (hG q b hb)
      · split at hb
        · obtain ⟨z, f1, f2⟩ := hb
          exact hgn z (get_mem f1) b f2 (Option.some.inj hvb).symm
        · exact hne q b hb hvb
      · split at hb <;> split at hb'
        · obtain ⟨z, f1, f2⟩ := hb
          obtain ⟨z', f3, f4⟩ := hb'
          have := hfd _ _ z z' b f1 f3 f2 f4
          omega
        · obtain ⟨z, f1, f2⟩ := hb
          exact (hGz z (get_mem f1) _ b hb' f2).elim
        · obtain ⟨z, f1, f2⟩ := hb'
          exact (hGz z (get_mem f1) _ b hb f2).elim
        · exact hdd _ _ b hb hb'
    have hki : (σ.kills zs).ob i = some (ver, .seq ty es) := by rw [kills_ob hself]; exact hi
    have hkj : ∀ j v, j ≠ i → ((σ.kills zs).setob i (.seq ty (es.set kk (e.take oo ++ ts ++ e.drop (oo + ts.length))))).ob j = some v → σ.ob j = some v ∧ zs.any (isHd j) = false := fun j v hj hv => by
      rw [setob_ne hj] at hv
      cases hc : zs.any (isHd j) with
      | true => rw [kills_none hc] at hv; cases hv
      | false => rw [kills_ob hc] at hv; exact ⟨hv, rfl⟩
    have hapart : ∀ j b, σ.ob j ≠ none → zs.any (isHd j) = false → j ≠ i → G.ft j b → (G.ft i b ∨ ∃ z ∈ zs, z.foot G b) → False := fun j b f1 f2 f3 f4 f5 => by
      rcases f5 with f5 | ⟨z, f5, f6⟩
      · exact h.disj j i b f1 (by rw [hi]; simp) f3 f4 f5
      · obtain ⟨j', rfl, f7, f8, f9⟩ := hfoot z f5 b f6
        refine h.disj j j' b f1 f7 (fun e1 => ?_) f4 f9
        subst e1
        exact List.any_eq_false.1 f2 _ f5 (Nat.beq_refl j)
    have hturn := h.turn (σ' := (σ.kills zs).setob i (.seq ty (es.set kk (e.take oo ++ ts ++ e.drop (oo + ts.length))))) (w' := w') (G' := ⟨G.β, G.vl, fun j b => if j = i then G.ft i b ∨ ∃ z ∈ zs, z.foot G b else G.ft j b⟩) (fun b => b = g) rfl rfl rfl hsm (fun b _ hb => hfar b hb) (fun b hb e1 => h.boxft b i hb (by rw [hi]; simp) (by rw [e1]; exact hgft)) (Nat.le_refl _) (fun j hj => rfl) (fun j v' t' hv' => ?_) (fun j j' b hj hj' hjj hbj hbj' => ?_)
    · refine wp_skipped (w' := w') ?_ (by rw [hd]; exact k _ _ _ hturn.1)
      rw [hw']
      simp [execOp, ho, hptr, hu1, Instr.storeAt, Instr.sureAddr, hrun, Result.andThen]
    · by_cases hji : j = i
      · subst hji
        rw [setob_self, hki] at hv'
        cases hv'
        refine .inr ⟨hlt2, fun _ => ⟨ver, _, hi, Nat.lt_succ_self _⟩, ?_, ⟨_, _, rfl⟩, fun b hb => ?_, fun b hb c' hc' e3 => ?_⟩
        · rw [show (⟨G.β, G.vl, fun j' b => if j' = j then G.ft j b ∨ ∃ z ∈ zs, z.foot G b else G.ft j' b⟩ : Ghost).vl j = .slice (some ⟨g, q0, none⟩) es.length cap by rw [← e0', ← e0'']; exact hvl]
          exact hnewown.mono fun b hb => by show if j = j then _ else _; rw [if_pos rfl]; exact hb
        · replace hb : if j = j then G.ft j b ∨ ∃ z ∈ zs, z.foot G b else G.ft j b := hb
          rw [if_pos rfl] at hb
          have : (E.B ≤ b ∨ E.ln b) ∧ b < w.heap.size := by
            rcases hb with hb | ⟨z, f1, f2⟩
            · exact h.ftlt j b (by rw [hi]; simp) hb
            · obtain ⟨j', -, f3, f4, f5⟩ := hfoot z f1 b f2
              exact h.ftlt j' b f3 f5
          exact ⟨this.1, Nat.lt_of_lt_of_le this.2 hsm.size⟩
        · replace hb : if j = j then G.ft j b ∨ ∃ z ∈ zs, z.foot G b else G.ft j b := hb
          rw [if_pos rfl] at hb
          subst e3
          rcases hb with hb | ⟨z, f1, f2⟩
          · exact h.boxft c' j hc' (by rw [hi]; simp) hb
          · obtain ⟨j', -, f3, f4, f5⟩ := hfoot z f1 _ f2
            exact h.boxft c' j' hc' f3 f5
      · obtain ⟨f1, f2⟩ := hkj j _ hji hv'
        refine .inl ⟨f1, fun b => by show (if j = i then _ else _) ↔ _; rw [if_neg hji], fun b hb e1 => ?_⟩
        subst e1
        exact h.disj j i _ (by rw [f1]; simp) (by rw [hi]; simp) hji hb hgft
    · replace hbj : if j = i then G.ft i b ∨ ∃ z ∈ zs, z.foot G b else G.ft j b := hbj
      replace hbj' : if j' = i then G.ft i b ∨ ∃ z ∈ zs, z.foot G b else G.ft j' b := hbj'
      split at hbj <;> split at hbj'
      · omega
      · rename_i e1 e2
        obtain ⟨vj, hvj⟩ := Option.ne_none_iff_exists'.1 hj'
        obtain ⟨f1, f2⟩ := hkj j' vj e2 hvj
        exact hapart j' b (by rw [f1]; simp) f2 e2 hbj' hbj
      · rename_i e1 e2
        obtain ⟨vj, hvj⟩ := Option.ne_none_iff_exists'.1 hj
        obtain ⟨f1, f2⟩ := hkj j vj e1 hvj
        exact hapart j b (by rw [f1]; simp) f2 e1 hbj hbj'
      · rename_i e1 e2
        obtain ⟨vj, hvj⟩ := Option.ne_none_iff_exists'.1 hj
        obtain ⟨f1, -⟩ := hkj j vj e1 hvj
        obtain ⟨vj', hvj'⟩ := Option.ne_none_iff_exists'.1 hj'
        obtain ⟨f2, -⟩ := hkj j' vj' e2 hvj'
        exact h.disj j j' b (by rw [f1]; simp) (by rw [f2]; simp) hjj hbj hbj'
theorem cells_ep {i ver k n o' : Nat} {ty : TypeId} {es : List (List T)} {e ds : List T} (hi : σ.ob i = some (ver, .seq ty es)) (he : es[k]? = some e) (hn : e.length = n) (hd : e.drop o' = ds) : σ.cells (.ep i k n o') = some ds := by
  show (σ.ob i).bind _ = _
  rw [hi]
  show es[k]?.bind _ = _
  rw [he]
  show (bif Nat.beq e.length n then some (e.drop o') else none) = _
  rw [hn, Nat.beq_refl, ← hd]; rfl
/-! ### 'make' -/
def zeroT : Leaf → T
  | .sc u => .lit u
  | .nl ty => .seq ty []
  | _ => .any
theorem zl_own {w : World} : ∀ {xs : List Leaf} {us : List Value}, ZL xs us → ∀ (j : Nat) (x : Leaf) (u : Value), xs[j]? = some x → us[j]? = some u → Own w 0 (zeroT x) u (fun _ => False)
  | [], [], _, j, x, u, h1, _ => by simp at h1
  | .sc v :: xs, u :: us, h, j, x, y, h1, h2 => by
    cases j with
    | zero => cases h1; cases h2; rw [h.1]; exact .lit (by rw [← h.1]; exact h.2.1)
    | succ j => exact zl_own h.2.2 j x y (by simpa using h1) (by simpa using h2)
  | .nl _ :: xs, u :: us, h, j, x, y, h1, h2 => by
    cases j with
    | zero =>
      cases h1; cases h2
      obtain ⟨n, hn, hz⟩ := h.2.1
      rw [h.1]
      exact Own.seq (es := []) n hn hz (fun e he => by cases he) [] (Row.of (World.ownsRow_nil _ _ _ _)) (fun _ _ => False) (fun k e j t u h => by simp at h) (fun u hu => by cases hu) (fun b hb => by cases hb) (fun i b hb => hb.elim) (fun i b hb => hb.elim) fun i j b hb => hb.elim
    | succ j => exact zl_own h.2.2 j x y (by simpa using h1) (by simpa using h2)
theorem made_get {z : Array Value} {m q : Nat} {u : Value} (hz : 0 < z.size) (h : (madeCells z m).toList[q]? = some u) : z.toList[q % z.size]? = some u := by
  have hq : q < m := by have := get_lt h; simpa [madeCells] using this
  have hm : q % z.size < z.size := Nat.mod_lt _ hz
  simp [madeCells, hq] at h
  rw [← h]
  simp [hm]
theorem ok_make {d : Nat} {t ty : TypeId} {n bytes : Nat} {z : Value} {x y : Operand} {zs : List Leaf} {zt : List T} {k0 : Nat} {kl kc : IntKind} (I : ElT t ty n z bytes) {kk : Nat} (hk : σ.nx = kk) (ho : o.op = .makeSlice t x y) (hx : σ.ev x = V.one (.sc (.int kl (k0 : Nat)))) (hy : σ.ev y = V.one (.sc (.int kc (k0 : Nat)))) (hz : ZL zs z.cells.toList) (hzt : zs.map zeroT = zt) (hl : k0 ≤ 350000000000)
    (hd : o.dst = some d) (hdN : d < N) : OpMk Tryd.prog E N none σ o ((σ.new (.seq ty (List.replicate k0 zt))).put d (V.one (.hd kk))) :=
  fun a w G K Q h k => by
    subst hk hzt
    obtain ⟨i0, hi, hz0, hz1, hz2⟩ := info_parts I.inf
    have hby : i0.bytes * k0 ≤ 281474976710656 := by
      have h1 : i0.bytes * k0 ≤ 400 * 350000000000 := Nat.mul_le_mul (by rw [hz2]; exact I.small) hl
      omega
    have hrun := run_make (P := Tryd.prog) w t ty i0 z I.und hi hz0 kl kc k0 k0 (by omega) (Int.le_refl _) (by
      have h1 : ((i0.bytes * k0 : Nat) : Int) ≤ 281474976710656 := by omega
      rwa [Int.natCast_mul] at h1) (by omega)
    simp only [Int.toNat_natCast, hz1] at hrun
    have hzn : zs.length = n := by
      have := hz.len
      rw [← this, Array.length_toList]
      exact I.zs
    have hown := World.ownsRow_lit (base := 0) (w := w) (e := ty) (size := n) (madeCells z.cells (k0 * n)) k0 (Nat.zero_le _) (by unfold maxLen; omega) (size_madeCells _ _)
    obtain ⟨w', hw'⟩ : ∃ w', w' = w.alloc (.cells (madeCells z.cells (k0 * n)) ty) := ⟨_, rfl⟩
    have hget : ∀ (q : Nat) (u : Value), (madeCells z.cells (k0 * n)).toList[q]? = some u → z.cells.toList[q % n]? = some u := fun q u hu => by
      have := made_get (by rw [I.zs]; exact I.pos) hu
      rwa [I.zs] at this
    obtain ⟨G', hG', ⟨hvl, hvls, hβs⟩, -, -⟩ := h.renew [] (fun x hx => by cases hx) (w' := w.alloc (.cells (madeCells z.cells (k0 * n)) ty)) (t := .seq ty (List.replicate k0 (zs.map zeroT))) (v := .slice (some ⟨w.heap.size, 0, none⟩) k0 k0) (F := fun b => b = w.heap.size) (fun _ => False) (.of_below ((Below.refl _ _).alloc h.low _)) (fun k hk _ => Below.heap_alloc _ _ _ hk) (fun b hb => hb.elim)
      (.seq n I.pos I.sz (fun e he => by rw [List.eq_of_mem_replicate he, List.length_map]; exact hzn) (madeCells z.cells (k0 * n)).toList (by rw [List.length_replicate]; exact Row.of hown) (fun _ _ => False) (fun k e j t u he hj hu => by
          have he' : e = zs.map zeroT := List.eq_of_mem_replicate (get_mem he)
          subst he'
          rw [List.getElem?_map] at hj
          obtain ⟨lf, e1, e2⟩ := Option.map_eq_some_iff.1 hj
          have hjn : j < n := by rw [← hzn]; exact get_lt e1
          have := hget _ u hu
          rw [Nat.add_comm, Nat.add_mul_mod_self_right, Nat.mod_eq_of_lt hjn] at this
          rw [← e2]
          exact zl_own hz j lf u e1 this)
        (fun u hu => by
          obtain ⟨q, hq, rfl⟩ := List.getElem_of_mem hu
          have h1 := hget q _ (List.getElem?_eq_getElem hq)
          have h2 : q % n < zs.length := by rw [hzn]; exact Nat.mod_lt _ I.pos
          exact (zl_own (w := w) hz (q % n) zs[q % n] _ (List.getElem?_eq_getElem h2) h1).one) (fun b hb => by cases hb; rfl) (fun q b hb => hb.elim) (fun q b hb => hb.elim) fun q q' b hb => hb.elim)
      ⟨_, _, rfl⟩ fun b hb => ⟨by subst hb; exact ⟨.inl h.low, by simp⟩, .inl (h.fresh (by rw [hb]; exact Nat.le_refl _))⟩
    refine wp_value (v := .slice (some ⟨w.heap.size, 0, none⟩) k0 k0) (w' := w.alloc (.cells (madeCells z.cells (k0 * n)) ty)) ?_ (by rw [hd]; exact k _ _ _ (hG'.put hdN (vone.2 ⟨⟨Nat.lt_succ_self _, hvl.symm⟩, .inr rfl⟩)) ⟨by simp, .of_below ((Below.refl _ _).alloc h.low _), hvls, fun b _ => by rw [hβs], fun b hb => .inl (Below.heap_alloc _ _ _ hb), fun i e1 e2 b e3 => .inl (by
      have hi : i = σ.nx := Nat.le_antisymm (Nat.le_of_lt_succ e2) e1
      rw [hi, hvl] at e3
      rw [← Option.some.inj e3]; exact Nat.le_refl _)⟩)
    have hxv := h.sc hx
    have hyv := h.sc hy
    simp [execOp, ho, hxv, hyv, hrun, Result.andThen]
end Go.Proofs.YtpnbnbhifpcelaaDoor.V
/- States told by trees: the laws' marks, element by element; no function of program or reference is walked here. -/
namespace Go.Proofs.YtpnbnbhifpcelaaDoor
open Go Go.RowKit V
set_option linter.unusedVariables false
def mkL {α β : Type} (m : Mk α) (f : α → β) (q : Int) (X : List α) (t : Nat) : List β := (mkAll m q (X.take t) ++ X.drop t).map f
variable {α β : Type} {m : Mk α} {f : α → β} {q : Int} {X : List α} {t : Nat}
theorem mkL_all (h : ¬ t < X.length) : mkL m f q X t = (mkAll m q X).map f := by
  rw [mkL, List.take_of_length_le (by omega), List.drop_eq_nil_of_le (by omega), List.append_nil]
def rowMk : Mk R := ⟨fun q _ => ⟨q, q + 1, q + 1 + 1⟩, fun _ => 3, fun _ _ => rfl⟩
def toL {α β : Type} (f : α → β) (z : β) (X : List α) (t : Nat) : List β := (X.take t).map f ++ List.replicate (X.length - t) z
section
variable {α β : Type} {f : α → β} {z : β} {X : List α} {t : Nat}
theorem toL_zero : toL f z X 0 = List.replicate X.length z := by simp [toL]
theorem toL_all (h : ¬ t < X.length) : toL f z X t = X.map f := by
  rw [toL, List.take_of_length_le (by omega), show X.length - t = 0 by omega]; simp
theorem toL_at (h : t < X.length) : (toL f z X t)[t]? = some z := by
  rw [toL, List.getElem?_append_right (by simp; omega)]
  simp [List.getElem?_replicate, List.length_take]
  omega
theorem toL_next (h : t < X.length) : (toL f z X t).set t (f X[t]) = toL f z X (t + 1) := by
  have hl : ((X.take t).map f).length = t := by rw [List.length_map, List.length_take]; omega
  rw [toL, List.set_append_right _ _ (by omega), hl, Nat.sub_self, toL, List.take_succ_eq_append_getElem h, List.map_append, List.append_assoc]
  rw [show X.length - t = (X.length - (t + 1)) + 1 by omega, List.replicate_succ, List.set_cons_zero]
  rfl
end
end Go.Proofs.YtpnbnbhifpcelaaDoor
/- States told by trees: loops whose states are told by what changes (the rest stands as at the loop's beginning); calls by contracts of plain values. -/
namespace Go.Proofs.YtpnbnbhifpcelaaDoor.V
open Go Go.RowKit
set_option linter.unusedVariables false
variable {P : Program} {E : Env} {N nb : Nat} {σ σ' τ : VS} {o : Oper} {a : Act} {w : World} {G : Ghost} {Q : Exit → Act → World → Prop} {K : Act → World → Prop}
def VS.tree (σ : VS) (i : Nat) : T := match σ.ob i with
  | some p => p.2
  | none => .any
def VS.lf (σ : VS) (d j : Nat) : Leaf := match (σ.tm d).cs with
  | p :: _ => p.2.getD j .dead
  | [] => .dead
def VS.bl (σ : VS) (b j : Nat) : Leaf := match σ.bs[b]? with
  | some p => p.2.getD j .dead
  | none => .dead
theorem SV.loopF {c : Go.Code} {X : Type} (I : VS → X → VS) (Inv : X → Prop) (μ : X → Nat) (h0 : SV E N σ fun a w => ∃ x, Inv x ∧ ∃ G, Rel E N (I σ x) a w G)
    (round : ∀ x, Inv x → SV E N (I σ x) (c.wp P (Exit.then (fun a w => ∃ x', (Inv x' ∧ μ x' < μ x) ∧ ∃ G, Rel E N (I σ x') a w G) Q))) : SV E N σ ((Code.loop c).wp P Q) := SV.loop (I σ) Inv μ h0 round
theorem V.le.keep {ρ : Nat → Nat} {ag : Bool} {xs ys : List Leaf} {v v' : V} (h : v = V.flat ag xs) (h' : v' = V.flat ag ys) (l : leafs σ τ ρ xs ys) : V.le σ τ ρ v v' := .inr ⟨ag, xs, ys, h, h', l⟩
theorem SV.sub {ρ : Nat → Nat} (hp : E.nl ≤ τ.nx ∧ (∀ i, i < E.nl → ρ i = i) ∧ ∀ c, E.pin = some c → 0 < τ.bs.length) (l : VS.le σ τ ρ) (k : SV E N τ K) : SV E N σ K := fun a w G h => by
  obtain ⟨G', h'⟩ := h.weaken hp l
  exact k a w G' h'
theorem SV.nlsc {s kk n : Nat} {ty : TypeId} (hk : σ.nx = kk) (hs : σ.tm s = V.one (.sc (.slice none 0 0))) (hp : 0 < n) (hz : Sz ty n) (hN : s < N) (k : SV E N ((σ.new (.seq ty [])).put s (V.one (.hd kk))) K) : SV E N σ K := fun a w G h => by
  subst hk
  have h1 := h.tmps s
  rw [hs, vone] at h1
  have h2 : a.tmps.getD s undef = .slice none 0 0 := h1.1
  obtain ⟨G', k1, k2, -, -⟩ := h.newnil hp hz
  have k3 := k1.put (d := s) (v := V.one (.hd σ.nx)) (u := a.tmps.getD s undef) hN (vone.2 ⟨⟨Nat.lt_succ_self _, by rw [h2, k2]⟩, .inr (by rw [h2]; rfl)⟩)
  have e : a.put (some s) (a.tmps.getD s undef) = a := by
    have hs' : s < a.tmps.size := by rw [h.nsz]; exact hN
    cases a with
    | mk tmps defers =>
      have : tmps.setIfInBounds s (tmps.getD s undef) = tmps := by
        apply Array.ext_getElem?
        intro i
        rw [Array.getElem?_setIfInBounds]
        split
        · rename_i hi; subst hi
          simp at hs'
          simp [hs']
        · rfl
      show Act.mk _ _ = _
      rw [this]
  rw [e] at k3
  exact k a w G' k3
def isLit : T → Bool
  | .lit _ => true
  | _ => false
theorem flat_of {α : Type} {f : α → List T} (h : ∀ x, (f x).all isLit = true) (X : List α) : Flat (X.map f) := fun k e j t h1 h2 => by
  rw [List.getElem?_map] at h1
  obtain ⟨x, -, rfl⟩ := Option.map_eq_some_iff.1 h1
  have := List.all_eq_true.1 (h x) t (get_mem h2)
  cases t with
  | lit u => exact ⟨u, rfl⟩
  | any => cases this
  | seq ty es => cases this
/-! ### A literal of scalars -/
def VS.scs (σ : VS) : List Operand → List Value → Prop
  | [], [] => True
  | x :: xs, u :: us => σ.ev x = V.one (.sc u) ∧ σ.scs xs us
  | _, _ => False
theorem Rel.scs (h : Rel E N σ a w G) : ∀ {xs : List Operand} {us : List Value}, σ.scs xs us → xs.map a.eval = us ∧ ∀ u ∈ us, u.oneCell' = true
  | [], [], _ => ⟨rfl, fun u hu => by cases hu⟩
  | x :: xs, u :: us, hx => by
    obtain ⟨h1, h2⟩ := h.scs hx.2
    have h3 := h.ev x
    rw [hx.1, vone] at h3
    have h4 : a.eval x = u := h3.1
    refine ⟨by rw [List.map_cons, h1, h4], fun v hv => ?_⟩
    rcases List.mem_cons.1 hv with rfl | hv
    · rcases h3.2 with h5 | h5
      · cases h5
      · rwa [h4] at h5
    · exact h2 v hv
theorem parts_eval {xs : List Operand} : ∀ (i : Nat), ((xs.zipIdx i).map fun x => (x.2, x.1)).map (fun (i, x) => (i, a.eval x)) = ((xs.map a.eval).zipIdx i).map fun x => (x.2, x.1) := by
  induction xs with
  | nil => intro i; rfl
  | cons x xs ih => intro i; simp only [List.zipIdx_cons, List.map_cons, ih]
theorem ok_litS {d m : Nat} {t ty : TypeId} {bytes : Nat} {z : Value} {xs : List Operand} {us : List Value} {ps : Array (Nat × Operand)} (I : ElT t ty 1 z bytes) {kk : Nat} (hk : σ.nx = kk) (ho : o.op = .buildSlice t m ps) (hps : ps = ((xs.zipIdx 0).map fun x => (x.2, x.1)).toArray) (hm : us.length = m) (hm0 : 0 < m) (hm1 : m ≤ 1000) (hx : σ.scs xs us) (hd : o.dst = some d) (hdN : d < N) : OpMk Tryd.prog E N none σ o ((σ.new (.seq ty (us.map fun u => [T.lit u]))).put d (V.one (.hd kk))) :=
  fun a w G K Q h k => by
    subst hk
    obtain ⟨i0, hi, hz0, hz1, hz2⟩ := info_parts I.inf
    obtain ⟨hev, hone⟩ := h.scs hx
    have hc1 : ∀ u ∈ us, u.cells = #[u] := fun u hu => cval_cells (ag := false) (us := [u]) fun _ => ⟨rfl, fun v hv => by rw [List.mem_singleton.1 hv]; exact hone u hu⟩
    have hmap : ps.map (fun (i, x) => (i, a.eval x)) = ((us.zipIdx 0).map fun x => (x.2, x.1)).toArray := by
      rw [hps, List.map_toArray, parts_eval, hev]
    have hrun : (Instr.buildSlice t m (((us.zipIdx 0).map fun x => (x.2, x.1)).toArray)).run Tryd.prog w = .ok (.slice (some ⟨w.heap.size, 0, none⟩) m m) (w.alloc (.cells us.toArray ty)) := by
      refine run_buildSlice w t ty m _ us.toArray i0 z I.und hi hz0 ?_ ?_ ?_
      · rw [hz1]; omega
      · rw [hz1]; omega
      · obtain ⟨r, hr1, hr2, hr3⟩ := Great.fill_dense (s := i0.size) (by omega) us 0 ((Array.range (m * i0.size)).map (z.cells[· % z.cells.size]!)) (fun v hv => by rw [hc1 v hv, hz1]; rfl) (by simp [hm])
        have e : r = us.toArray := by
          apply Array.ext_getElem?
          intro q
          rw [hr3 q]
          rcases Nat.lt_or_ge q us.length with hq | hq
          · rw [if_pos ⟨by omega, by rw [hz1]; omega⟩]
            rw [hz1]
            simp only [Nat.div_one, Nat.sub_zero, Nat.mod_one]
            rw [List.getElem?_eq_getElem hq]
            simp only [Option.bind_some, hc1 us[q] (List.getElem_mem hq)]
            simp [hq]
          · rw [if_neg (by rw [hz1]; omega)]
            have h8 : us.toArray[q]? = none := by simp; omega
            rw [h8, Array.getElem?_eq_none (by simp [hz1]; omega)]
        rw [← e]
        simpa using hr1
    obtain ⟨G', hG', ⟨hvl, hvls, hβs⟩, -, -⟩ := h.renew [] (fun x hx => by cases hx) (w' := w.alloc (.cells us.toArray ty)) (t := .seq ty (us.map fun u => [T.lit u])) (v := .slice (some ⟨w.heap.size, 0, none⟩) m m) (F := fun b => b = w.heap.size) (fun _ => False) (.of_below ((Below.refl _ _).alloc h.low _)) (fun k hk _ => Below.heap_alloc _ _ _ hk) (fun b hb => hb.elim)
      (.seq 1 (by omega) I.sz (fun e he => by obtain ⟨u, -, rfl⟩ := List.mem_map.1 he; rfl) us ⟨by simp, .inr ⟨w.heap.size, 0, m, us.toArray, by rw [List.length_map, hm], Nat.zero_le _, heap_alloc_new _ _, by rw [List.length_map, hm]; exact Nat.le_refl _, by unfold maxLen; omega, by simp [hm], by rw [List.length_map, Nat.mul_one, List.drop_zero]; exact List.take_of_length_le (by simp)⟩⟩ (fun _ _ => False) (fun k e j t' u hk' hj hu => by
          rw [List.getElem?_map] at hk'
          obtain ⟨u', hu', rfl⟩ := Option.map_eq_some_iff.1 hk'
          have hj0 : j = 0 := by have := get_lt hj; simpa using this
          subst hj0
          cases hj
          rw [Nat.mul_one, Nat.add_zero, hu'] at hu
          rw [← Option.some.inj hu]
          exact .lit (hone u' (get_mem hu'))) hone (fun b hb => (Option.some.inj hb).symm) (fun q b hb => hb.elim) (fun q b hb => hb.elim) fun q q' b hb => hb.elim)
      ⟨_, _, rfl⟩ fun b hb => ⟨by subst hb; exact ⟨.inl h.low, by simp⟩, .inl (h.fresh (by rw [hb]; exact Nat.le_refl _))⟩
    refine wp_value (v := .slice (some ⟨w.heap.size, 0, none⟩) m m) (w' := w.alloc (.cells us.toArray ty)) ?_ (by rw [hd]; exact k _ _ _ (hG'.put hdN (vone.2 ⟨⟨Nat.lt_succ_self _, hvl.symm⟩, .inr rfl⟩)) ⟨by simp, .of_below ((Below.refl _ _).alloc h.low _), hvls, fun b _ => by rw [hβs], fun b hb => .inl (Below.heap_alloc _ _ _ hb), fun i e1 e2 b e3 => .inl (by
      have hi : i = σ.nx := Nat.le_antisymm (Nat.le_of_lt_succ e2) e1
      rw [hi, hvl] at e3
      rw [← Option.some.inj e3]; exact Nat.le_refl _)⟩)
    simp only [execOp, ho, hmap]
    simp [hrun, Result.andThen]
theorem cat_run {ρ : Operand → Value} {x y : Operand} {t1 t2 : TypeId} {a b : List UInt8} (ho : o.op = .binOp .add t1 x y t2) (h1 : ρ x = .string ⟨a.toArray⟩) (h2 : ρ y = .string ⟨b.toArray⟩) (hl : a.length + b.length ≤ 9223372036854775807) : (execOp ρ o).run P w = .ok (.value (.string ⟨(a ++ b).toArray⟩)) w := by
  simp only [execOp, ho, h1, h2]
  go_simp
  rw [if_neg (by omega)]
  rw [ByteArray.mk_append_mk]
/-! ### Contracts of plain values -/
theorem inn_lit {ok : Nat → Prop} {u v : Value} (h : Inn ok w (.lit u) v) : v = u := by
  cases h
  rfl
theorem args_plain {w : World} {ins : List (Bool × List Value)} {vs : List Value} (hv : ArgsIn (Env.of w) w (ins.map fun p => (p.1, p.2.map T.lit)) vs) : vs = ins.map fun p => cval p.1 p.2 := by
  obtain ⟨hl, ha⟩ := hv
  rw [List.length_map] at hl
  apply List.ext_getElem?
  intro c
  rcases Nat.lt_or_ge c ins.length with hc | hc
  · have hcv : vs[c]? = some vs[c] := List.getElem?_eq_getElem (by omega)
    obtain ⟨us, h2, h3, h4⟩ := ha c ins[c].1 (ins[c].2.map T.lit) vs[c] (by rw [List.getElem?_map, List.getElem?_eq_getElem hc]; rfl) hcv
    have h5 : us = ins[c].2 := by
      rw [List.length_map] at h3
      apply List.ext_getElem?
      intro j
      rcases Nat.lt_or_ge j us.length with hj | hj
      · have := h4 j (T.lit ins[c].2[j]) us[j] (by rw [List.getElem?_map, List.getElem?_eq_getElem (by omega)]; rfl) (List.getElem?_eq_getElem hj)
        rw [List.getElem?_eq_getElem hj, List.getElem?_eq_getElem (by omega), inn_lit this]
      · rw [List.getElem?_eq_none hj, List.getElem?_eq_none (by omega)]
    rw [hcv, List.getElem?_map, List.getElem?_eq_getElem hc, h2, h5]; rfl
  · rw [List.getElem?_eq_none (by omega), List.getElem?_eq_none (by simpa using hc)]
theorem gives_plain {w w' : World} {e : Ending} {ag : Bool} {rs : List Value} (h1 : ∀ u ∈ rs, u.oneCell' = true) (he : e = .returned (cval ag rs)) (hb : Below w.heap.size w w') : Gives (Env.of w) false [(ag, rs.map T.lit)] e w' := by
  refine ⟨[rs], fun _ _ _ => False, rfl, by rw [he]; rfl, fun c ag' ts us hc hu => ?_, fun c j c' j' b hb => hb.elim, fun c j b hb => hb.elim, .of_below hb⟩
  cases c with
  | zero =>
    cases hc; cases hu
    refine ⟨by simp, fun j t u hj hu => ?_⟩
    rw [List.getElem?_map, hu] at hj
    cases hj
    exact .lit (h1 u (get_mem hu))
  | succ c => simp at hc
theorem VC.plainAt {f : FuncId} {ins : List (Bool × List Value)} {ag : Bool} {rs : List Value} (h1 : ∀ u ∈ rs, u.oneCell' = true) {w : World} (h : Calls P f (ins.map fun p => cval p.1 p.2).toArray w fun e w' => e = .returned (cval ag rs) ∧ Below w.heap.size w w') (vs : List Value) (hv : ArgsIn (Env.of w) w (ins.map fun p => (p.1, p.2.map T.lit)) vs) : Calls P f vs.toArray w (Gives (Env.of w) false [(ag, rs.map T.lit)]) := by
  rw [args_plain hv]
  exact h.mono fun e w' ⟨he, hb⟩ => gives_plain h1 he hb
theorem VC.plain {f : FuncId} {ins : List (Bool × List Value)} {ag : Bool} {rs : List Value} (h1 : ∀ u ∈ rs, u.oneCell' = true) (h : ∀ w, Calls P f (ins.map fun p => cval p.1 p.2).toArray w fun e w' => e = .returned (cval ag rs) ∧ Below w.heap.size w w') : VC P f (ins.map fun p => (p.1, p.2.map T.lit)) false [(ag, rs.map T.lit)] := fun w => VC.plainAt h1 (h w)
/-! ### Contracts in worlds of a class -/
def VCP (Φ : World → Prop) (P : Program) (f : FuncId) (ins : List (Bool × List T)) (tup : Bool) (rs : List (Bool × List T)) : Prop := ∀ (w : World), Φ w → ∀ (vs : List Value), ArgsIn (Env.of w) w ins vs → Calls P f vs.toArray w (Gives (Env.of w) tup rs)
def Env.keeps (E : Env) (Φ : World → Prop) : Prop := Φ E.w0 ∧ (∀ b, ¬ E.ln b) ∧ ∀ w', Below E.B E.w0 w' → Φ w'
theorem Env.keeps.at {Φ : World → Prop} (h : E.keeps Φ) (hs : Same E E.w0 w) : Φ w := h.2.2 w ⟨hs.os, hs.tape, hs.output, hs.size, fun b hb => hs.block b ⟨hb, h.2.1 b⟩⟩
theorem VCP.enter {Φ : World → Prop} (hΦ : ∀ w w', Φ w → Below w.heap.size w w' → Φ w') {f : FuncId} {fn : Func} {c : Go.Code} {n : Nat} {ins rs : List (Bool × List T)} {tup : Bool} (hf : P.funcs[f]? = some fn) (hb : fn.body = some c) (hn : fn.ntmps = n) (hl : ins.length ≤ n)
    (h : ∀ E, E.plain 0 → E.keeps Φ → SV E n (VS.init (ins.map fun p => V.flat p.1 (p.2.map argLeaf))) (c.wp P (bodyPost P fn (Gives E tup rs)))) : VCP Φ P f ins tup rs := fun w hT vs hv => by
  refine calls_of_wp hf hb ?_
  obtain ⟨G, hG⟩ := init_rel (E := Env.of w) ⟨rfl, rfl⟩ (n := n) hv (by rw [hv.1]; exact hl)
  have := h (Env.of w) ⟨rfl, rfl⟩ ⟨hT, fun b hb => hb.elim, fun w' hb => hΦ w w' hT hb⟩ _ _ G hG
  rw [hn]
  have e : (Env.of w).w0 = w := rfl
  rw [e] at this
  simpa using this
theorem ok_callP {Φ : World → Prop} {d : Nat} {f : FuncId} {xs : List Operand} {ats : Array TypeId} {qs : List (Bool × List T)} {tup : Bool} {rs : List (Bool × List T)} {ls : List (Bool × List Leaf)} (hD : E.keeps Φ) (hk : ansLs σ.nx rs = ls) (ho : o.op = .call { callee := .value (.func f), args := xs.toArray, argTypes := ats }) (hb : ∃ fn c, P.funcs[f]? = some fn ∧ fn.body = some c ∧ fn.name ≠ "runtime.NumGoroutine")
    (hc : VCP Φ P f qs tup rs) (hx : σ.argss xs qs) (hd : o.dst = some d) (hdN : d < N) : OpMk P E N none σ o ((ansSs σ rs).put d ⟨tup, ls⟩) := ok_callW hk ho hb (fun w hs => hc w (hD.at hs)) hx hd hdN
theorem VCP.law {Φ : World → Prop} {f : FuncId} {ins : List (Bool × List T)} (h : VCP Φ P f ins false [(false, [.lit (.bool true)])]) {w : World} (hT : Φ w) {vs : List Value} (hv : ArgsIn (Env.of w) w ins vs) : Calls P f vs.toArray w fun e w' => e = .returned (.bool true) ∧ Below w.heap.size w w' :=
  (h w hT vs hv).mono fun e w' hg => by
    obtain ⟨he, hs⟩ := Gives.lit hg
    exact ⟨he, ⟨hs.os, hs.tape, hs.output, hs.size, fun b hb => hs.block b ⟨hb, fun h => h.elim⟩⟩⟩
end Go.Proofs.YtpnbnbhifpcelaaDoor.V
/- Sorter: the datum, its shape, the laws' marks over it, its weight; no function of program or reference is walked here. -/
namespace Go.Proofs.YtpnbnbhifpcelaaDoor
open Go.RowKit
set_option linter.unusedVariables false
structure SorterD where
  fInput : List R
  fPos : Int
  fHeap : List R
  fDeferred : List R
  fOutput : List R
  fRuns : List (List R)
  fLeftPos : Int
  fRightPos : Int
  fPhase : Int
  fWritten : Int
deriving DecidableEq
def sorterRep : Rep SorterD := viaRep (fun x => (x.fInput, x.fPos, x.fHeap, x.fDeferred, x.fOutput, x.fRuns, x.fLeftPos, x.fRightPos, x.fPhase, x.fWritten, ())) (seqAnd rowRep (intAnd (seqAnd rowRep (seqAnd rowRep (seqAnd rowRep (seqAnd runRep (intAnd (intAnd (intAnd (intAnd endRep))))))))))
def sorterMk : Mk SorterD := ⟨fun q x => ⟨rowsMk.mark (q) x.fInput, q + (rowsMk.cnt x.fInput : Nat), rowsMk.mark (q + (rowsMk.cnt x.fInput : Nat) + 1) x.fHeap, rowsMk.mark (q + (rowsMk.cnt x.fInput : Nat) + 1 + (rowsMk.cnt x.fHeap : Nat)) x.fDeferred, rowsMk.mark (q + (rowsMk.cnt x.fInput : Nat) + 1 + (rowsMk.cnt x.fHeap : Nat) + (rowsMk.cnt x.fDeferred : Nat)) x.fOutput, runsMk.mark (q + (rowsMk.cnt x.fInput : Nat) + 1 + (rowsMk.cnt x.fHeap : Nat) + (rowsMk.cnt x.fDeferred : Nat) + (rowsMk.cnt x.fOutput : Nat)) x.fRuns, q + (rowsMk.cnt x.fInput : Nat) + 1 + (rowsMk.cnt x.fHeap : Nat) + (rowsMk.cnt x.fDeferred : Nat) + (rowsMk.cnt x.fOutput : Nat) + (runsMk.cnt x.fRuns : Nat), q + (rowsMk.cnt x.fInput : Nat) + 1 + (rowsMk.cnt x.fHeap : Nat) + (rowsMk.cnt x.fDeferred : Nat) + (rowsMk.cnt x.fOutput : Nat) + (runsMk.cnt x.fRuns : Nat) + 1, q + (rowsMk.cnt x.fInput : Nat) + 1 + (rowsMk.cnt x.fHeap : Nat) + (rowsMk.cnt x.fDeferred : Nat) + (rowsMk.cnt x.fOutput : Nat) + (runsMk.cnt x.fRuns : Nat) + 1 + 1, q + (rowsMk.cnt x.fInput : Nat) + 1 + (rowsMk.cnt x.fHeap : Nat) + (rowsMk.cnt x.fDeferred : Nat) + (rowsMk.cnt x.fOutput : Nat) + (runsMk.cnt x.fRuns : Nat) + 1 + 1 + 1⟩, fun x => rowsMk.cnt x.fInput + 1 + rowsMk.cnt x.fHeap + rowsMk.cnt x.fDeferred + rowsMk.cnt x.fOutput + runsMk.cnt x.fRuns + 1 + 1 + 1 + 1, fun q x => by first | rfl | simp [Mk.cnt_mark]⟩
def sortersMk : Mk (List SorterD) := seqMk sorterMk
def sorterMkV : Mk SorterD := ⟨fun q x => ⟨rowsMk.mark (q) x.fInput, x.fPos, rowsMk.mark (q + (rowsMk.cnt x.fInput : Nat)) x.fHeap, rowsMk.mark (q + (rowsMk.cnt x.fInput : Nat) + (rowsMk.cnt x.fHeap : Nat)) x.fDeferred, rowsMk.mark (q + (rowsMk.cnt x.fInput : Nat) + (rowsMk.cnt x.fHeap : Nat) + (rowsMk.cnt x.fDeferred : Nat)) x.fOutput, runsMk.mark (q + (rowsMk.cnt x.fInput : Nat) + (rowsMk.cnt x.fHeap : Nat) + (rowsMk.cnt x.fDeferred : Nat) + (rowsMk.cnt x.fOutput : Nat)) x.fRuns, x.fLeftPos, x.fRightPos, x.fPhase, x.fWritten⟩, fun x => rowsMk.cnt x.fInput + rowsMk.cnt x.fHeap + rowsMk.cnt x.fDeferred + rowsMk.cnt x.fOutput + runsMk.cnt x.fRuns, fun q x => by first | rfl | simp [Mk.cnt_mark]⟩
def wtSorter (x : SorterD) : Nat := wtRows x.fInput + wtRows x.fHeap + wtRows x.fDeferred + wtRows x.fOutput + wtRuns x.fRuns
def wtSorters (X : List SorterD) : Nat := wtAll wtSorter X
end Go.Proofs.YtpnbnbhifpcelaaDoor
/- States told by trees: the trees of the types; no function of program or reference is walked here. -/
namespace Go.Proofs.YtpnbnbhifpcelaaDoor
open Go Go.RowKit V
set_option linter.unusedVariables false
def tRow (x : R) : List T := [.lit (.int .i64 x.key), .lit (.int .i64 x.value), .lit (.int .i64 x.width)]
def uRow (x : R) : List T := [.lit (.int .i64 x.key), .lit (.int .i64 x.value), .lit (.int .i64 x.width)]
def zRow : List T := [.lit (.int .i64 0), .lit (.int .i64 0), .lit (.int .i64 0)]
theorem flat_impl_Row (X : List R) : Flat (X.map tRow) := flat_of (fun _ => rfl) X
def tRun (x : List R) : List T := [.seq 50 (x.map tRow)]
def zRun : List T := [.seq 50 []]
def tSorter (x : SorterD) : List T := [.seq 50 (x.fInput.map tRow), .lit (.int .i64 x.fPos), .seq 50 (x.fHeap.map tRow), .seq 50 (x.fDeferred.map tRow), .seq 50 (x.fOutput.map tRow), .seq 39 (x.fRuns.map tRun), .lit (.int .i64 x.fLeftPos), .lit (.int .i64 x.fRightPos), .lit (.int .i64 x.fPhase), .lit (.int .i64 x.fWritten)]
def zSorter : List T := [.seq 50 [], .lit (.int .i64 0), .seq 50 [], .seq 50 [], .seq 50 [], .seq 39 [], .lit (.int .i64 0), .lit (.int .i64 0), .lit (.int .i64 0), .lit (.int .i64 0)]
end Go.Proofs.YtpnbnbhifpcelaaDoor
/- Runs: their weights; the answer's size: told by trees. -/
namespace Go.Proofs.YtpnbnbhifpcelaaDoor
open Go Go.RowKit V
set_option linter.unusedVariables false
theorem flat_small {X : List (List R)} {n : Nat} (h : ∀ p ∈ X, p.length ≤ n) : X.flatten.length ≤ n * X.length := by
  induction X with
  | nil => simp
  | cons p X ih =>
    have h1 := h p (List.mem_cons_self ..)
    have h2 := ih fun q hq => h q (List.mem_cons_of_mem _ hq)
    rw [List.flatten_cons, List.length_append, List.length_cons, Nat.mul_succ]
    omega
theorem build_small {l : List R} {m : Int} (hW : ∀ r ∈ l, r.wf) : (∀ p ∈ Runs.build l m, ∀ r ∈ p, r.wf) ∧ (∀ p ∈ Runs.build l m, p.length ≤ l.length) ∧ (Runs.build l m).length ≤ l.length ∧ (Runs.build l m).flatten.length ≤ l.length := by
  cases hc : Runs.can l m with
  | false =>
    have hb : Runs.build l m = [] := by unfold Runs.build; rw [if_neg (by rw [hc]; decide)]
    rw [hb]
    exact ⟨fun p hp => (by cases hp), fun p hp => (by cases hp), Nat.zero_le _, Nat.zero_le _⟩
  | true =>
    obtain ⟨hp, hr, -, -⟩ := Runs.build_facts hc
    have hl := hp.length_eq
    refine ⟨fun p h r hr2 => hW r (hp.mem_iff.1 (List.mem_flatten.2 ⟨p, h, hr2⟩)), fun p h => hl ▸ Runs.mem_len h, ?_, Nat.le_of_eq hl⟩
    rw [← hl]
    generalize Runs.build l m = X at hr
    clear hp hl
    induction X with
    | nil => simp
    | cons p X ih =>
      have hp := (hr p (List.mem_cons_self ..)).1
      have := ih fun q hq => hr q (List.mem_cons_of_mem _ hq)
      rw [List.flatten_cons, List.length_append, List.length_cons]
      omega
end Go.Proofs.YtpnbnbhifpcelaaDoor
/- What may be read as a tree lies in memory in a shape: contracts over shapes serve callers that are told by trees. -/
namespace Go.Proofs.YtpnbnbhifpcelaaDoor.V
open Go Go.RowKit
set_option linter.unusedVariables false
def Cel (ok : Nat → Prop) (w : World) (ts : List T) (us : List Value) : Prop := us.length = ts.length ∧ ∀ (j : Nat) (t : T) (u : Value), ts[j]? = some t → us[j]? = some u → Inn ok w t u
theorem Cel.cons {ok : Nat → Prop} {w : World} {t : T} {ts : List T} {us : List Value} (h : Cel ok w (t :: ts) us) : ∃ u us', us = u :: us' ∧ Inn ok w t u ∧ Cel ok w ts us' := by
  obtain ⟨h1, h2⟩ := h
  match us, h1, h2 with
  | u :: us', h1, h2 => exact ⟨u, us', rfl, h2 0 t u rfl rfl, ⟨by simpa using h1, fun j t u hj hu => h2 (j + 1) t u hj hu⟩⟩
theorem Cel.nil {ok : Nat → Prop} {w : World} {us : List Value} (h : Cel ok w [] us) : us = [] := List.eq_nil_of_length_eq_zero h.1
def Fits {α : Type} (r : Rep α) (e : α → List T) (good : α → Prop) : Prop := (∀ x, (e x).length = r.size) ∧ ∀ (ok : Nat → Prop) (w : World) (x : α) (us : List Value), good x → Cel ok w (e x) us → ∃ h, r.cells x h = us ∧ r.inn w x h
theorem inn_seqIn {α : Type} {r : Rep α} {e : α → List T} {g : α → Prop} {ty : TypeId} {ok : Nat → Prop} {w : World} {xs : List α} {v : Value} (hf : Fits r e g) (h : Inn ok w (.seq ty (xs.map e)) v) (hg : ∀ x ∈ xs, g x) :
    ∃ a c, v = .slice a xs.length c ∧ SeqIn r w a xs.length xs ∧ (a = none → c = 0) := by
  obtain ⟨es, he⟩ : ∃ es, es = xs.map e := ⟨_, rfl⟩
  rw [← he] at h
  cases h with
  | @seq ty es a c n hp hz hn hc hm h0 b o us ha hb hcell hr =>
    have hl : es.length = xs.length := by rw [he, List.length_map]
    refine ⟨a, c, by rw [hl], ⟨rfl, by omega, ?_⟩, h0⟩
    by_cases hx : xs = []
    · left; rw [hx]; rfl
    · right
      obtain ⟨x0, xs0, hx0⟩ := List.exists_cons_of_ne_nil hx
      have hne : es ≠ [] := fun h => hx (List.eq_nil_of_length_eq_zero (by rw [← hl, h]; rfl))
      have hpos : 0 < es.length := List.length_pos_iff.2 hne
      have had : a = some ⟨b, o, none⟩ := by
        cases a with
        | none => have := h0 rfl; omega
        | some ad => rw [ha ad rfl hne]
      have hsz : r.size = n := by rw [← hf.1 x0]; exact hn _ (by rw [he, hx0]; exact List.mem_cons_self)
      have key : ∀ t x, xs[t]? = some x → ∃ h, r.cells x h = (List.range n).map (fun j => us (t * n + j)) ∧ r.inn w x h := fun t x hx => by
        refine hf.2 ok w x _ (hg x (List.mem_of_getElem? hx)) ⟨by rw [List.length_map, List.length_range, hf.1 x, hsz], fun j t' u hj hu => ?_⟩
        rw [List.getElem?_map] at hu
        obtain ⟨j', hj', rfl⟩ := Option.map_eq_some_iff.1 hu
        obtain ⟨hj1, hj2⟩ := List.getElem?_eq_some_iff.1 hj'
        rw [List.getElem_range] at hj2
        subst hj2
        exact hr t (e x) j t' (by rw [he, List.getElem?_map, hx]; rfl) hj
      have hall : ∀ t, ∃ h : r.H, ∀ x, xs[t]? = some x → r.cells x h = (List.range n).map (fun j => us (t * n + j)) ∧ r.inn w x h := fun t => by
        cases hxt : xs[t]? with
        | none => obtain ⟨h, -⟩ := key 0 x0 (by rw [hx0]; rfl); exact ⟨h, fun x hx => by cases hx⟩
        | some x => obtain ⟨h, h1⟩ := key t x hxt; exact ⟨h, fun y hy => by cases hy; exact h1⟩
      obtain ⟨hs, hhs⟩ := Classical.axiomOfChoice hall
      refine ⟨b, o, had, (hb hne).2, hs, fun t x hx => ⟨fun j u hj => ?_, (hhs t x hx).2⟩⟩
      rw [(hhs t x hx).1, List.getElem?_map] at hj
      obtain ⟨j', hj', rfl⟩ := Option.map_eq_some_iff.1 hj
      obtain ⟨hj1, hj2⟩ := List.getElem?_eq_some_iff.1 hj'
      rw [List.getElem_range] at hj2
      subst hj2
      rw [List.length_range] at hj1
      have hjl : j < (e x).length := by rw [hf.1 x, hsz]; exact hj1
      rw [hsz, Nat.add_assoc]
      exact hcell t (e x) j (e x)[j] (by rw [he, List.getElem?_map, hx]; rfl) (List.getElem?_eq_getElem hjl)
theorem Fits.fin : Fits endRep (fun _ => []) (fun _ => True) := ⟨fun _ => rfl, fun ok w x us _ h => ⟨(), h.nil.symm, trivial⟩⟩
theorem Fits.int {β : Type} {s : Rep β} {e : β → List T} {g : β → Prop} (h : Fits s e g) : Fits (intAnd s) (fun x => .lit (.int .i64 x.1) :: e x.2) (fun x => I64 x.1 ∧ g x.2) :=
  ⟨fun x => by rw [List.length_cons, h.1]; rfl, fun ok w x us hg hc => by
    obtain ⟨u, us', rfl, h1, h2⟩ := hc.cons
    obtain ⟨k, rfl, h4⟩ := h.2 ok w x.2 us' hg.2 h2
    rw [inn_lit h1]
    exact ⟨k, rfl, hg.1, h4⟩⟩
theorem Fits.bool {β : Type} {s : Rep β} {e : β → List T} {g : β → Prop} (h : Fits s e g) : Fits (boolAnd s) (fun x => .lit (.bool x.1) :: e x.2) (fun x => g x.2) :=
  ⟨fun x => by rw [List.length_cons, h.1]; rfl, fun ok w x us hg hc => by
    obtain ⟨u, us', rfl, h1, h2⟩ := hc.cons
    obtain ⟨k, rfl, h4⟩ := h.2 ok w x.2 us' hg h2
    rw [inn_lit h1]
    exact ⟨k, rfl, h4⟩⟩
theorem Fits.slice {α : Type} {r : Rep α} {e : α → List T} {g : α → Prop} (ty : TypeId) (hf : Fits r e g) : Fits (seqRep r) (fun xs => [.seq ty (xs.map e)]) (fun xs => ∀ x ∈ xs, g x) :=
  ⟨fun _ => rfl, fun ok w x us hg hc => by
    obtain ⟨u, us', rfl, h1, h2⟩ := hc.cons
    obtain ⟨a, c, rfl, h3, h4⟩ := inn_seqIn hf h1 hg
    rw [h2.nil]
    exact ⟨(a, x.length, c), rfl, h3, h4⟩⟩
theorem Fits.seq {α β : Type} {r : Rep α} {e : α → List T} {g : α → Prop} (ty : TypeId) (hf : Fits r e g) {s : Rep β} {f : β → List T} {k : β → Prop} (h : Fits s f k) : Fits (seqAnd r s) (fun x => .seq ty (x.1.map e) :: f x.2) (fun x => (∀ y ∈ x.1, g y) ∧ k x.2) :=
  ⟨fun x => by rw [List.length_cons, h.1]; rfl, fun ok w x us hg hc => by
    obtain ⟨u, us', rfl, h1, h2⟩ := hc.cons
    obtain ⟨a, c, rfl, h3, h4⟩ := inn_seqIn hf h1 hg.1
    obtain ⟨m, rfl, h6⟩ := h.2 ok w x.2 us' hg.2 h2
    exact ⟨((a, x.1.length, c), m), rfl, ⟨h3, h4⟩, h6⟩⟩
theorem Fits.row : Fits rowRep (fun r => [.lit (.int .i64 r.key), .lit (.int .i64 r.value), .lit (.int .i64 r.width)]) R.wf :=
  ⟨fun _ => rfl, fun ok w x us hg hc => by
    obtain ⟨u1, us1, rfl, h1, hc⟩ := hc.cons
    obtain ⟨u2, us2, rfl, h2, hc⟩ := hc.cons
    obtain ⟨u3, us3, rfl, h3, hc⟩ := hc.cons
    rw [inn_lit h1, inn_lit h2, inn_lit h3, hc.nil]
    exact ⟨(), rfl, hg⟩⟩
/-! ### Arguments, one behind the other -/
theorem ArgsIn.cut {E : Env} {w : World} {ag : Bool} {ts : List T} {ins : List (Bool × List T)} {vs : List Value} (h : ArgsIn E w ((ag, ts) :: ins) vs) : ∃ us vs', vs = cval ag us :: vs' ∧ Cel E.old w ts us ∧ ArgsIn E w ins vs' := by
  obtain ⟨h1, h2⟩ := h
  match vs, h1, h2 with
  | v :: vs', h1, h2 =>
    obtain ⟨us, rfl, h3, h4⟩ := h2 0 ag ts v rfl rfl
    exact ⟨us, vs', rfl, ⟨h3, h4⟩, ⟨by simpa using h1, fun c ag ts v hc hv => h2 (c + 1) ag ts v hc hv⟩⟩
theorem ArgsIn.none {E : Env} {w : World} {vs : List Value} (h : ArgsIn E w [] vs) : vs = [] := List.eq_nil_of_length_eq_zero h.1
theorem ArgsIn.shape {α : Type} {r : Rep α} {e : α → List T} {g : α → Prop} (hf : Fits r e g) {E : Env} {w : World} {ag : Bool} {x : α} (hg : g x) {ins : List (Bool × List T)} {vs : List Value} (h : ArgsIn E w ((ag, e x) :: ins) vs) : ∃ k vs', vs = cval ag (r.cells x k) :: vs' ∧ r.inn w x k ∧ ArgsIn E w ins vs' := by
  obtain ⟨us, vs', rfl, h1, h2⟩ := h.cut
  obtain ⟨k, rfl, h4⟩ := hf.2 _ w x us hg h1
  exact ⟨k, vs', rfl, h4, h2⟩
theorem ArgsIn.lit {E : Env} {w : World} {u : Value} {ins : List (Bool × List T)} {vs : List Value} (h : ArgsIn E w ((false, [.lit u]) :: ins) vs) : ∃ vs', vs = u :: vs' ∧ ArgsIn E w ins vs' := by
  obtain ⟨us, vs', rfl, h1, h2⟩ := h.cut
  obtain ⟨v, us', rfl, h3, h4⟩ := h1.cons
  rw [inn_lit h3]
  exact ⟨vs', rfl, h2⟩
theorem Gives.plain {w w' : World} {e : Ending} {ag : Bool} {rs : List Value} (h1 : ∀ u ∈ rs, u.oneCell' = true) (h : e = .returned (cval ag rs) ∧ Below w.heap.size w w') : Gives (Env.of w) false [(ag, rs.map T.lit)] e w' := by
  refine ⟨[rs], fun _ _ _ => False, rfl, by rw [h.1]; rfl, fun c ag' ts us hc hu => ?_, fun c j c' j' b hb => hb.elim, fun c j b hb => hb.elim, .of_below h.2⟩
  cases c with
  | zero =>
    cases hc; cases hu
    refine ⟨by simp, fun j t u hj hu => ?_⟩
    rw [List.getElem?_map, hu] at hj
    cases hj
    exact .lit (h1 u (get_mem hu))
  | succ c => simp at hc
end Go.Proofs.YtpnbnbhifpcelaaDoor.V
/- States told by trees: comparisons with nil, calls that write into what they are lent and answer nothing. -/
namespace Go.Proofs.YtpnbnbhifpcelaaDoor.V
open Go Go.RowKit
set_option linter.unusedVariables false
variable {P : Program} {E : Env} {N nb : Nat} {σ σ' τ : VS} {o : Oper} {a : Act} {w : World} {G : Ghost} {Q : Exit → Act → World → Prop} {K : Act → World → Prop}
def VU (P : Program) (f : FuncId) (ins : List (Bool × List AC)) (ls ls' : List T) : Prop :=
  ∀ (w : World) (lv : Nat → Value) (F : Nat → Nat → Prop) (hF : ∀ i b, i < ls.length → F i b → b < w.heap.size) (vs : List Value), (∀ i t, ls[i]? = some t → Own w 0 t (lv i) (F i) ∧ ∃ ty es, t = .seq ty es) → (∀ i j b, i < ls.length → j < ls.length → i ≠ j → F i b → ¬ F j b) → ArgsM (Env.lend w lv F ls.length hF) ins vs →
    Calls P f vs.toArray w fun e w' => (∃ v, e = .returned v ∧ Same (Env.lend w lv F ls.length hF) (Env.lend w lv F ls.length hF).w0 w') ∧ Lents (Env.lend w lv F ls.length hF) ls' w'
theorem flat_sub {fs : List (List T)} (h : Flat fs) (l n : Nat) : Flat ((fs.take n).drop l) := fun k e j t h1 h2 => by
  rw [List.getElem?_drop, List.getElem?_take] at h1
  split at h1
  · exact h _ e j t h1 h2
  · cases h1
end Go.Proofs.YtpnbnbhifpcelaaDoor.V
/- The reference's IsValidRow and RowCost, by contract. -/
namespace Go.Proofs.YtpnbnbhifpcelaaDoor
open Go.RowKit
theorem sin (n a b : Int) (w : World) : Calls Tryd.prog 32 #[.int .i64 n, .int .i64 a, .int .i64 b] w fun e w' => e = .returned (.bool (decide (a ≤ n ∧ n ≤ b))) ∧ w = w' := by
  go_enter Tryd.func32, Tryd.ntmps32
  go_wp2
  all_goals go_ret
  all_goals simp_all
  all_goals omega
theorem svalid (r : R) (w : World) : Calls Tryd.prog 52 #[r.val] w fun e w' => e = .returned (.bool r.ok) ∧ Below w.heap.size w w' := by
  obtain ⟨k, v, d⟩ := r
  unfold R.val
  go_enter Tryd.func52, Tryd.ntmps52
  go_wp2_with fail
  refine (sin _ _ _ _).mono ?_
  rintro e w1 ⟨rfl, rfl⟩
  go_wp2_with fail
  case isTrue =>
    refine (sin _ _ _ _).mono ?_
    rintro e w1 ⟨rfl, rfl⟩
    go_wp2_with fail
    case isTrue =>
      refine (sin _ _ _ _).mono ?_
      rintro e w1 ⟨rfl, rfl⟩
      go_wp2_with fail
      all_goals go_ret
      all_goals refine ⟨?_, (Below.refl _ _).alloc (Nat.le_refl _) _⟩
      all_goals simp_all [R.ok]
    all_goals go_ret
    all_goals refine ⟨?_, (Below.refl _ _).alloc (Nat.le_refl _) _⟩
    all_goals simp_all [R.ok]
    all_goals omega
  all_goals go_ret
  all_goals refine ⟨?_, (Below.refl _ _).alloc (Nat.le_refl _) _⟩
  all_goals simp_all [R.ok]
  all_goals omega
theorem scost (r : R) (hr : r.wf) (w : World) : Calls Tryd.prog 33 #[r.val] w fun e w' => e = .returned (.int .i64 r.cost) ∧ Below w.heap.size w w' := by
  have hw := hr.2.2
  have H := Lib.hid (svalid r)
  cases hok : r.ok with
  | true =>
    have hc : r.cost = 1 + r.width := by unfold R.cost; rw [hok]; rfl
    have hk := R.ok_iff.1 hok
    rw [hc]
    unfold R.val
    go_enter Tryd.func33, Tryd.ntmps33
    go_wp2_with fail
    refine (H.out _).mono ?_
    rintro e w1 ⟨rfl, b1⟩
    obtain ⟨⟨c0, c1, c2⟩, b2⟩ := box_row (r := r) b1
    rw [hok]
    simp only [Nat.zero_add] at c2
    go_wp2_with fail
    go_ret
    exact ⟨rfl, b2⟩
  | false =>
    have hc : r.cost = 0 := by unfold R.cost; rw [hok]; rfl
    rw [hc]
    unfold R.val
    go_enter Tryd.func33, Tryd.ntmps33
    go_wp2_with fail
    refine (H.out _).mono ?_
    rintro e w1 ⟨rfl, b1⟩
    obtain ⟨⟨c0, c1, c2⟩, b2⟩ := box_row (r := r) b1
    rw [hok]
    go_wp2_with fail
    go_ret
    exact ⟨rfl, b2⟩
end Go.Proofs.YtpnbnbhifpcelaaDoor
/- The reference's AreValidRows and TotalCost, by contract. -/
namespace Go.Proofs.YtpnbnbhifpcelaaDoor
open Go.RowKit
set_option maxRecDepth 100000 in
theorem sare (a : Option Addr) (len cap : Nat) (L : List R) (w : World) (h : IsRows w a len L) (hlen : len ≤ 9223372036854775807) :
    Calls Tryd.prog 31 #[.slice a len cap] w fun e w' => e = .returned (.bool (okRows L)) ∧ Below w.heap.size w w' := by
  obtain ⟨hl, hwf, hc⟩ := h
  have HL := Lib.hid hl
  have HC := Lib.hid hc
  clear hl hwf hc
  go_enter Tryd.func31, Tryd.ntmps31
  go_wp2_with fail
  go_loopw [3] (fun i wr => ∃ k : Nat, i = .int .i64 k ∧ k ≤ len ∧ Hid (allOk (L.take k) = true) ∧ Hid (Below w.heap.size w wr)) (fun i _ => len - (intOf i).toNat)
  case atStart => exact ⟨0, rfl, Nat.zero_le _, rfl, Below.refl _ _⟩
  case round =>
    obtain ⟨k, rfl, hk, hok, hb⟩ := hrel
    by_cases hlt : k < len
    · obtain ⟨b, o, rfl, hbl, hc⟩ : ∃ b o : Nat, a = some ⟨b, o, none⟩ ∧ b < w.heap.size ∧ ∀ t, t < len → RowAt w b (o + t * 3) (L.getD t R.zero) := by
        rcases HC.out with h0 | h0
        · omega
        · exact h0
      obtain ⟨r, hr⟩ : ∃ r, r = L.getD k R.zero := ⟨_, rfl⟩
      have hat : RowAt wr b (o + k * 3) r := by rw [hr]; exact (hc k hlt).below hb.out hbl
      obtain ⟨c0, c1, c2⟩ := hat
      have HR := Lib.hid hr
      clear hr hc
      go_wp2_with fail
      refine (svalid r _).mono ?_
      rintro e w1 ⟨rfl, b1⟩
      have B1 := Lib.hid (hb.out.trans (b1.mono hb.out.size))
      clear b1
      cases hv : r.ok with
      | true =>
        go_wp2_with fail
        go_roundw
        case rel => exact ⟨k + 1, by go_num, by omega, by show _ = _; rw [allOk_take L k (by rw [HL.out]; exact hlt), hok.out, ← HR.out, hv]; rfl, B1⟩
        case measure => simp [intOf]; omega
      | false =>
        have hno : okRows L = false := by unfold okRows; rw [allOk_bad L k (by rw [HL.out]; exact hlt) (by rw [← HR.out]; exact hv), Bool.and_false]
        go_wp2_with fail
        go_ret
        exact ⟨by rw [hno]; rfl, B1.out⟩
    · have hkl : k = len := by omega
      have hall : okRows L = decide ((len : Int) ≤ 24) := by
        have : allOk L = true := by have := hok.out; rwa [hkl, ← HL.out, List.take_length] at this
        unfold okRows; rw [this, Bool.and_true, HL.out]
        simp; omega
      clear hkl
      have HA := Lib.hid hall
      clear hall
      go_wp2_with fail
      go_ret
      exact ⟨by rw [HA.out]; rfl, hb.out⟩
set_option maxRecDepth 100000 in
theorem stotal (a : Option Addr) (len cap : Nat) (L : List R) (w : World) (h : IsRows w a len L) (hlen : len ≤ 1000000000000) :
    Calls Tryd.prog 20 #[.slice a len cap] w fun e w' => e = .returned (.int .i64 (total L)) ∧ Below w.heap.size w w' := by
  have HW := Lib.hid h.wf
  obtain ⟨hl, -, hc⟩ := h
  have HL := Lib.hid hl
  have HC := Lib.hid hc
  clear hl hc
  go_enter Tryd.func20, Tryd.ntmps20
  go_wp2_with fail
  go_loopw [3, 4] (fun n i wr => ∃ (k : Nat) (v : Int), n = .int .i64 v ∧ i = .int .i64 k ∧ k ≤ len ∧ 0 ≤ v ∧ v ≤ 4 * k ∧ Hid (total (L.take k) = v) ∧ Hid (Below w.heap.size w wr)) (fun _ i _ => len - (intOf i).toNat)
  case atStart => exact ⟨0, 0, rfl, rfl, Nat.zero_le _, by omega, by omega, rfl, Below.refl _ _⟩
  case round =>
    obtain ⟨k, v, rfl, rfl, hk, hv0, hv1, hsum, hb⟩ := hrel
    by_cases hlt : k < len
    · obtain ⟨b, o, rfl, hbl, hc⟩ : ∃ b o : Nat, a = some ⟨b, o, none⟩ ∧ b < w.heap.size ∧ ∀ t, t < len → RowAt w b (o + t * 3) (L.getD t R.zero) := by
        rcases HC.out with h0 | h0
        · omega
        · exact h0
      obtain ⟨r, hr⟩ : ∃ r, r = L.getD k R.zero := ⟨_, rfl⟩
      have hat : RowAt wr b (o + k * 3) r := by rw [hr]; exact (hc k hlt).below hb.out hbl
      have hrw : r.wf := by rw [hr]; exact HW.out k hlt
      obtain ⟨c0, c1, c2⟩ := hat
      have HR := Lib.hid hr
      have HRW := Lib.hid hrw
      clear hr hc hrw
      go_wp2_with fail
      refine (scost r HRW.out _).mono ?_
      rintro e w1 ⟨rfl, b1⟩
      have B1 := Lib.hid (hb.out.trans (b1.mono hb.out.size))
      clear b1
      obtain ⟨x, hx⟩ : ∃ x, x = r.cost := ⟨_, rfl⟩
      have hx0 : 0 ≤ x ∧ x ≤ 4 := by rw [hx]; exact r.cost_range
      obtain ⟨hx0, hx4⟩ := hx0
      have HX := Lib.hid hx
      rw [← hx]
      clear hx
      go_wp2_with fail
      go_roundw
      case rel => exact ⟨k + 1, v + x, by go_num, by go_num, by omega, by omega, by omega, by show _ = _; rw [total_take L k (by rw [HL.out]; exact hlt), hsum.out, ← HR.out, HX.out], B1⟩
      case measure => simp [intOf]; omega
    · have hkl : k = len := by omega
      have hall : total L = v := by have := hsum.out; rwa [hkl, ← HL.out, List.take_length] at this
      clear hkl
      have HA := Lib.hid hall
      clear hall
      go_wp2_with fail
      go_ret
      exact ⟨by rw [HA.out]; rfl, hb.out⟩
end Go.Proofs.YtpnbnbhifpcelaaDoor
/- The laws' comparison of two slices of rows by '!=' on the structs (sameRows), by contract: where both read as the same rows. -/
namespace Go.Proofs.YtpnbnbhifpcelaaDoor
open Go.RowKit
theorem row_neq (a b : R) (w : World) : (binOp .neq 50 (.agg #[.int .i64 a.key, .int .i64 a.value, .int .i64 a.width]) (.agg #[.int .i64 b.key, .int .i64 b.value, .int .i64 b.width])).run Tryd.prog w = .ok (.bool (!decide (a = b))) w := by
  have h1 : (Op.equalIn 10000 50 (.agg #[.int .i64 a.key, .int .i64 a.value, .int .i64 a.width]) (.agg #[.int .i64 b.key, .int .i64 b.value, .int .i64 b.width])).run Tryd.prog w = .ok (decide (a = b)) w := by
    rw [run_equalIn_agg w 9999 50 _ _ (by kernel_rfl) (by kernel_rfl)]
    obtain ⟨k, v, d⟩ := a
    obtain ⟨k', v', d'⟩ := b
    have e : decide (R.mk k v d = R.mk k' v' d') = decide (k = k' ∧ v = v' ∧ d = d') := by simp
    rw [e]
    by_cases hk : k = k' <;> by_cases hv : v = v' <;> by_cases hd : d = d' <;> simp [go_sem, Tryd.underlying50, Tryd.underlying3, hk, hv, hd]
  rw [run_neq_struct, h1]
  rfl
set_option maxRecDepth 100000 in
theorem samerows (a a' : Option Addr) (len cap len' cap' : Nat) (L : List R) (w : World) (h : IsRows w a len L) (h' : IsRows w a' len' L) (hlen : len ≤ 9223372036854775807) :
    Calls Tryd.prog 17 #[.slice a len cap, .slice a' len' cap'] w fun e w' => e = .returned (.bool true) ∧ Below w.heap.size w w' := by
  obtain ⟨hl, -, hc⟩ := h
  obtain ⟨hl', -, hc'⟩ := h'
  obtain rfl : len = len' := hl.symm.trans hl'
  have HC := Lib.hid hc
  have HC' := Lib.hid hc'
  clear hl hc hl' hc'
  go_enter Tryd.func17, Tryd.ntmps17
  go_wp2_with fail
  go_loopw [5] (fun i wr => ∃ k : Nat, i = .int .i64 k ∧ k ≤ len ∧ Hid (Below w.heap.size w wr)) (fun i _ => len - (intOf i).toNat)
  case atStart => exact ⟨0, rfl, Nat.zero_le _, Below.refl _ _⟩
  case round =>
    obtain ⟨k, rfl, hk, hb⟩ := hrel
    by_cases hlt : k < len
    · obtain ⟨b, o, rfl, hbl, hc⟩ : ∃ b o : Nat, a = some ⟨b, o, none⟩ ∧ b < w.heap.size ∧ ∀ t, t < len → RowAt w b (o + t * 3) (L.getD t R.zero) := by
        rcases HC.out with h0 | h0
        · omega
        · exact h0
      obtain ⟨b', o', rfl, hbl', hc'⟩ : ∃ b o : Nat, a' = some ⟨b, o, none⟩ ∧ b < w.heap.size ∧ ∀ t, t < len → RowAt w b (o + t * 3) (L.getD t R.zero) := by
        rcases HC'.out with h0 | h0
        · omega
        · exact h0
      obtain ⟨r, hr⟩ : ∃ r, r = L.getD k R.zero := ⟨_, rfl⟩
      have hat : RowAt wr b (o + k * 3) r := by rw [hr]; exact (hc k hlt).below hb.out hbl
      have hat' : RowAt wr b' (o' + k * 3) r := by rw [hr]; exact (hc' k hlt).below hb.out hbl'
      obtain ⟨c0, c1, c2⟩ := hat
      obtain ⟨d0, d1, d2⟩ := hat'
      clear hr hc hc'
      go_wp2_with fail
      go_still_tail 8, (by kernel_rfl)
      go_wp2_with fail
      go_roundw
      case rel => exact ⟨k + 1, by go_num, by omega, hb.out.drew⟩
      case measure => simp [intOf]; omega
    · go_wp2_with fail
      go_ret
      exact ⟨rfl, hb.out⟩
end Go.Proofs.YtpnbnbhifpcelaaDoor
/- CountRow of the program and of the reference, by contract. -/
namespace Go.Proofs.YtpnbnbhifpcelaaDoor
open Go.RowKit
end Go.Proofs.YtpnbnbhifpcelaaDoor
/- The reference's CompareRows, by contract. -/
namespace Go.Proofs.YtpnbnbhifpcelaaDoor
open Go.RowKit
theorem IsRows.at2 {w : World} {a : Option Addr} {len : Nat} {L : List R} (h : IsRows w a len L) {t u : Nat} (ht : t < len) (hu : u < len) : ∃ b o : Nat, a = some ⟨b, o, none⟩ ∧ b < w.heap.size ∧ RowAt w b (o + t * 3) (L.getD t R.zero) ∧ RowAt w b (o + u * 3) (L.getD u R.zero) := by
  obtain ⟨-, -, h0 | ⟨b, o, e, hb, hc⟩⟩ := h
  · omega
  · exact ⟨b, o, e, hb, hc t ht, hc u hu⟩
theorem box4 (w : World) (a b : R) (s t : TypeId) : ∃ W, W = (((w.alloc (.cells #[.int .i64 a.key, .int .i64 a.value, .int .i64 a.width] s)).alloc (.cells #[.int .i64 b.key, .int .i64 b.value, .int .i64 b.width] s)).alloc
      (.cells #[.int .i64 a.key, .int .i64 a.value, .int .i64 a.width] t)).alloc (.cells #[.int .i64 b.key, .int .i64 b.value, .int .i64 b.width] t) ∧
    (∀ k, k < 3 → W.cell? ⟨w.heap.size + 1 + 1, k, none⟩ = some (.int .i64 (a.fld k))) ∧ (∀ k, k < 3 → W.cell? ⟨w.heap.size + 1 + 1 + 1, k, none⟩ = some (.int .i64 (b.fld k))) ∧ Below w.heap.size w W := by
  have hb : Below w.heap.size w ((w.alloc (.cells #[.int .i64 a.key, .int .i64 a.value, .int .i64 a.width] s)).alloc (.cells #[.int .i64 b.key, .int .i64 b.value, .int .i64 b.width] s)) := Joins.below_alloc2 _ _ _
  have hz : ((w.alloc (.cells #[.int .i64 a.key, .int .i64 a.value, .int .i64 a.width] s)).alloc (.cells #[.int .i64 b.key, .int .i64 b.value, .int .i64 b.width] s)).heap.size = w.heap.size + 1 + 1 := by simp
  generalize (w.alloc (.cells #[.int .i64 a.key, .int .i64 a.value, .int .i64 a.width] s)).alloc (.cells #[.int .i64 b.key, .int .i64 b.value, .int .i64 b.width] s) = V at hb hz ⊢
  rw [← hz]
  refine ⟨_, rfl, fun k hk => ?_, fun k hk => ?_, (hb.alloc hb.size _).alloc (by have := hb.size; simp; omega) _⟩
  · match k, hk with
    | 0, _ => simp [R.fld]
    | 1, _ => simp [R.fld]
    | 2, _ => simp [R.fld]
  · match k, hk with
    | 0, _ => simp [R.fld]
    | 1, _ => simp [R.fld]
    | 2, _ => simp [R.fld]
set_option maxRecDepth 100000 in
theorem scmp (a b : R) (w : World) : Calls Tryd.prog 34 #[a.val, b.val] w fun e w' => e = .returned (.int .i64 (R.cmp a b)) ∧ Below w.heap.size w w' := by
  unfold R.val
  obtain ⟨W, hW, hx, hy, b2⟩ := box4 w a b 50 3
  have HX := Lib.hid hx
  have HY := Lib.hid hy
  have B2 := Lib.hid b2
  have HW := Lib.hid hW
  clear b2 hx hy hW
  go_enter Tryd.func34, Tryd.ntmps34
  go_wp2_with fail
  rw [← HW.out]
  clear HW
  go_loopw [7] (fun i wr => ∃ k : Nat, i = .int .i64 k ∧ k ≤ 3 ∧ Hid (∀ t, t < k → a.fld t = b.fld t) ∧ Hid (∀ k, k < 3 → wr.cell? ⟨w.heap.size + 1 + 1, k, none⟩ = some (.int .i64 (a.fld k))) ∧ Hid (∀ k, k < 3 → wr.cell? ⟨w.heap.size + 1 + 1 + 1, k, none⟩ = some (.int .i64 (b.fld k))) ∧ Hid (Below w.heap.size w wr)) (fun i _ => 3 - (intOf i).toNat)
  case atStart => exact ⟨0, rfl, Nat.zero_le _, fun t ht => absurd ht (Nat.not_lt_zero _), HX, HY, B2⟩
  case round =>
    obtain ⟨k, rfl, hk, he, hx, hy, hb⟩ := hrel
    by_cases hlt : k < 3
    · have c := hx.out k hlt
      have d := hy.out k hlt
      obtain ⟨x, hxx⟩ : ∃ x, x = a.fld k := ⟨_, rfl⟩
      obtain ⟨y, hyy⟩ : ∃ y, y = b.fld k := ⟨_, rfl⟩
      rw [← hxx] at c
      rw [← hyy] at d
      have XX := Lib.hid hxx
      have YY := Lib.hid hyy
      clear hxx hyy
      have hki : (k : Int) < 3 := by omega
      by_cases h1 : x < y
      · have hans : R.cmp a b = -1 := R.cmp_less a b k hlt he.out (by rw [← XX.out, ← YY.out]; exact h1)
        have HA := Lib.hid hans
        clear hans
        go_wp2_with fail
        go_quiet (fail)
        go_wp2_with fail
        go_ret
        exact ⟨by rw [HA.out]; rfl, by first | exact hb.out.trans (Joins.below_draws _ _ _) | exact (hb.out.trans (Joins.below_draws _ _ _)).trans (Joins.below_draws _ _ _)⟩
      · by_cases h2 : y < x
        · have hans : R.cmp a b = 1 := R.cmp_more a b k hlt he.out (by rw [← XX.out, ← YY.out]; exact h2)
          have HA := Lib.hid hans
          clear hans
          go_wp2_with fail
          go_quiet (fail)
          go_wp2_with fail
          go_quiet (fail)
          go_wp2_with fail
          go_ret
          exact ⟨by rw [HA.out]; rfl, by first | exact hb.out.trans (Joins.below_draws _ _ _) | exact (hb.out.trans (Joins.below_draws _ _ _)).trans (Joins.below_draws _ _ _)⟩
        · have hxy : x = y := by omega
          have HXY := Lib.hid hxy
          clear hxy
          go_wp2_with fail
          go_quiet (fail)
          go_wp2_with fail
          go_quiet (fail)
          go_wp2_with fail
          go_roundw
          case rel =>
            refine ⟨k + 1, by go_num, by omega, fun t ht => ?_, fun t ht => hx.out t ht, fun t ht => hy.out t ht, by first | exact hb.out.trans (Joins.below_draws _ _ _) | exact (hb.out.trans (Joins.below_draws _ _ _)).trans (Joins.below_draws _ _ _)⟩
            rcases Nat.lt_or_ge t k with h | h
            · exact he.out t h
            · obtain rfl : t = k := by omega
              rw [← XX.out, ← YY.out]; exact HXY.out
          case measure => simp [intOf]; omega
    · have hkl : k = 3 := by omega
      have hans : R.cmp a b = 0 := R.cmp_same a b (by rw [← hkl]; exact he.out)
      have HA := Lib.hid hans
      clear hans hkl
      go_wp2_with fail
      go_ret
      exact ⟨by rw [HA.out]; rfl, hb.out⟩
end Go.Proofs.YtpnbnbhifpcelaaDoor
/- The program's CompareRows and the library's cmp.Compare and cmp.Or at int, by contract. -/
namespace Go.Proofs.YtpnbnbhifpcelaaDoor
open Go.RowKit
theorem compare (x y : Int) (w : World) : Calls Tryd.prog 61 #[.int .i64 x, .int .i64 y] w fun e w' => e = .returned (.int .i64 (R.one x y)) ∧ w' = w := by
  unfold R.one
  go_enter Tryd.func61, Tryd.ntmps61
  go_wp2
  all_goals go_ret
  all_goals simp_all
def firstOf : List Int → Int
  | [] => 0
  | x :: l => if x = 0 then firstOf l else x
theorem firstOf_at : ∀ (L : List Int) (k : Nat), k < L.length → (∀ t, t < k → L.getD t 0 = 0) → L.getD k 0 ≠ 0 → firstOf L = L.getD k 0
  | x :: L, 0, _, _, h => by unfold firstOf; exact if_neg h
  | x :: L, k + 1, hk, hz, h => by
    have hx : x = 0 := hz 0 (by omega)
    unfold firstOf
    rw [if_pos hx]
    exact firstOf_at L k (by simpa using hk) (fun t ht => hz (t + 1) (by omega)) h
theorem firstOf_none : ∀ (L : List Int), (∀ t, t < L.length → L.getD t 0 = 0) → firstOf L = 0
  | [], _ => rfl
  | x :: L, h => by
    have hx : x = 0 := h 0 (by simp)
    unfold firstOf
    rw [if_pos hx]
    exact firstOf_none L fun t ht => h (t + 1) (by simpa using ht)
theorem cmpor (g len cap : Nat) (L : List Int) (w : World) (hl : L.length = len) (hlen : len ≤ 1000000000000) (hc : ∀ t, t < len → w.cell? ⟨g, t, none⟩ = some (.int .i64 (L.getD t 0))) :
    Calls Tryd.prog 60 #[.slice (some ⟨g, 0, none⟩) len cap] w fun e w' => e = .returned (.int .i64 (firstOf L)) ∧ w' = w := by
  have HL := Lib.hid hl
  have HC := Lib.hid hc
  clear hl hc
  go_enter Tryd.func60, Tryd.ntmps60
  go_wp2
  go_loop [8] (fun i => ∃ k : Nat, i = .int .i64 k ∧ k ≤ len ∧ Hid (∀ t, t < k → L.getD t 0 = 0)) (fun i => len - (intOf i).toNat)
  case atStart => exact ⟨0, rfl, Nat.zero_le _, fun t ht => absurd ht (Nat.not_lt_zero _)⟩
  case round =>
    obtain ⟨k, rfl, hk, hz⟩ := hrel
    by_cases hlt : k < len
    · have hck := HC.out k hlt
      obtain ⟨x, hx⟩ : ∃ x, x = L.getD k 0 := ⟨_, rfl⟩
      rw [← hx] at hck
      have HX := Lib.hid hx
      clear hx
      by_cases h0 : x = 0
      · subst h0
        go_wp2
        go_round
        case rel =>
          refine ⟨k + 1, by go_num, by omega, fun t ht => ?_⟩
          rcases Nat.lt_or_ge t k with h | h
          · exact hz.out t h
          · obtain rfl : t = k := by omega
            exact HX.out.symm
        case measure => simp [intOf]; omega
      · have ha : firstOf L = x := by rw [HX.out]; exact firstOf_at L k (by rw [HL.out]; exact hlt) hz.out (by rw [← HX.out]; exact h0)
        have HA := Lib.hid ha
        clear ha
        go_wp2
        go_ret
        exact ⟨by rw [HA.out]; rfl, rfl⟩
    · have hkl : k = len := by omega
      have ha : firstOf L = 0 := firstOf_none L (by rw [HL.out, ← hkl]; exact hz.out)
      have HA := Lib.hid ha
      clear ha hkl
      go_wp2
      go_ret
      exact ⟨by rw [HA.out]; rfl, rfl⟩
theorem cmp_first (a b : R) : R.cmp a b = firstOf [R.one a.key b.key, R.one a.value b.value, R.one a.width b.width] := by
  rw [R.cmp_or]
  simp only [firstOf]
  (repeat' split) <;> first | rfl | simp_all | omega
set_option maxRecDepth 100000 in
theorem icmp (a b : R) (w : World) : Calls Tryd.prog 42 #[a.val, b.val] w fun e w' => e = .returned (.int .i64 (R.cmp a b)) ∧ Below w.heap.size w w' := by
  have HA := Lib.hid (cmp_first a b)
  unfold R.val
  obtain ⟨x, hx⟩ : ∃ x, x = R.one a.key b.key := ⟨_, rfl⟩
  obtain ⟨y, hy⟩ : ∃ y, y = R.one a.value b.value := ⟨_, rfl⟩
  obtain ⟨z, hz⟩ : ∃ z, z = R.one a.width b.width := ⟨_, rfl⟩
  have C1 := Lib.hid (compare a.key b.key)
  have C2 := Lib.hid (compare a.value b.value)
  have C3 := Lib.hid (compare a.width b.width)
  rw [← hx] at C1 HA
  rw [← hy] at C2 HA
  rw [← hz] at C3 HA
  clear hx hy hz
  obtain ⟨W, hW, ⟨c0, c1, c2⟩, ⟨d0, d1, d2⟩, b2, hsz⟩ := box2 w a b 50 50
  simp only [Nat.zero_add] at c1 c2 d1 d2
  have B2 := Lib.hid b2
  clear b2
  go_enter Tryd.func42, Tryd.ntmps42
  go_wp2_with fail
  rw [← hW]
  clear hW
  refine wp_region_still_tail 15 (by kernel_rfl) (by kernel_rfl) ?_
  simp only [List.take_succ_cons, List.take_zero, List.drop_succ_cons, List.drop_zero]
  repeat still_step
  still_call (C1.out _)
  repeat still_step
  still_call (C2.out _)
  repeat still_step
  still_call (C3.out _)
  repeat still_step
  refine wpStill_nil ?_
  go_wp2_with fail
  refine (cmpor _ 3 3 [x, y, z] _ rfl (by omega) ?cells).mono ?_
  case cells =>
    intro t ht
    match t, ht with
    | 0, _ => simp
    | 1, _ => simp
    | 2, _ => simp
  rintro e w1 ⟨rfl, rfl⟩
  go_wp2_with fail
  go_ret
  exact ⟨by rw [HA.out]; rfl, (B2.out.alloc (by omega) _).drew⟩
end Go.Proofs.YtpnbnbhifpcelaaDoor
/- IsSorted of the program, the library's IsSortedFunc behind it, and the reference's IsSorted, by contract. -/
namespace Go.Proofs.YtpnbnbhifpcelaaDoor
open Go.RowKit
set_option maxRecDepth 100000 in
theorem sasc (a : Option Addr) (len cap : Nat) (L : List R) (w : World) (h : IsRows w a len L) (hlen : len ≤ 1000000000000) :
    Calls Tryd.prog 38 #[.slice a len cap] w fun e w' => e = .returned (.bool (R.asc L)) ∧ Below w.heap.size w w' := by
  have HL := Lib.hid h.1
  have HI := Lib.hid h
  clear h
  go_enter Tryd.func38, Tryd.ntmps38
  go_wp2_with fail
  go_loopw [3] (fun i wr => ∃ k : Nat, i = .int .i64 ((k : Int) + 1) ∧ (k = 0 ∨ k < len) ∧ Hid (∀ t, t < k → R.cmp (L.getD t R.zero) (L.getD (t + 1) R.zero) ≤ 0) ∧ Hid (Below w.heap.size w wr)) (fun i _ => len + 1 - (intOf i).toNat)
  case atStart => exact ⟨0, rfl, .inl rfl, fun t ht => absurd ht (Nat.not_lt_zero _), Below.refl _ _⟩
  case round =>
    obtain ⟨k, rfl, hk, hasc, hb⟩ := hrel
    have hk' : k ≤ 1000000000000 := by omega
    by_cases hlt : k + 1 < len
    · obtain ⟨b, o, rfl, hbl, hat, hat'⟩ := (HI.out.keep hb.out).at2 (t := k) (u := k + 1) (by omega) hlt
      obtain ⟨p, hp⟩ : ∃ p, p = L.getD k R.zero := ⟨_, rfl⟩
      obtain ⟨q, hq⟩ : ∃ q, q = L.getD (k + 1) R.zero := ⟨_, rfl⟩
      rw [← hp] at hat
      rw [← hq] at hat'
      obtain ⟨c0, c1, c2⟩ := hat
      obtain ⟨d0, d1, d2⟩ := hat'
      have HP := Lib.hid hp
      have HQ := Lib.hid hq
      clear hp hq
      have hwr : IntKind.i64.wrap (k : Int) = k := by simp [IntKind.wrap, IntKind.bits, IntKind.signed]; omega
      have hkl : (k : Int) < len := by omega
      have hkl2 : (k : Int) + 1 < len := by omega
      have hkn : ((k : Int) + 1).toNat = k + 1 := by omega
      have hkp : 0 ≤ (k : Int) + 1 := by omega
      go_wp2_with fail
      go_still_tail 9, (by kernel_rfl)
      go_wp2_with fail
      refine (scmp p q _).mono ?_
      rintro e w1 ⟨rfl, b1⟩
      obtain ⟨x, hx⟩ : ∃ x, x = R.cmp p q := ⟨_, rfl⟩
      rw [← hx]
      have B1 := Lib.hid ((hb.out.drew).trans (b1.mono hb.out.size))
      have HX := Lib.hid hx
      clear hx b1
      by_cases hgt : 0 < x
      · have hbad : R.asc L = false := R.asc_bad k (by rw [HL.out]; exact hlt) (by rw [← HP.out, ← HQ.out, ← HX.out]; exact hgt)
        have HB := Lib.hid hbad
        clear hbad
        go_wp2_with fail
        go_ret
        exact ⟨by rw [HB.out]; rfl, B1.out⟩
      · go_wp2_with fail
        go_roundw
        case rel =>
          refine ⟨k + 1, by go_num, .inr hlt, fun t ht => ?_, B1.out⟩
          rcases Nat.lt_or_ge t k with h | h
          · exact hasc.out t h
          · obtain rfl : t = k := by omega
            rw [← HP.out, ← HQ.out, ← HX.out]; omega
        case measure => simp [intOf]; omega
    · have hall : R.asc L = true := R.asc_iff.2 fun t ht => hasc.out t (by rw [HL.out] at ht; omega)
      have HA := Lib.hid hall
      clear hall
      go_wp2_with fail
      go_ret
      exact ⟨by rw [HA.out]; rfl, hb.out⟩
set_option maxRecDepth 100000 in
theorem lasc (a : Option Addr) (len cap : Nat) (L : List R) (w : World) (h : IsRows w a len L) (hlen : len ≤ 1000000000000) :
    Calls Tryd.prog 54 #[.slice a len cap, .func (.func 42) #[] #[]] w fun e w' => e = .returned (.bool (R.asc L)) ∧ Below w.heap.size w w' := by
  have HL := Lib.hid h.1
  have HI := Lib.hid h
  clear h
  go_enter Tryd.func54, Tryd.ntmps54
  go_wp2_with fail
  go_loopw [5] (fun i wr => ∃ k : Nat, i = .int .i64 ((k : Int) - 1) ∧ k ≤ len ∧ Hid (∀ t, k ≤ t + 1 → t + 1 < len → R.cmp (L.getD t R.zero) (L.getD (t + 1) R.zero) ≤ 0) ∧ Hid (Below w.heap.size w wr)) (fun i _ => (intOf i + 1).toNat)
  case atStart => exact ⟨len, by go_num, Nat.le_refl _, fun t h1 h2 => by omega, Below.refl _ _⟩
  case round =>
    obtain ⟨k, rfl, hk, hasc, hb⟩ := hrel
    by_cases hlt : 1 < k
    · obtain ⟨m, rfl⟩ : ∃ m, k = m + 2 := ⟨k - 2, by omega⟩
      have e1 : ((m + 2 : Nat) : Int) - 1 = (m : Int) + 1 := by omega
      rw [e1]
      clear e1
      obtain ⟨b, o, rfl, hbl, hat, hat'⟩ := (HI.out.keep hb.out).at2 (t := m) (u := m + 1) (by omega) (by omega)
      obtain ⟨p, hp⟩ : ∃ p, p = L.getD m R.zero := ⟨_, rfl⟩
      obtain ⟨q, hq⟩ : ∃ q, q = L.getD (m + 1) R.zero := ⟨_, rfl⟩
      rw [← hp] at hat
      rw [← hq] at hat'
      obtain ⟨c0, c1, c2⟩ := hat
      obtain ⟨d0, d1, d2⟩ := hat'
      have HP := Lib.hid hp
      have HQ := Lib.hid hq
      clear hp hq
      have HC := Lib.hid (fun W => icmp q p W)
      unfold R.val at HC
      have hwr : IntKind.i64.wrap (m : Int) = m := by simp [IntKind.wrap, IntKind.bits, IntKind.signed]; omega
      have hkl : (m : Int) < len := by omega
      have hkl2 : (m : Int) + 1 < len := by omega
      have hkn : ((m : Int) + 1).toNat = m + 1 := by omega
      have hkp : 0 ≤ (m : Int) + 1 := by omega
      go_wp2_with fail
      go_still_tail 10, (by kernel_rfl)
      go_wp2_with fail
      refine (HC.out _).mono ?_
      rintro e w1 ⟨rfl, b1⟩
      obtain ⟨x, hx⟩ : ∃ x, x = R.cmp q p := ⟨_, rfl⟩
      rw [← hx]
      have B1 := Lib.hid ((hb.out.drew).trans (b1.mono hb.out.size))
      have HX := Lib.hid (hx.trans (R.cmp_anti p q))
      clear hx b1
      by_cases hgt : x < 0
      · have hbad : R.asc L = false := R.asc_bad m (by rw [HL.out]; omega) (by have := HX.out; rw [← HP.out, ← HQ.out]; omega)
        have HB := Lib.hid hbad
        clear hbad
        go_wp2_with fail
        go_ret
        exact ⟨by rw [HB.out]; rfl, B1.out⟩
      · go_wp2_with fail
        go_roundw
        case rel =>
          refine ⟨m + 1, by go_num, by omega, fun t h1 h2 => ?_, B1.out⟩
          rcases Nat.lt_or_ge t (m + 1) with h | h
          · obtain rfl : t = m := by omega
            have := HX.out
            rw [← HP.out, ← HQ.out]; omega
          · exact hasc.out t (by omega) h2
        case measure => simp [intOf]; omega
    · have hall : R.asc L = true := R.asc_iff.2 fun t ht => hasc.out t (by omega) (by rw [HL.out] at ht; exact ht)
      have HA := Lib.hid hall
      clear hall
      go_wp2_with fail
      go_ret
      exact ⟨by rw [HA.out]; rfl, hb.out⟩
theorem iasc (a : Option Addr) (len cap : Nat) (L : List R) (w : World) (h : IsRows w a len L) (hlen : len ≤ 1000000000000) :
    Calls Tryd.prog 37 #[.slice a len cap] w fun e w' => e = .returned (.bool (R.asc L)) ∧ Below w.heap.size w w' := by
  have HC := Lib.hid (lasc a len cap L w h hlen)
  clear h
  go_enter Tryd.func37, Tryd.ntmps37
  go_wp2_with fail
  refine HC.out.mono ?_
  rintro e w1 ⟨rfl, b1⟩
  have B1 := Lib.hid b1
  clear b1
  go_wp2_with fail
  go_ret
  exact ⟨rfl, B1.out⟩
end Go.Proofs.YtpnbnbhifpcelaaDoor
/- A region that draws its order, walked once in the order of its text, for a class of worlds of the prover's own: every operation yields one value in each world of the class and leaves a world of the class (the library's 'wp_region_quiet', met step by step); no function of the program. -/
namespace Go.Proofs.YtpnbnbhifpcelaaDoor
open Go Go.RowKit
theorem region_class {P : Program} {id : Nat} {Q : Exit → Act → World → Prop} {a : Act} {w : World} {l : List Oper} (C : World → Prop) (hm : P.follows .mixedOrders = true) (hB : Region.lexB .any l.toArray = true) (hC : C w.drew)
    (h : wpQuiet P l.toArray C (fun a' => ∀ w', C w' → Q .normal a' w') l a) : (Code.region id l.toArray true).wp P Q a w :=
  wp_region_quiet (C := C) hm hB hC (by simpa using h)
end Go.Proofs.YtpnbnbhifpcelaaDoor
/- The reference's SortRows (insertion), by contract. -/
namespace Go.Proofs.YtpnbnbhifpcelaaDoor
open Go.RowKit
set_option maxRecDepth 100000 in
set_option maxHeartbeats 1000000 in
theorem ssort (a : Option Addr) (len cap : Nat) (L : List R) (w : World) (h : IsRows w a len L) (hlen : len ≤ 1000000000) :
    Calls Tryd.prog 43 #[.slice a len cap] w fun e w' => ∃ g c, e = .returned (.slice (some ⟨g, 0, none⟩) len c) ∧ Mine w' w.heap.size (.slice (some ⟨g, 0, none⟩) len c) (R.sort L) ∧ Below w.heap.size w w' := by
  have HL := Lib.hid h.1
  have HI := Lib.hid h
  have HZ := Lib.hid (mine_zero w w.heap.size (Nat.le_refl _))
  have hb0 : Below w.heap.size w (w.alloc (.cells #[] 50)) := (Below.refl _ _).alloc (Nat.le_refl _) _
  have HB0 := Lib.hid hb0
  clear h hb0
  go_enter Tryd.func43, Tryd.ntmps43
  go_wp2_with fail
  go_loopw [3, 4] (fun v x wr => ∃ i g c : Nat, v = .slice (some ⟨g, 0, none⟩) i c ∧ x = .int .i64 i ∧ i ≤ len ∧ Hid (Mine wr w.heap.size (.slice (some ⟨g, 0, none⟩) i c) (R.sort (L.take i))) ∧ Hid (Below w.heap.size w wr)) (fun _ x _ => len - (intOf x).toNat)
  case atStart => exact ⟨0, _, _, rfl, rfl, Nat.zero_le _, by rw [List.take_zero, R.sort_nil]; exact HZ.out, HB0.out⟩
  case round =>
    obtain ⟨i, g, c, rfl, rfl, hi, hm, hb⟩ := hrel
    obtain ⟨w1, hw1⟩ : ∃ w1, w1 = wr := ⟨_, rfl⟩
    subst hw1
    by_cases hlt : i < len
    · obtain ⟨b, o, rfl, hbl, hat⟩ := HI.out.at hlt
      obtain ⟨r, hr⟩ : ∃ r, r = L.getD i R.zero := ⟨_, rfl⟩
      rw [← hr] at hat
      have hat := hat.below hb.out hbl
      obtain ⟨S, hS⟩ : ∃ S, S = R.sort (L.take i) := ⟨_, rfl⟩
      rw [← hS] at hm
      have HAT := Lib.hid hat
      have HR := Lib.hid hr
      have HS := Lib.hid hS
      have HBL := Lib.hid (Nat.lt_of_lt_of_le hbl hb.out.size)
      clear hat hr hS hbl
      go_wp2_with fail
      go_loopw [5] (fun x wx => ∃ k : Nat, x = .int .i64 k ∧ k ≤ i ∧ Hid (∀ t, k ≤ t → t < i → 0 < R.cmp (S.getD t R.zero) r) ∧ Hid (Below w1.heap.size w1 wx)) (fun x _ => (intOf x).toNat)
      case atStart => exact ⟨i, rfl, Nat.le_refl _, fun t h1 h2 => by omega, Below.refl _ _⟩
      case round =>
        obtain ⟨k, rfl, hk, hup, hbx⟩ := hrel
        have hgl : g < w1.heap.size := hm.out.lt
        rcases Nat.eq_zero_or_pos k with h0 | h0
        · subst h0
          have hlow : 0 = 0 ∨ R.cmp (S.getD (0 - 1) R.zero) r ≤ 0 := .inl rfl
          have HLOW := Lib.hid hlow
          clear hlow
          go_wp2_with fail
          refine region_class (Below w1.heap.size w1) (by kernel_rfl) (by kernel_rfl) hbx.out.drew ?_
          repeat (first | go_big_quiet_skip | (go_big_quiet_want; go_big_quiet_op; first | go_big_quiet_on | (apply Exists.intro; refine ⟨fun v hv => ?_, ?_⟩; (focus (first | exact rfl | ((fail); done) | ((skip); go_simp; done) | ((skip); go_simp; exact rfl) | ((skip); go_simp; exact ⟨rfl, rfl⟩))); go_big_quiet_on)))
          refine wpQuiet_nil ?_
          intro v hv
          go_wp2_with fail
          have hwv : w.heap.size ≤ v.heap.size := Nat.le_trans hb.out.size hv.size
          have hbo : ∀ o : Obj, Below v.heap.size v (v.alloc o) := fun o => (Below.refl _ _).alloc (Nat.le_refl _) o
          have MO := Lib.hid fun (o : Obj) => (hm.out.keep hv).keep (hbo o)
          obtain ⟨d0, d1, d2⟩ := HAT.out.below hv HBL.out
          have HO := Lib.hid (mine_one v w.heap.size hwv r)
          have hw2 : w.heap.size ≤ (v.alloc (.cells #[.int .i64 r.key, .int .i64 r.value, .int .i64 r.width] 50)).heap.size := by simp; omega
          have HAL : Hid (S.length = i) := Lib.hid hm.out.len
          have HAC := Lib.hid fun (o : Obj) => (MO.out o).cells
          have hkc : 0 ≤ c := Nat.le_trans (Nat.zero_le i) hm.out.cap
          have hln : [r].length + i ≤ 1000000000000 := by simp; omega
          have HBO := Lib.hid hbo
          have HV := Lib.hid hv
          clear hv hbo
          go_region_law (refine step_appendR (w := (v.alloc (.cells #[.int .i64 r.key, .int .i64 r.value, .int .i64 r.width] 50)).drew) (L := S) (M := [r]) _ _ ⟨g, 0, none⟩ i c rfl rfl rfl rfl HO.out HAL.out (HAC.out _) hw2 hln ?_; intro v6 w6 hm6 hg6 hn6)
          have hn6' : v6 ≠ .slice none 0 0 := fun e => by first | exact hn6 e | (have h9 : Value.slice (some ⟨v.heap.size, 0, none⟩) 1 1 = .slice none 0 0 := (hn6.1 e).1; simp at h9)
          have hm6' : Mine w6 w.heap.size v6 (r :: S) := hm6
          clear hm6
          have hm6 := hm6'
          obtain ⟨g6, c6, rfl, -, hl6⟩ := hm6.addr hn6'
          have hsl : (([] : List R)).length = 0 := by have := hm.out.len; simp
          have e6 : (r :: S).length = 1 + i := by rw [List.length_cons, HAL.out]; omega
          rw [e6] at hm6 ⊢
          have hgv : g < v.heap.size := Nat.lt_of_lt_of_le hgl HV.out.size
          have M6 := Lib.hid hm6
          have G6 : Hid (Mine w6 w.heap.size (.slice (some ⟨g, 0, none⟩) i c) S) := Lib.hid (((MO.out _).drew).grown hg6 fun z hz e => by
            have hz' : some g = some z := hz
            have e' : some v.heap.size = some z := e
            simp only [Option.some.injEq] at hz' e'
            omega)
          have b6 : Below w.heap.size w w6 := (((hb.out.trans (HV.out.mono hb.out.size)).alloc hwv (.cells #[.int .i64 r.key, .int .i64 r.value, .int .i64 r.width] 50)).drew).grown hg6 hw2 (fun z hz => by have hz' : some v.heap.size = some z := hz; simp only [Option.some.injEq] at hz'; omega)
          have hw6 : w.heap.size ≤ w6.heap.size := b6.size
          have B6 := Lib.hid b6
          have HZ7 := Lib.hid (mine_zero w6 w.heap.size hw6)
          have C7 : Hid (Mine (w6.alloc (.cells #[] 50)) w.heap.size (.slice (some ⟨g, 0, none⟩) 0 c) (([] : List R))) := Lib.hid ((G6.out.keep ((Below.refl _ _).alloc (Nat.le_refl _) (.cells #[] 50))).take (Nat.zero_le i))
          have M7 := Lib.hid (M6.out.keep ((Below.refl _ _).alloc (Nat.le_refl _) (.cells #[] 50)))
          have hw7 : w.heap.size ≤ (w6.alloc (.cells #[] 50)).heap.size := by simp; omega
          have HSL := Lib.hid hsl
          clear hm6 hg6 hn6 b6 e6 hsl
          go_wp2_with (at_builtin; refine wpList_appendR (L := ([] : List R)) (M := []) _ _ ⟨g, 0, none⟩ 0 c rfl rfl rfl rfl HZ7.out HSL.out C7.out.cells hw7 ?qc4 ?_)
          case qc4 => simp <;> omega
          intro v8 w8 hm8 hg8 hn8
          have hn8' : v8 ≠ .slice none 0 0 := fun e => by first | exact hn8 e | (have h9 : Value.slice (some ⟨w6.heap.size, 0, none⟩) 0 0 = .slice none 0 0 := (hn8.1 e).1; simp at h9)
          have hm8' : Mine w8 w.heap.size v8 (([] : List R)) := hm8
          clear hm8
          have hm8 := hm8'
          obtain ⟨g8, c8, rfl, -, hl8⟩ := hm8.addr hn8'
          have e8 : (([] : List R)).length = 0 := HSL.out
          rw [e8] at hm8 ⊢
          have M8 := Lib.hid hm8
          have N8 : Hid (Mine w8 w.heap.size (.slice (some ⟨g6, 0, none⟩) (1 + i) c6) (r :: S)) := Lib.hid (M7.out.grown hg8 fun z hz e => by
            have hz' : some g6 = some z := hz
            have e' : some w6.heap.size = some z := e
            simp only [Option.some.injEq] at hz' e'
            omega)
          have b8 : Below w.heap.size w w8 := ((B6.out.alloc hw6 (.cells #[] 50))).grown hg8 hw7 (fun z hz => by have hz' : some w6.heap.size = some z := hz; simp only [Option.some.injEq] at hz'; omega)
          have B8 := Lib.hid b8
          have hw8 : w.heap.size ≤ w8.heap.size := b8.size
          clear hm8 hg8 hn8 b8 e8
          go_wp2_with (at_builtin; refine wpList_appendR (L := r :: S) (M := ([] : List R)) _ _ ⟨g6, 0, none⟩ (1 + i) c6 rfl rfl rfl rfl M8.out N8.out.len N8.out.cells hw8 ?qc5 ?_)
          case qc5 => rw [HSL.out]; omega
          intro v9 w9 hm9 hg9 hn9
          have hn9' : v9 ≠ .slice none 0 0 := fun e => by first | exact hn9 e | (have h9 := (hn9.1 e).1; simp at h9)
          have hm9' : Mine w9 w.heap.size v9 (([] : List R) ++ (r :: S)) := hm9
          clear hm9
          have hm9 := hm9'
          obtain ⟨g9, c9, rfl, -, hl9⟩ := hm9.addr hn9'
          have e9 : (([] : List R) ++ (r :: S)).length = i + 1 := by rw [List.length_append, List.length_cons, HAL.out, HSL.out]; omega
          rw [e9] at hm9 ⊢
          have hfin : ([] : List R) ++ r :: S = R.sort (L.take (i + 1)) := by
            have := R.sort_insert (L := L) (i := i) (k := 0) (by rw [HL.out]; exact hlt) (Nat.zero_le i) (by rw [← HS.out, ← HR.out]; exact .inl rfl) (fun t h1 h2 => by rw [← HS.out, ← HR.out]; exact hup.out t h1 h2)
            rw [← HS.out, ← HR.out] at this
            exact this
          rw [hfin] at hm9
          have M9 := Lib.hid hm9
          have B9 := Lib.hid (B8.out.grown hg9 hw8 M8.out.own')
          clear hm9 hg9 hn9 e9 hfin
          go_wp2_with fail
          go_roundw
          case rel => exact ⟨i + 1, g9, c9, rfl, by go_num, by omega, M9.out, B9.out⟩
          case measure => simp [intOf]; omega
        · obtain ⟨g', eg, -, -, hq, -, -⟩ := hm.out.at (k := k - 1) (by omega)
          injection eg with eg
          injection eg with eg
          subst eg
          obtain ⟨q, hqe⟩ : ∃ q, q = S.getD (k - 1) R.zero := ⟨_, rfl⟩
          rw [← hqe] at hq
          obtain ⟨x, hx⟩ : ∃ x, x = R.cmp q r := ⟨_, rfl⟩
          have HC := Lib.hid fun v (hv : Below w1.heap.size w1 v) => (scmp q r v).mono fun e v' (h : e = .returned (.int .i64 (R.cmp q r)) ∧ Below v.heap.size v v') => (⟨h.1, hv.trans (h.2.mono hv.size)⟩ : _ ∧ Below w1.heap.size w1 v')
          rw [← hx] at HC
          unfold R.val at HC
          have HX := Lib.hid hx
          have HQ := Lib.hid hq
          have HQE := Lib.hid hqe
          have hbl1 : b < w1.heap.size := HBL.out
          have hwr : IntKind.i64.wrap ((k : Int) - 1) = (k : Int) - 1 := by simp [IntKind.wrap, IntKind.bits, IntKind.signed]; omega
          have hmi : (k : Int) - 1 < i := by omega
          have hmp : 0 ≤ (k : Int) - 1 := by omega
          have hmn : ((k : Int) - 1).toNat = k - 1 := by omega
          have hp1 : 0 < (k : Int) := by omega
          clear hx hq hqe
          go_wp2_with fail
          refine region_class (Below w1.heap.size w1) (by kernel_rfl) (by kernel_rfl) hbx.out.drew ?_
          repeat (first | go_big_quiet_skip | (go_big_quiet_want; go_big_quiet_op; first | go_big_quiet_on | (apply Exists.intro; refine ⟨fun v hv => ?_, ?_⟩; (focus (first | exact rfl | ((go_at_call 34; exact HC.out v hv); done) | ((obtain ⟨c0, c1, c2⟩ := RowAt.below HQ.out hv hgl; obtain ⟨d0, d1, d2⟩ := RowAt.below HAT.out hv hbl1); go_simp; done) | ((obtain ⟨c0, c1, c2⟩ := RowAt.below HQ.out hv hgl; obtain ⟨d0, d1, d2⟩ := RowAt.below HAT.out hv hbl1); go_simp; exact rfl) | ((obtain ⟨c0, c1, c2⟩ := RowAt.below HQ.out hv hgl; obtain ⟨d0, d1, d2⟩ := RowAt.below HAT.out hv hbl1); go_simp; exact ⟨rfl, rfl⟩))); go_big_quiet_on)))
          refine wpQuiet_nil ?_
          intro v hv
          by_cases hgt : 0 < x
          · go_wp2_with fail
            go_roundw
            case rel =>
              refine ⟨k - 1, by go_num, by omega, fun t h1 h2 => ?_, hv⟩
              rcases Nat.lt_or_ge t k with h | h
              · obtain rfl : t = k - 1 := by omega
                rw [← HQE.out, ← HX.out]; exact hgt
              · exact hup.out t h h2
            case measure => simp [intOf]; omega
          · have hlow : k = 0 ∨ R.cmp (S.getD (k - 1) R.zero) r ≤ 0 := .inr (by rw [← HQE.out, ← HX.out]; omega)
            have HLOW := Lib.hid hlow
            clear hlow h0 hbl1 hwr hmi hmp hmn hp1
            go_wp2_with fail
            have hwv : w.heap.size ≤ v.heap.size := Nat.le_trans hb.out.size hv.size
            have hbo : ∀ o : Obj, Below v.heap.size v (v.alloc o) := fun o => (Below.refl _ _).alloc (Nat.le_refl _) o
            have MO := Lib.hid fun (o : Obj) => (hm.out.keep hv).keep (hbo o)
            obtain ⟨d0, d1, d2⟩ := HAT.out.below hv HBL.out
            have HO := Lib.hid (mine_one v w.heap.size hwv r)
            have hw2 : w.heap.size ≤ (v.alloc (.cells #[.int .i64 r.key, .int .i64 r.value, .int .i64 r.width] 50)).heap.size := by simp; omega
            obtain ⟨A, hA, hAl, hAc⟩ : ∃ A : Addr, (if c = k then some (⟨g, 0, none⟩ : Addr) else some ⟨g, k * 3, none⟩) = some A ∧ (S.drop k).length = i - k ∧ ∀ (o : Obj) j u, (cells3 (S.drop k))[j]? = some u → (v.alloc o).cell? (A.add j) = some u := by
              obtain ⟨A, hA, hAl, hAc⟩ := (hm.out.keep hv).from hk
              exact ⟨A, hA, hAl, fun o j u hj => Lib.cell?_alloc_some _ (hAc j u hj)⟩
            have HAL := Lib.hid hAl
            have HAC := Lib.hid hAc
            have HAE := Lib.hid hA
            clear hAl hAc
            have hkc : k ≤ c := Nat.le_trans hk hm.out.cap
            have hln : [r].length + (i - k) ≤ 1000000000000 := by simp; omega
            have HBO := Lib.hid hbo
            have HV := Lib.hid hv
            clear hv hbo
            go_region_law (refine step_appendR (w := (v.alloc (.cells #[.int .i64 r.key, .int .i64 r.value, .int .i64 r.width] 50)).drew) (L := S.drop k) (M := [r]) _ _ A (i - k) (c - k) rfl rfl rfl rfl HO.out HAL.out (HAC.out _) hw2 hln ?_; intro v6 w6 hm6 hg6 hn6)
            have hn6' : v6 ≠ .slice none 0 0 := fun e => by first | exact hn6 e | (have h9 : Value.slice (some ⟨v.heap.size, 0, none⟩) 1 1 = .slice none 0 0 := (hn6.1 e).1; simp at h9)
            have hm6' : Mine w6 w.heap.size v6 (r :: S.drop k) := hm6
            clear hm6
            have hm6 := hm6'
            obtain ⟨g6, c6, rfl, -, hl6⟩ := hm6.addr hn6'
            have hsl : (S.take k).length = k := by have := hm.out.len; rw [List.length_take]; omega
            have e6 : (r :: S.drop k).length = 1 + (i - k) := by rw [List.length_cons, HAL.out]; omega
            rw [e6] at hm6 ⊢
            have hgv : g < v.heap.size := Nat.lt_of_lt_of_le hgl HV.out.size
            have M6 := Lib.hid hm6
            have G6 : Hid (Mine w6 w.heap.size (.slice (some ⟨g, 0, none⟩) i c) S) := Lib.hid (((MO.out _).drew).grown hg6 fun z hz e => by
              have hz' : some g = some z := hz
              have e' : some v.heap.size = some z := e
              simp only [Option.some.injEq] at hz' e'
              omega)
            have b6 : Below w.heap.size w w6 := (((hb.out.trans (HV.out.mono hb.out.size)).alloc hwv (.cells #[.int .i64 r.key, .int .i64 r.value, .int .i64 r.width] 50)).drew).grown hg6 hw2 (fun z hz => by have hz' : some v.heap.size = some z := hz; simp only [Option.some.injEq] at hz'; omega)
            have hw6 : w.heap.size ≤ w6.heap.size := b6.size
            have B6 := Lib.hid b6
            have HZ7 := Lib.hid (mine_zero w6 w.heap.size hw6)
            have C7 : Hid (Mine (w6.alloc (.cells #[] 50)) w.heap.size (.slice (some ⟨g, 0, none⟩) k c) (S.take k)) := Lib.hid ((G6.out.keep ((Below.refl _ _).alloc (Nat.le_refl _) (.cells #[] 50))).take hk)
            have M7 := Lib.hid (M6.out.keep ((Below.refl _ _).alloc (Nat.le_refl _) (.cells #[] 50)))
            have hw7 : w.heap.size ≤ (w6.alloc (.cells #[] 50)).heap.size := by simp; omega
            have HSL := Lib.hid hsl
            clear hm6 hg6 hn6 b6 e6 hsl
            go_wp2_with (at_builtin; refine wpList_appendR (L := S.take k) (M := []) _ _ ⟨g, 0, none⟩ k c rfl rfl rfl rfl HZ7.out HSL.out C7.out.cells hw7 ?qc4 ?_)
            case qc4 => simp <;> omega
            intro v8 w8 hm8 hg8 hn8
            have hn8' : v8 ≠ .slice none 0 0 := fun e => by first | exact hn8 e | (have h9 : Value.slice (some ⟨w6.heap.size, 0, none⟩) 0 0 = .slice none 0 0 := (hn8.1 e).1; simp at h9)
            have hm8' : Mine w8 w.heap.size v8 (S.take k) := hm8
            clear hm8
            have hm8 := hm8'
            obtain ⟨g8, c8, rfl, -, hl8⟩ := hm8.addr hn8'
            have e8 : (S.take k).length = k := HSL.out
            rw [e8] at hm8 ⊢
            have M8 := Lib.hid hm8
            have N8 : Hid (Mine w8 w.heap.size (.slice (some ⟨g6, 0, none⟩) (1 + (i - k)) c6) (r :: S.drop k)) := Lib.hid (M7.out.grown hg8 fun z hz e => by
              have hz' : some g6 = some z := hz
              have e' : some w6.heap.size = some z := e
              simp only [Option.some.injEq] at hz' e'
              omega)
            have b8 : Below w.heap.size w w8 := ((B6.out.alloc hw6 (.cells #[] 50))).grown hg8 hw7 (fun z hz => by have hz' : some w6.heap.size = some z := hz; simp only [Option.some.injEq] at hz'; omega)
            have B8 := Lib.hid b8
            have hw8 : w.heap.size ≤ w8.heap.size := b8.size
            clear hm8 hg8 hn8 b8 e8
            go_wp2_with (at_builtin; refine wpList_appendR (L := r :: S.drop k) (M := S.take k) _ _ ⟨g6, 0, none⟩ (1 + (i - k)) c6 rfl rfl rfl rfl M8.out N8.out.len N8.out.cells hw8 ?qc5 ?_)
            case qc5 => rw [HSL.out]; omega
            intro v9 w9 hm9 hg9 hn9
            have hn9' : v9 ≠ .slice none 0 0 := fun e => by first | exact hn9 e | (have h9 := (hn9.1 e).1; simp at h9)
            have hm9' : Mine w9 w.heap.size v9 (S.take k ++ (r :: S.drop k)) := hm9
            clear hm9
            have hm9 := hm9'
            obtain ⟨g9, c9, rfl, -, hl9⟩ := hm9.addr hn9'
            have e9 : (S.take k ++ (r :: S.drop k)).length = i + 1 := by rw [List.length_append, List.length_cons, HAL.out, HSL.out]; omega
            rw [e9] at hm9 ⊢
            have hfin : S.take k ++ r :: S.drop k = R.sort (L.take (i + 1)) := by
              have := R.sort_insert (L := L) (i := i) (k := k) (by rw [HL.out]; exact hlt) hk (by rw [← HS.out, ← HR.out]; exact HLOW.out) (fun t h1 h2 => by rw [← HS.out, ← HR.out]; exact hup.out t h1 h2)
              rw [← HS.out, ← HR.out] at this
              exact this
            rw [hfin] at hm9
            have M9 := Lib.hid hm9
            have B9 := Lib.hid (B8.out.grown hg9 hw8 M8.out.own')
            clear hm9 hg9 hn9 e9 hfin
            go_wp2_with fail
            go_roundw
            case rel => exact ⟨i + 1, g9, c9, rfl, by go_num, by omega, M9.out, B9.out⟩
            case measure => simp [intOf]; omega
    · have hil : i = len := by omega
      have hfin : Mine w1 w.heap.size (.slice (some ⟨g, 0, none⟩) len c) (R.sort L) := by
        have := hm.out
        rw [hil, ← HL.out, List.take_length, HL.out] at this
        exact this
      have HF := Lib.hid hfin
      subst hil
      clear hfin
      go_wp2_with fail
      go_ret
      exact ⟨g, c, rfl, HF.out, hb.out⟩
theorem ssortv (a : Option Addr) (len cap : Nat) (L : List R) (w : World) (h : IsRows w a len L) (hlen : len ≤ 1000000000) :
    Calls Tryd.prog 43 #[.slice a len cap] w fun e w' => ∃ v, e = .returned v ∧ Mine w' w.heap.size v (R.sort L) ∧ Below w.heap.size w w' :=
  (ssort a len cap L w h hlen).mono fun _ _ ⟨_, _, he, hm, hb⟩ => ⟨_, he, hm, hb⟩
end Go.Proofs.YtpnbnbhifpcelaaDoor
/- The reference's EqualBags, by contract. -/
namespace Go.Proofs.YtpnbnbhifpcelaaDoor
open Go.RowKit
set_option maxRecDepth 100000 in
theorem seqbags (a a' : Option Addr) (len cap len' cap' : Nat) (L M : List R) (w : World) (h : IsRows w a len L) (h' : IsRows w a' len' M) (hlen : len ≤ 1000000000) (hlen' : len' ≤ 1000000000) :
    Calls Tryd.prog 21 #[.slice a len cap, .slice a' len' cap'] w fun e w' => e = .returned (.bool (R.eqBags L M)) ∧ Below w.heap.size w w' := by
  have HL := Lib.hid h.1
  have HL' := Lib.hid h'.1
  have HW := Lib.hid h.2.1
  have HW' := Lib.hid h'.2.1
  have HI := Lib.hid h
  have HI' := Lib.hid h'
  clear h h'
  go_enter Tryd.func21, Tryd.ntmps21
  go_wp2_with fail
  refine (ssort a len cap L _ HI.out hlen).mono ?_
  rintro e w1 ⟨g1, c1, rfl, m1, b1⟩
  have M1 := Lib.hid m1
  have B1 := Lib.hid b1
  have I1 := Lib.hid (HI'.out.keep b1)
  clear m1 b1
  go_wp2_with fail
  refine (ssort a' len' cap' M _ I1.out hlen').mono ?_
  rintro e w2 ⟨g2, c2, rfl, m2, b2⟩
  have X := Lib.hid ((M1.out.keep b2).rows (R.sort_wf HW.out))
  have Y := Lib.hid (m2.rows (R.sort_wf HW'.out))
  have B2 := Lib.hid (B1.out.trans (b2.mono B1.out.size))
  clear m2 b2
  by_cases hne : len = len'
  · subst hne
    go_wp2_with fail
    go_loopw [7] (fun x wr => ∃ k : Nat, x = .int .i64 k ∧ k ≤ len ∧ Hid (∀ t, t < k → (R.sort L).getD t R.zero = (R.sort M).getD t R.zero) ∧ Hid (Below w2.heap.size w2 wr)) (fun x _ => len - (intOf x).toNat)
    case atStart => exact ⟨0, rfl, Nat.zero_le _, fun t h => by omega, Below.refl _ _⟩
    case round =>
      obtain ⟨k, rfl, hk, hsame, hb⟩ := hrel
      by_cases hlt : k < len
      · obtain ⟨b, o, e1, hbl, hat⟩ := (X.out.keep hb.out).at hlt
        injection e1 with e1
        injection e1 with e1 e2
        subst e1
        subst e2
        obtain ⟨b', o', e1, hbl', hat'⟩ := (Y.out.keep hb.out).at hlt
        injection e1 with e1
        injection e1 with e1 e2
        subst e1
        subst e2
        obtain ⟨p, hp⟩ : ∃ p, p = (R.sort L).getD k R.zero := ⟨_, rfl⟩
        obtain ⟨q, hq⟩ : ∃ q, q = (R.sort M).getD k R.zero := ⟨_, rfl⟩
        rw [← hp] at hat
        rw [← hq] at hat'
        simp only [Nat.zero_add] at hat hat'
        obtain ⟨c0, c1, c2⟩ := hat
        obtain ⟨d0, d1, d2⟩ := hat'
        have HP := Lib.hid hp
        have HQ := Lib.hid hq
        have hn := row_neq p q
        clear hp hq
        by_cases he : p = q
        · have HE := Lib.hid he
          rw [decide_eq_true he] at hn
          clear he
          go_wp2_with fail
          go_still_tail 8, (by kernel_rfl)
          go_wp2_with fail
          go_roundw
          case rel =>
            refine ⟨k + 1, by go_num, by omega, fun t h => ?_, hb.out.drew⟩
            rcases Nat.lt_or_ge t k with h1 | h1
            · exact hsame.out t h1
            · obtain rfl : t = k := by omega
              rw [← HP.out, ← HQ.out, HE.out]
          case measure => simp [intOf]; omega
        · have hbad : R.eqBags L M = false := by
            unfold R.eqBags
            exact decide_eq_false fun e => he (by rw [HP.out, HQ.out, e])
          have HB := Lib.hid hbad
          rw [decide_eq_false he] at hn
          clear he hbad
          go_wp2_with fail
          go_still_tail 8, (by kernel_rfl)
          go_wp2_with fail
          go_ret
          exact ⟨by rw [HB.out]; rfl, B2.out.trans (hb.out.drew.mono B2.out.size)⟩
      · have hkl : k = len := by omega
        have hall : R.eqBags L M = true := by
          unfold R.eqBags
          have hl1 : (R.sort L).length = len := by rw [R.sort_length, HL.out]
          have hl2 : (R.sort M).length = len := by rw [R.sort_length, HL'.out]
          exact decide_eq_true (getD_ext (by rw [hl1, hl2]) fun t ht => hsame.out t (by omega))
        have HA := Lib.hid hall
        clear hall hkl
        go_wp2_with fail
        go_ret
        exact ⟨by rw [HA.out]; rfl, B2.out.trans (hb.out.mono B2.out.size)⟩
  · have hbad : R.eqBags L M = false := by
      unfold R.eqBags
      refine decide_eq_false fun e => hne ?_
      have := congrArg List.length e
      rw [R.sort_length, R.sort_length, HL.out, HL'.out] at this
      exact this
    have HB := Lib.hid hbad
    clear hbad
    go_wp2_with fail
    go_ret
    exact ⟨by rw [HB.out]; rfl, B2.out⟩
end Go.Proofs.YtpnbnbhifpcelaaDoor
/- Small lemmas about rows of bytes that a call made itself: what is appended, what string(b) reads; no function of the program is walked here. -/
namespace Go.Proofs.YtpnbnbhifpcelaaDoor
open Go.RowKit
def b8 (l : List UInt8) : List Value := l.map fun b => Value.int .u8 (b.toNat : Int)
theorem cell_new1 (w : World) (u : Value) (t : TypeId) : ∀ (j : Nat) (x : Value), [u][j]? = some x → (w.alloc (.cells #[u] t)).cell? ((⟨w.heap.size, 0, none⟩ : Addr).add j) = some x := by
  intro j x hj
  match j, hj with
  | 0, hj => simp at hj; subst hj; simp [Addr.add]
theorem one_string (wr : World) (x : Int) (b : UInt8) (hx : x = (b.toNat : Int)) :
    (convert 22 9 (.slice (some ⟨wr.heap.size, 0, none⟩) 1 1)).run Tryd.prog (wr.alloc (.cells #[.int .u8 x] 5)) = .ok (.string ⟨[b].toArray⟩) (wr.alloc (.cells #[.int .u8 x] 5)) := by
  subst hx
  exact run_convert_bytes_back _ _ _ _ ⟨wr.heap.size, 0, none⟩ 1 [b] Tryd.underlying22 Tryd.underlying5 Tryd.underlying9 fun j hj => cell_new1 wr _ _ j _ (by simp at hj; subst hj; rfl)
end Go.Proofs.YtpnbnbhifpcelaaDoor
/- The reference's l1In, by contract; a string's ending. -/
namespace Go.Proofs.YtpnbnbhifpcelaaDoor
open Go.RowKit
theorem ret_str {a b : List UInt8} (h : a = b) : Ending.returned (.string ⟨a.toArray⟩) = .returned (.string ⟨b.toArray⟩) := by rw [h]
end Go.Proofs.YtpnbnbhifpcelaaDoor
/- What '&', '|' and '<<' of the program's integers are on numbers that are not below zero; no function of the program. -/
namespace Go.Proofs.YtpnbnbhifpcelaaDoor
open Go.RowKit
theorem toNat_bv (a : Nat) (ha : a < 9223372036854775808) : (BitVec.ofInt 64 (a : Int)).toNat = a := by
  rw [BitVec.ofInt_natCast, BitVec.toNat_ofNat]; omega
theorem and64 (a b : Nat) (ha : a < 9223372036854775808) (hb : b < 9223372036854775808) : bits .and .i64 (a : Int) (b : Int) = ((a &&& b : Nat) : Int) := by
  have hx : a &&& b < 2 ^ 63 := Nat.and_lt_two_pow _ (by omega)
  show IntKind.i64.wrap ((BitVec.ofInt 64 (a : Int) &&& BitVec.ofInt 64 (b : Int)).toNat : Int) = _
  rw [BitVec.toNat_and, toNat_bv a ha, toNat_bv b hb, IntKind.wrap_i64]; omega
end Go.Proofs.YtpnbnbhifpcelaaDoor
/- FormatInt of the reference: the decimal numeral of every integer. -/
namespace Go.Proofs.YtpnbnbhifpcelaaDoor
open Go.RowKit Num Dec
theorem str_cat (b : UInt8) (l : List UInt8) : (⟨[b].toArray⟩ : ByteArray) ++ ⟨l.toArray⟩ = ⟨(b :: l).toArray⟩ := ByteArray.mk_append_mk [b] l
theorem sfmt_zero (w : World) : Calls Tryd.prog 68 #[.int .i64 0] w fun e w' => e = .returned (.string ⟨(Lib.itoa 0).toArray⟩) ∧ Below w.heap.size w w' := by
  rw [itoa_zero]
  go_enter Tryd.func68, Tryd.ntmps68
  go_wp2
  go_ret
  exact ⟨rfl, Below.refl _ _⟩
set_option maxRecDepth 100000 in
theorem sfmt_pos (n : Int) (w : World) (h0 : 0 < n) (h63 : n ≤ 9223372036854775807) :
    Calls Tryd.prog 68 #[.int .i64 n] w fun e w' => e = .returned (.string ⟨(Lib.itoa n).toArray⟩) ∧ Below w.heap.size w w' := by
  rw [itoa_pos n h0]
  have hlen := dd_length_le n.toNat (by omega)
  have hz : (n == 0) = false := by rw [beq_eq_false_iff_ne]; omega
  have hneg : decide (n < 0) = false := by simp; omega
  go_enter Tryd.func68, Tryd.ntmps68
  go_wp2
  go_loopw [0, 3, 5] (fun m o _ wr => ∃ (x : Int) (out : List UInt8), m = .int .i64 x ∧ o = .string ⟨out.toArray⟩ ∧ 0 ≤ x ∧ x ≤ 9223372036854775807 ∧ Hid (dd n.toNat = dd x.toNat ++ out) ∧ Below w.heap.size w wr) (fun m _ _ _ => (intOf m).toNat)
  case atStart => exact ⟨n, [], rfl, rfl, by omega, h63, by show _ = _; simp, Below.refl _ _⟩
  case round =>
    obtain ⟨x, out, rfl, rfl, hx0, hx1, hD, hb⟩ := hrel
    have hol : out.length ≤ 20 := by have := congrArg List.length hD.out; rw [List.length_append] at this; omega
    by_cases hx : x = 0
    · have hout := hD.out
      rw [hx] at hout
      have HO : Hid (dd n.toNat = out) := hout
      have ht : (x != 0) = false := by rw [bne_eq_false_iff_eq]; exact hx
      clear hx hout
      go_wp2_with fail
      go_ret
      exact ⟨ret_str HO.out.symm, hb⟩
    · have ht : (x != 0) = true := by rw [bne_iff_ne]; exact hx
      have hxp : 0 < x := by omega
      clear hx
      obtain ⟨b, hb8⟩ : ∃ b : UInt8, b = UInt8.ofNat (48 + x.toNat % 10) := ⟨_, rfl⟩
      have hone := one_string wr (48 + x % 10) b (by rw [hb8, UInt8.toNat_ofNat']; omega)
      have HB := Lib.hid hb8
      clear hb8
      have hdec : ¬ x % 10 < 0 := by omega
      go_wp2_with fail
      go_roundw
      case rel =>
        refine ⟨x / 10, b :: out, rfl, by exact congrArg Value.string (str_cat _ _), by omega, by omega, ?_, hb.alloc hb.size _⟩
        show _ = _
        rw [hD.out, dd_step x.toNat (by omega), ← HB.out, show (x / 10).toNat = x.toNat / 10 by omega, List.append_assoc]; rfl
      case measure => simp [intOf]; omega
set_option maxRecDepth 100000 in
theorem sfmt_neg (n : Int) (w : World) (h0 : n < 0) (h63 : -9223372036854775808 ≤ n) :
    Calls Tryd.prog 68 #[.int .i64 n] w fun e w' => e = .returned (.string ⟨(Lib.itoa n).toArray⟩) ∧ Below w.heap.size w w' := by
  rw [itoa_neg n h0]
  have hlen := dd_length_le n.natAbs (by omega)
  have hz : (n == 0) = false := by rw [beq_eq_false_iff_ne]; omega
  have hneg : decide (n < 0) = true := by simpa using h0
  go_enter Tryd.func68, Tryd.ntmps68
  go_wp2
  go_loopw [0, 3, 5] (fun m o _ wr => ∃ (x : Int) (out : List UInt8), m = .int .i64 x ∧ o = .string ⟨out.toArray⟩ ∧ x ≤ 0 ∧ -9223372036854775808 ≤ x ∧ Hid (dd n.natAbs = dd x.natAbs ++ out) ∧ Below w.heap.size w wr) (fun m _ _ _ => (intOf m).natAbs)
  case atStart => exact ⟨n, [], rfl, rfl, by omega, h63, by show _ = _; simp, Below.refl _ _⟩
  case round =>
    obtain ⟨x, out, rfl, rfl, hx0, hx1, hD, hb⟩ := hrel
    have hol : out.length ≤ 20 := by have := congrArg List.length hD.out; rw [List.length_append] at this; omega
    by_cases hx : x = 0
    · have hout := hD.out
      rw [hx] at hout
      have HO : Hid (dd n.natAbs = out) := hout
      have ht : (x != 0) = false := by rw [bne_eq_false_iff_eq]; exact hx
      clear hx hout
      go_wp2_with fail
      go_ret
      exact ⟨by rw [HO.out]; exact congrArg (fun z => Ending.returned (Value.string z)) (str_cat 45 out), hb⟩
    · have ht : (x != 0) = true := by rw [bne_iff_ne]; exact hx
      have hxp : x < 0 := by omega
      clear hx
      obtain ⟨u, hu⟩ : ∃ u : Nat, x = -(u : Int) := ⟨x.natAbs, by omega⟩
      obtain ⟨b, hb8⟩ : ∃ b : UInt8, b = UInt8.ofNat (48 + u % 10) := ⟨_, rfl⟩
      obtain ⟨r, hr⟩ : ∃ r : Int, r = ((u % 10 : Nat) : Int) := ⟨_, rfl⟩
      obtain ⟨q, hq⟩ : ∃ q : Int, q = -((u / 10 : Nat) : Int) := ⟨_, rfl⟩
      have hmod : x.tmod 10 = -r := by rw [hu, hr, Int.neg_tmod, Int.ofNat_tmod]; rfl
      have hdiv : x.tdiv 10 = q := by rw [hu, hq, Int.neg_tdiv, Int.ofNat_tdiv]; rfl
      have hone := one_string wr (48 + r) b (by rw [hb8, hr, UInt8.toNat_ofNat']; omega)
      have hr0 : 0 ≤ r := by omega
      have hr1 : r ≤ 9 := by omega
      have hq0 : q ≤ 0 := by omega
      have hq1 : -922337203685477580 ≤ q := by omega
      have hqx : q.natAbs < x.natAbs := by omega
      have HB := Lib.hid hb8
      have HR := Lib.hid hr
      have HQ := Lib.hid hq
      have HU := Lib.hid hu
      clear hb8 hr hq hu
      by_cases hr2 : r = 0
      · have hmod0 : x.tmod 10 = 0 := by rw [hmod, hr2]; rfl
        have hone0 := one_string wr 48 b (by rw [HB.out, UInt8.toNat_ofNat']; have := HR.out; omega)
        clear hmod hone hr2 hr0 hr1
        go_wp2_with fail
        go_roundw
        case rel =>
          refine ⟨q, b :: out, rfl, by exact congrArg Value.string (str_cat _ _), hq0, by omega, ?_, hb.alloc hb.size _⟩
          show _ = _
          have h1 := HU.out
          have h2 := HQ.out
          rw [hD.out, dd_step x.natAbs (by omega), show x.natAbs = u by omega, ← HB.out, show q.natAbs = u / 10 by omega, List.append_assoc]; rfl
        case measure => simp [intOf]; omega
      · have hneg1 : decide (-r < 0) = true := by simp; omega
        go_wp2_with fail
        go_roundw
        case rel =>
          refine ⟨q, b :: out, rfl, by exact congrArg Value.string (str_cat _ _), hq0, by omega, ?_, hb.alloc hb.size _⟩
          show _ = _
          have h1 := HU.out
          have h2 := HQ.out
          rw [hD.out, dd_step x.natAbs (by omega), show x.natAbs = u by omega, ← HB.out, show q.natAbs = u / 10 by omega, List.append_assoc]; rfl
        case measure => simp [intOf]; omega
theorem sfmt (n : Int) (w : World) (h0 : -9223372036854775808 ≤ n) (h1 : n ≤ 9223372036854775807) :
    Calls Tryd.prog 68 #[.int .i64 n] w fun e w' => e = .returned (.string ⟨(Lib.itoa n).toArray⟩) ∧ Below w.heap.size w w' := by
  by_cases hz : n = 0
  · subst hz; exact sfmt_zero w
  · by_cases hp : 0 < n
    · exact sfmt_pos n w hp h1
    · exact sfmt_neg n w (by omega) h0
end Go.Proofs.YtpnbnbhifpcelaaDoor
/- The reference's FormatRow, by contract. -/
namespace Go.Proofs.YtpnbnbhifpcelaaDoor
open Go.RowKit Go.Lib
structure Boxed (w : World) (r : R) (v : World) : Prop where
  c0 : v.cell? ⟨w.heap.size, 0, none⟩ = some (.int .i64 r.key)
  c1 : v.cell? ⟨w.heap.size, 1, none⟩ = some (.int .i64 r.value)
  c2 : v.cell? ⟨w.heap.size, 2, none⟩ = some (.int .i64 r.width)
  old : Below w.heap.size w v
  big : w.heap.size < v.heap.size
theorem Boxed.drew {w v : World} {r : R} (h : Boxed w r v) : Boxed w r v.drew := ⟨h.c0, h.c1, h.c2, h.old.drew, h.big⟩
theorem Boxed.next {w v v' : World} {r : R} (h : Boxed w r v) (hb : Below v.heap.size v v') : Boxed w r v' :=
  ⟨(hb.cell h.big).trans h.c0, (hb.cell h.big).trans h.c1, (hb.cell h.big).trans h.c2, h.old.trans (hb.mono (Nat.le_of_lt h.big)), Nat.lt_of_lt_of_le h.big hb.size⟩
theorem boxed_start {w w' : World} {r : R} {t : TypeId} (hb : Below (w.alloc (.cells #[.int .i64 r.key, .int .i64 r.value, .int .i64 r.width] t)).heap.size (w.alloc (.cells #[.int .i64 r.key, .int .i64 r.value, .int .i64 r.width] t)) w') : Boxed w r w' := by
  obtain ⟨⟨c0, c1, c2⟩, b⟩ := box_row (r := r) hb
  exact ⟨c0, by simpa using c1, by simpa using c2, b, box_lt hb⟩
theorem Boxed.facts {w v : World} {r : R} (h : Boxed w r v) : v.cell? ⟨w.heap.size, 0, none⟩ = some (.int .i64 r.key) ∧ v.cell? ⟨w.heap.size, 1, none⟩ = some (.int .i64 r.value) ∧ v.cell? ⟨w.heap.size, 2, none⟩ = some (.int .i64 r.width) ∧ Hid (Boxed w r v) := ⟨h.c0, h.c1, h.c2, h⟩
theorem fmt_str (a b c : List UInt8) : (⟨a.toArray⟩ : ByteArray) ++ ⟨#[46]⟩ ++ ⟨b.toArray⟩ ++ ⟨#[46]⟩ ++ ⟨c.toArray⟩ = ⟨(a ++ 46 :: (b ++ 46 :: c)).toArray⟩ := by
  have e : (⟨#[46]⟩ : ByteArray) = ⟨[46].toArray⟩ := rfl
  rw [e, ByteArray.mk_append_mk, ByteArray.mk_append_mk, ByteArray.mk_append_mk, ByteArray.mk_append_mk]
  simp
set_option maxRecDepth 100000 in
theorem sfrow (r : R) (w : World) : Calls Tryd.prog 59 #[r.val] w fun e w' => e = .returned (.string ⟨r.fmt.toArray⟩) ∧ Below w.heap.size w w' := by
  have HV := Lib.hid (svalid r)
  cases hok : r.ok with
  | false =>
    have hf : r.fmt = [] := by unfold R.fmt; rw [hok]; rfl
    have HF := Lib.hid hf
    rw [hok] at HV
    clear hf hok
    unfold R.val at HV ⊢
    go_enter Tryd.func59, Tryd.ntmps59
    go_wp2_with fail
    refine (HV.out _).mono ?_
    rintro e w1 ⟨rfl, b1⟩
    have HB := Lib.hid (boxed_start b1)
    clear b1
    go_wp2_with fail
    go_ret
    exact ⟨by rw [HF.out]; rfl, HB.out.old⟩
  | true =>
    have hf : r.fmt = itoa r.key ++ 46 :: (itoa r.value ++ 46 :: itoa r.width) := by unfold R.fmt; rw [hok]; rfl
    have HF := Lib.hid hf
    have hk := R.ok_iff.1 hok
    have l0 := dd_small r.key (by omega) (by omega)
    have l1 := dd_small r.value (by omega) (by omega)
    have l2 := dd_small r.width (by omega) (by omega)
    have F0 := Lib.hid fun w => sfmt r.key w (by omega) (by omega)
    have F1 := Lib.hid fun w => sfmt r.value w (by omega) (by omega)
    have F2 := Lib.hid fun w => sfmt r.width w (by omega) (by omega)
    rw [hok] at HV
    clear hf hok hk
    obtain ⟨a, ha⟩ : ∃ a, a = itoa r.key := ⟨_, rfl⟩
    obtain ⟨b, hb⟩ : ∃ a, a = itoa r.value := ⟨_, rfl⟩
    obtain ⟨c, hc⟩ : ∃ a, a = itoa r.width := ⟨_, rfl⟩
    rw [← ha] at F0 HF l0
    rw [← hb] at F1 HF l1
    rw [← hc] at F2 HF l2
    clear ha hb hc
    have n0 : ¬ 9223372036854775807 < a.length + 1 := by omega
    have n1 : ¬ 9223372036854775807 < a.length + 1 + b.length := by omega
    have n2 : ¬ 9223372036854775807 < a.length + 1 + b.length + 1 := by omega
    have n3 : ¬ 9223372036854775807 < a.length + 1 + b.length + 1 + c.length := by omega
    unfold R.val at HV ⊢
    go_enter Tryd.func59, Tryd.ntmps59
    go_wp2_with fail
    refine (HV.out _).mono ?_
    rintro e w1 ⟨rfl, b1⟩
    have HB := Lib.hid (boxed_start b1).drew
    have hb := boxed_start b1
    obtain ⟨c0, c1, c2, _, _⟩ := hb
    clear b1
    go_wp2_with fail
    go_region_held3 (fun v => v.cell? ⟨w.heap.size, 0, none⟩ = some (.int .i64 r.key) ∧ v.cell? ⟨w.heap.size, 1, none⟩ = some (.int .i64 r.value) ∧ v.cell? ⟨w.heap.size, 2, none⟩ = some (.int .i64 r.width) ∧ Hid (Boxed w r v)) (first | assumption | exact HB.out.facts | exact (Boxed.next (Hid.out (And.right (And.right (And.right (by assumption))))) (by assumption)).facts) (first | (go_at_call_of 68 r.key; refine (F0.out _).mono ?_; rintro e w' ⟨rfl, b2⟩) | (go_at_call_of 68 r.value; refine (F1.out _).mono ?_; rintro e w' ⟨rfl, b2⟩) | (go_at_call_of 68 r.width; refine (F2.out _).mono ?_; rintro e w' ⟨rfl, b2⟩))
    have hold := (Hid.out (And.right (And.right (And.right (by assumption : _ ∧ _ ∧ _ ∧ Hid (Boxed w r w'))))) : Boxed w r w').old
    go_wp2_with fail
    go_ret
    exact ⟨by rw [HF.out, ← fmt_str]; rfl, hold⟩
end Go.Proofs.YtpnbnbhifpcelaaDoor
/- The reference's FormatRows, by contract. -/
namespace Go.Proofs.YtpnbnbhifpcelaaDoor
open Go.RowKit Go.Lib
theorem cat3 (a b : List UInt8) : (⟨a.toArray⟩ : ByteArray) ++ ⟨#[32]⟩ ++ ⟨b.toArray⟩ = ⟨(a ++ [32] ++ b).toArray⟩ := by
  have e : (⟨#[32]⟩ : ByteArray) = ⟨[32].toArray⟩ := rfl
  rw [e, ByteArray.mk_append_mk, ByteArray.mk_append_mk]
set_option maxRecDepth 100000 in
theorem sfrows (a : Option Addr) (len cap : Nat) (L : List R) (w : World) (h : IsRows w a len L) (hlen : len ≤ 1000000000000) :
    Calls Tryd.prog 41 #[.slice a len cap] w fun e w' => e = .returned (.string ⟨(fmtRows L).toArray⟩) ∧ Below w.heap.size w w' := by
  have HI := Lib.hid h
  obtain ⟨hl, hwf, hc⟩ := h
  have HL := Lib.hid hl
  have HC := Lib.hid hc
  clear hl hwf hc
  go_enter Tryd.func41, Tryd.ntmps41
  go_wp2_with fail
  go_loopw [3, 4] (fun n i wr => ∃ (k : Nat) (x : List UInt8), n = .string ⟨x.toArray⟩ ∧ i = .int .i64 k ∧ k ≤ len ∧ Hid (x = join ((L.take k).map R.fmt) [32]) ∧ Hid (k = 0 ∨ okRows L = true) ∧ Hid (Below w.heap.size w wr)) (fun _ i _ => len - (RowKit.intOf i).toNat)
  case atStart => exact ⟨0, [], rfl, rfl, Nat.zero_le _, rfl, .inl rfl, Below.refl _ _⟩
  case round =>
    obtain ⟨k, x, rfl, rfl, hk, hx, hor, hb⟩ := hrel
    by_cases hlt : k < len
    · obtain ⟨b, o, rfl, hbl, hc⟩ : ∃ b o : Nat, a = some ⟨b, o, none⟩ ∧ b < w.heap.size ∧ ∀ t, t < len → RowAt w b (o + t * 3) (L.getD t R.zero) := by
        rcases HC.out with h0 | h0
        · omega
        · exact h0
      obtain ⟨r, hr⟩ : ∃ r, r = L.getD k R.zero := ⟨_, rfl⟩
      have hcr : RowAt w b (o + k * 3) r := by rw [hr]; exact hc k hlt
      have HCR := Lib.hid hcr
      have HR := Lib.hid hr
      clear hr hc hcr
      go_wp2_with fail
      refine (sare _ len cap L _ (HI.out.keep hb.out) (by omega)).mono ?_
      rintro e w1 ⟨rfl, b1⟩
      have B1 := Lib.hid (hb.out.trans (b1.mono hb.out.size))
      clear b1
      obtain ⟨c0, c1, c2⟩ := HCR.out.below B1.out hbl
      cases hok : okRows L with
      | false =>
        have hk0 : k = 0 := by rcases hor.out with h | h; exact h; rw [hok] at h; cases h
        subst hk0
        have hx0 : x = [] := hx.out
        subst hx0
        have HF : Hid (fmtRows L = []) := by show _ = _; unfold fmtRows; rw [hok]; rfl
        clear hok
        go_wp2_with fail
        go_ret
        exact ⟨by rw [HF.out]; rfl, B1.out⟩
      | true =>
        have h24 := okRows_length hok
        have hxl : x.length ≤ 216 := by
          rw [hx.out]
          have := join_fmt_length (L.take k)
          rw [List.length_take] at this
          omega
        have HN := Lib.hid (join_next L k (by rw [HL.out]; exact hlt))
        rw [← HR.out] at HN
        have hfl := fmt_length r
        have HOK := Lib.hid hok
        clear hok
        by_cases hk0 : k = 0
        · subst hk0
          have hx0 : x = [] := hx.out
          subst hx0
          simp only [Nat.zero_mul, Nat.add_zero] at c0 c1 c2
          go_wp2_with fail
          refine (sfrow r _).mono ?_
          rintro e w2 ⟨rfl, b2⟩
          have B2 := Lib.hid (B1.out.trans (b2.mono B1.out.size))
          clear b2
          have n1 : ¬ 9223372036854775807 < r.fmt.length := by omega
          go_wp2_with fail
          go_roundw
          case rel =>
            refine ⟨1, r.fmt, by first | rfl | simp, rfl, by omega, ?_, .inr HOK.out, B2⟩
            show _ = _
            have := HN.out
            rw [if_pos trivial] at this
            exact this.symm
          case measure => simp [RowKit.intOf]; omega
        · have hpos : (0 : Int) < k := by omega
          have n0 : ¬ 9223372036854775807 < x.length + 1 := by omega
          go_wp2_with fail
          refine (sfrow r _).mono ?_
          rintro e w2 ⟨rfl, b2⟩
          have B2 := Lib.hid (B1.out.trans (b2.mono B1.out.size))
          have n1 : ¬ 9223372036854775807 < x.length + 1 + r.fmt.length := by omega
          clear b2
          go_wp2_with fail
          go_roundw
          case rel =>
            refine ⟨k + 1, x ++ [32] ++ r.fmt, by rw [← cat3], by go_num, by omega, ?_, .inr HOK.out, B2⟩
            show _ = _
            rw [HN.out, if_neg hk0, hx.out]
          case measure => simp [RowKit.intOf]; omega
    · have hkl : k = len := by omega
      have hfin : fmtRows L = x := by
        have hx' := hx.out
        rw [hkl, ← HL.out, List.take_length] at hx'
        rcases hor.out with h | h
        · have : L = [] := List.eq_nil_of_length_eq_zero (by rw [HL.out]; omega)
          subst this
          rw [hx']; rfl
        · unfold fmtRows; rw [if_pos h, hx']
      have HA := Lib.hid hfin
      have hd : decide ((k : Int) < (len : Int)) = false := decide_eq_false (by omega)
      clear hfin hkl
      go_wp2_with fail
      go_ret
      exact ⟨by rw [HA.out]; rfl, hb.out⟩
end Go.Proofs.YtpnbnbhifpcelaaDoor
/- Functions of rows, the reference's: told by trees. -/
namespace Go.Proofs.YtpnbnbhifpcelaaDoor
open Go Go.RowKit V
set_option linter.unusedVariables false
theorem oneM {vs : List Value} (h : vs.all (fun u => u.oneCell') = true) : ∀ u ∈ vs, u.oneCell' = true := fun u hu => List.all_eq_true.1 h u hu
theorem VC.rowsP {P : Program} {f : FuncId} {L : List R} {ag : Bool} {rs : List Value} (h1 : rs.all (fun u => u.oneCell') = true) (hL : ∀ r ∈ L, r.wf)
    (h : ∀ (w : World) (a : Option Addr) (c : Nat), IsRows w a L.length L → Calls P f #[.slice a L.length c] w fun e w' => e = .returned (cval ag rs) ∧ Below w.heap.size w w') : VC P f [(false, [.seq 50 (L.map tRow)])] false [(ag, rs.map T.lit)] := fun w vs hv => by
  obtain ⟨k, vs', rfl, h2, h3⟩ := hv.shape (Fits.slice 50 Fits.row) hL
  rw [h3.none]
  have e : k.2.1 = L.length := h2.1.1.symm
  have h4 := h w k.1 k.2.2 (e ▸ rows_in h2.1)
  rw [← e] at h4
  exact h4.mono fun e w' he => Gives.plain (oneM h1) he
theorem vares_t (L : List R) (hL : ∀ r ∈ L, r.wf) (hl : L.length ≤ 1000000000) : VC Tryd.prog 31 [(false, [.seq 50 (L.map tRow)])] false [(false, [.lit (.bool (okRows L))])] := VC.rowsP (ag := false) (rs := [.bool (okRows L)]) rfl hL fun w a c h => sare a _ c L w h (by omega)
theorem vtotal_t (L : List R) (hL : ∀ r ∈ L, r.wf) (hl : L.length ≤ 1000000000) : VC Tryd.prog 20 [(false, [.seq 50 (L.map tRow)])] false [(false, [.lit (.int .i64 (total L))])] := VC.rowsP (ag := false) (rs := [.int .i64 (total L)]) rfl hL fun w a c h => stotal a _ c L w h (by omega)
theorem vasc_t (L : List R) (hL : ∀ r ∈ L, r.wf) (hl : L.length ≤ 1000000000) : VC Tryd.prog 38 [(false, [.seq 50 (L.map tRow)])] false [(false, [.lit (.bool (R.asc L))])] := VC.rowsP (ag := false) (rs := [.bool (R.asc L)]) rfl hL fun w a c h => sasc a _ c L w h (by omega)
theorem vfrows_t (L : List R) (hL : ∀ r ∈ L, r.wf) (hl : L.length ≤ 1000000000) : VC Tryd.prog 41 [(false, [.seq 50 (L.map tRow)])] false [(false, [.lit (.string ⟨(fmtRows L).toArray⟩)])] := VC.rowsP (ag := false) (rs := [.string ⟨(fmtRows L).toArray⟩]) rfl hL fun w a c h => sfrows a _ c L w h (by omega)
theorem vcmp_t (a b : R) : VC Tryd.prog 34 [(true, tRow a), (true, tRow b)] false [(false, [.lit (.int .i64 (R.cmp a b))])] :=
  VC.plain (ins := [(true, [.int .i64 a.key, .int .i64 a.value, .int .i64 a.width]), (true, [.int .i64 b.key, .int .i64 b.value, .int .i64 b.width])]) (ag := false) (rs := [.int .i64 (R.cmp a b)]) (oneM rfl) fun w => scmp a b w
theorem vcost_t (a : R) (ha : a.wf) : VC Tryd.prog 33 [(true, tRow a)] false [(false, [.lit (.int .i64 a.cost)])] :=
  VC.plain (ins := [(true, [.int .i64 a.key, .int .i64 a.value, .int .i64 a.width])]) (ag := false) (rs := [.int .i64 a.cost]) (oneM rfl) fun w => scost a ha w
end Go.Proofs.YtpnbnbhifpcelaaDoor
/- Operations that are passed over because the operation that guards them was passed over. -/
namespace Go.Proofs.YtpnbnbhifpcelaaDoor.V
open Go Go.RowKit
set_option linter.unusedVariables false
variable {P : Program} {E : Env} {N nb : Nat} {σ σ' τ : VS} {o : Oper} {a : Act} {w : World} {G : Ghost} {Q : Exit → Act → World → Prop} {K : Act → World → Prop}
abbrev V.no : V := ⟨true, []⟩
end Go.Proofs.YtpnbnbhifpcelaaDoor.V
/- A state told anew in short words: only the slots and objects that are still wanted. -/
namespace Go.Proofs.YtpnbnbhifpcelaaDoor.V
open Go Go.RowKit
set_option linter.unusedVariables false
def lookV : List (Nat × V) → Nat → V
  | [], _ => V.one .dead
  | (d, v) :: L, s => bif Nat.beq s d then v else lookV L s
def lookO : List (Nat × Nat × T) → Nat → Option (Nat × T)
  | [], _ => none
  | (d, v, t) :: L, i => bif Nat.beq i d then some (v, t) else lookO L i
abbrev VS.of (L : List (Nat × V)) (B : List (TypeId × List Leaf)) (O : List (Nat × Nat × T)) (n : Nat) : VS := ⟨lookV L, B, lookO O, n⟩
def allV (σ : VS) : List (Nat × V) → Prop
  | [] => True
  | (d, v) :: L => σ.tm d = v ∧ allV σ L
def allO (σ : VS) : List (Nat × Nat × T) → Prop
  | [] => True
  | (i, v, t) :: L => σ.ob i = some (v, t) ∧ allO σ L
end Go.Proofs.YtpnbnbhifpcelaaDoor.V
/- Rows and runs compared, the laws' own functions: told by trees. -/
namespace Go.Proofs.YtpnbnbhifpcelaaDoor
open Go Go.RowKit V
set_option linter.unusedVariables false
theorem vsame11 (L : List R) (hL : ∀ r ∈ L, r.wf) (hl : L.length ≤ 1000000000) : VC Tryd.prog 17 [(false, [.seq 50 (L.map tRow)]), (false, [.seq 50 (L.map tRow)])] false [(false, [.lit (.bool true)])] := fun w vs hv => by
  obtain ⟨k, vs', rfl, h1, h2⟩ := hv.shape (Fits.slice 50 Fits.row) hL
  obtain ⟨q, vs', rfl, h4, h5⟩ := h2.shape (Fits.slice 50 Fits.row) hL
  rw [h5.none]
  have e : k.2.1 = L.length := h1.1.1.symm
  exact (samerows k.1 q.1 k.2.1 k.2.2 q.2.1 q.2.2 L w (rows_in h1.1) (rows_in h4.1) (by omega)).mono fun e w' he => Gives.plain (ag := false) (rs := [.bool true]) (oneM rfl) he
theorem vbags11 (L M : List R) (hL : ∀ r ∈ L, r.wf) (hM : ∀ r ∈ M, r.wf) (hl : L.length ≤ 1000000000) (hm : M.length ≤ 1000000000) : VC Tryd.prog 21 [(false, [.seq 50 (L.map tRow)]), (false, [.seq 50 (M.map tRow)])] false [(false, [.lit (.bool (R.eqBags L M))])] := fun w vs hv => by
  obtain ⟨k, vs', rfl, h1, h2⟩ := hv.shape (Fits.slice 50 Fits.row) hL
  obtain ⟨q, vs', rfl, h4, h5⟩ := h2.shape (Fits.slice 50 Fits.row) hM
  rw [h5.none]
  have e : k.2.1 = L.length := h1.1.1.symm
  have e' : q.2.1 = M.length := h4.1.1.symm
  exact (seqbags k.1 q.1 k.2.1 k.2.2 q.2.1 q.2.2 L M w (rows_in h1.1) (rows_in h4.1) (by omega) (by omega)).mono fun e w' he => Gives.plain (ag := false) (rs := [.bool (R.eqBags L M)]) (oneM rfl) he
set_option maxRecDepth 100000 in
set_option maxHeartbeats 2000000 in
theorem vsamer11 (X : List (List R)) (hW : ∀ p ∈ X, ∀ r ∈ p, r.wf) (hp : ∀ p ∈ X, p.length ≤ 1000000000) (hX : X.length ≤ 1000000000) : VC Tryd.prog 10 [(false, [.seq 39 ((X).map tRun)]), (false, [.seq 39 ((X).map tRun)])] false [(false, [.lit (.bool true)])] := by
  refine VC.enter Tryd.func10 rfl Tryd.ntmps10 (gle rfl) fun E hE => ?_
  refine SV.seq' ?_
  refine SV.region ?_
  refine SV.op (OpL.ok (nb := 0) (ok_move (v := V.one (.sc _)) (.inr rfl) rfl) rfl (gle rfl)) rfl ?_
  refine SV.nil ?_
  refine SV.tn ?_
  refine SV.seq' ?_
  refine SV.seq' ?_
  refine SV.region ?_
  refine SV.op (OpL.ok (nb := 0) (ok_move (v := V.one (.ro _)) (.inl rfl) rfl) rfl (gle rfl)) rfl ?_
  refine SV.op (OpL.ok (nb := 0) (ok_len (lf := .ro _) rfl elt_impl_Run.und rfl rfl) rfl (gle rfl)) rfl ?_
  refine SV.op (OpL.ok (nb := 0) (ok_move (v := V.one (.ro _)) (.inl rfl) rfl) rfl (gle rfl)) rfl ?_
  refine SV.op (OpL.ok (nb := 0) (ok_len (lf := .ro _) rfl elt_impl_Run.und rfl rfl) rfl (gle rfl)) rfl ?_
  refine SV.op (OpL.ok (nb := 0) (ok_s2 (x := .tmp 7) (x' := .tmp 9) (VScal.one rfl) (VScal.one rfl) (fun ρ h1 h2 w => by go_simp; (try go_bits); with_reducible rfl) rfl) rfl (gle rfl)) rfl ?_
  refine SV.nil ?_
  refine SV.tn ?_
  refine SV.cond rfl (fun hc0 => ?_) (fun hc0 => ?_)
  · skip   -- c0.T
    simp at hc0
  · skip   -- c0.F
    refine SV.skip ?_
    refine SV.tn ?_
    refine SV.seq' ?_
    refine SV.seq' ?_
    refine SV.region ?_
    refine SV.op (OpL.ok (nb := 0) (ok_move (v := V.one (.sc _)) (.inr rfl) rfl) rfl (gle rfl)) rfl ?_
    refine SV.nil ?_
    refine SV.tn ?_
    refine SV.block ?_
    refine SV.loopF (X := Nat) (fun (σ : VS) t => ((((VS.nil.put 0 (σ.tm 0)).put 1 (σ.tm 1)).put 4 (σ.tm 4)).put 5 (V.flat false [.sc (.int .i64 ((t : Int)))]))) (fun t => t ≤ X.length) (fun t => X.length - t) ?_ ?_
    · skip
      refine SV.again (fun i => [].getD i 0) 0 ((by first | exact Nat.zero_le _ | (refine ⟨Nat.zero_le _, ?_⟩; simp; done) | (simp; done) | omega)) (pins hE rfl rfl) (VS.le.mk' (le_put (le_put (le_put (le_put le_nil (V.le.keep (ag := false) (xs := [.ro _]) (ys := [.ro _]) rfl rfl ⟨rfl, trivial⟩)) (V.le.keep (ag := false) (xs := [.ro _]) (ys := [.ro _]) rfl rfl ⟨rfl, trivial⟩)) (V.le.keep (ag := false) (xs := [.sc _]) (ys := [.sc _]) rfl rfl ⟨rfl, trivial⟩)) (V.le.keep (ag := false) (xs := [.sc _]) (ys := [.sc _]) rfl rfl ⟨(by first | rfl | (show Leaf.sc _ = Leaf.sc _; refine congrArg Leaf.sc ?_; first | rfl | go_num | (simp [cntAll]; done)) | (simp [cntAll]; done) | (simp; omega)), trivial⟩)) trivial trivial nil_ob (fun i j hi hj e => absurd hi (Nat.not_lt_zero i)))
    · rintro t ht
      refine SV.seq' ?_
      refine SV.seq' ?_
      refine SV.region ?_
      refine SV.op (OpL.ok (nb := 0) (ok_move (v := V.one (.sc _)) (.inl rfl) rfl) rfl (gle rfl)) rfl ?_
      refine SV.op (OpL.ok (nb := 0) (ok_move (v := V.one (.ro _)) (.inl rfl) rfl) rfl (gle rfl)) rfl ?_
      refine SV.op (OpL.ok (nb := 0) (ok_len (lf := .ro _) rfl elt_impl_Run.und rfl rfl) rfl (gle rfl)) rfl ?_
      refine SV.op (OpL.ok (nb := 0) (ok_s2 (x := .tmp 11) (x' := .tmp 13) (VScal.one rfl) (VScal.one rfl) (fun ρ h1 h2 w => by go_simp; (try go_bits); with_reducible rfl) rfl) rfl (gle rfl)) rfl ?_
      refine SV.nil ?_
      refine SV.tn ?_
      refine SV.cond rfl (fun hc1 => ?_) (fun hc1 => ?_)
      · skip   -- c1.T
        have htl : t < X.length := by simpa using hc1
        obtain ⟨p, hx⟩ : ∃ p, X[t]? = some p := ⟨_, List.getElem?_eq_getElem htl⟩
        refine SV.skip ?_
        refine SV.tn ?_
        refine SV.seq' ?_
        refine SV.block ?_
        refine SV.seq' ?_
        refine SV.draw [.q 0, .q 1, .q 2, .q 3, .q 4, .q 5, .q 6, .q 7, .q 8, .q 9, .m 10, .q 11] [] (by kernel_rfl) (by kernel_rfl) ?_
        refine DW.q rfl (ok_move (v := V.one (.ro _)) (.inl rfl) rfl) rfl rfl (gle rfl) (fun _ _ _ _ h => h) ?_
        refine DW.q rfl (ok_move (v := V.one (.sc _)) (.inl rfl) rfl) rfl rfl (gle rfl) (fun _ _ _ _ h => h) ?_
        refine DW.q rfl (ok_index (n := 1) (lf := .ro _) rfl elt_impl_Run.und sz_impl_Run rfl rfl rfl (map_at hx)) rfl rfl (gle rfl) (fun _ _ _ _ h => h) ?_
        refine DW.q rfl (ok_field_el (p := .rp _) (off := 0) rfl rfl rfl fld_impl_Run_0) rfl rfl (gle rfl) (fun _ _ _ _ h => h) ?_
        refine DW.q rfl (ok_load_rp (ag := false) (m := 1) (ys := [.ro _]) rfl rfl agg_s_impl_Row sz_s_impl_Row (fun _ => rfl) (gle rfl) rfl) rfl rfl (gle rfl) (fun _ _ _ _ h => h) ?_
        refine DW.q rfl (ok_move (v := V.one (.ro _)) (.inl rfl) rfl) rfl rfl (gle rfl) (fun _ _ _ _ h => h) ?_
        refine DW.q rfl (ok_move (v := V.one (.sc _)) (.inl rfl) rfl) rfl rfl (gle rfl) (fun _ _ _ _ h => h) ?_
        refine DW.q rfl (ok_index (n := 1) (lf := .ro _) rfl elt_impl_Run.und sz_impl_Run rfl rfl rfl (map_at hx)) rfl rfl (gle rfl) (fun _ _ _ _ h => h) ?_
        refine DW.q rfl (ok_field_el (p := .rp _) (off := 0) rfl rfl rfl fld_impl_Run_0) rfl rfl (gle rfl) (fun _ _ _ _ h => h) ?_
        refine DW.q rfl (ok_load_rp (ag := false) (m := 1) (ys := [.ro _]) rfl rfl agg_s_impl_Row sz_s_impl_Row (fun _ => rfl) (gle rfl) rfl) rfl rfl (gle rfl) (fun _ _ _ _ h => h) ?_
        refine DW.m [] rfl (ok_call (ls := [(false, [.sc _])]) rfl rfl ⟨_, _, Tryd.func17, rfl, by decide⟩ (vsame11 p (hW p (List.mem_of_getElem? hx)) (hp p (List.mem_of_getElem? hx))) ⟨⟨[.ro _], rfl, ⟨rfl, trivial⟩⟩, ⟨[.ro _], rfl, ⟨rfl, trivial⟩⟩, trivial⟩ rfl (gle rfl)) rfl (gle rfl) (gle rfl) (.inl rfl) (fun j hj => by cases hj) ?_
        refine DW.q rfl (ok_s1 (x := .tmp 27) (VScal.one rfl) (fun ρ h1 w => by go_simp; (try go_bits); with_reducible rfl) rfl) rfl rfl (gle rfl) (fun _ _ _ _ h => h) ?_
        refine DW.stores ?_
        refine SV.zend ?_
        refine SV.tn ?_
        refine SV.cond rfl (fun hc2 => ?_) (fun hc2 => ?_)
        · skip   -- c2.T
          simp at hc2
        · skip   -- c2.F
          refine SV.skip ?_
          refine SV.bn ?_
          refine SV.tn ?_
          refine SV.region ?_
          refine SV.op (OpL.ok (nb := 0) (ok_move (v := V.one (.sc _)) (.inl rfl) rfl) rfl (gle rfl)) rfl ?_
          refine SV.op (OpL.ok (nb := 0) (ok_s2 (x := .tmp 15) (x' := .const ((Value.int IntKind.i64 1))) (VScal.one rfl) (VScal.one rfl) (fun ρ h1 h2 w => by go_simp; (try go_bits); with_reducible rfl) rfl) rfl (gle rfl)) rfl ?_
          refine SV.op (OpL.ok (nb := 0) (ok_move (v := V.one (.sc _)) (.inr rfl) rfl) rfl (gle rfl)) rfl ?_
          refine SV.nil ?_
          refine SV.tn ?_
          refine SV.again (fun i => [].getD i 0) (t + 1) (⟨by omega, by omega⟩) (pins hE rfl rfl) (VS.le.mk' (le_put (le_put (le_put (le_put le_nil (V.le.keep (ag := false) (xs := [.ro _]) (ys := [.ro _]) rfl rfl ⟨rfl, trivial⟩)) (V.le.keep (ag := false) (xs := [.ro _]) (ys := [.ro _]) rfl rfl ⟨rfl, trivial⟩)) (V.le.keep (ag := false) (xs := [.sc _]) (ys := [.sc _]) rfl rfl ⟨rfl, trivial⟩)) (V.le.keep (ag := false) (xs := [.sc _]) (ys := [.sc _]) rfl rfl ⟨(by first | rfl | (show Leaf.sc _ = Leaf.sc _; refine congrArg Leaf.sc ?_; first | rfl | go_num | (simp [cntAll]; done)) | (simp [cntAll]; done) | (simp; omega)), trivial⟩)) trivial trivial nil_ob (fun i j hi hj e => absurd hi (Nat.not_lt_zero i)))
      · skip   -- c1.F
        refine SV.exit ?_
        refine SV.te ?_
        refine SV.te ?_
        refine SV.bh ?_
        refine SV.tn ?_
        refine SV.seq' ?_
        refine SV.region ?_
        refine SV.op (OpL.ok (nb := 0) (ok_move (v := V.one (.sc _)) (.inr rfl) rfl) rfl (gle rfl)) rfl ?_
        refine SV.nil ?_
        refine SV.tn ?_
        refine SV.ret ?_
        apply SV.done (hf := Tryd.results10) (ht := rfl) (he := .inl rfl)
        case hr => exact (ResAll.cons (ResOk.tmp (ag := false) (xs := [.sc _]) rfl) ResAll.nil')
        case h2 => simp [two]
        refine ⟨rfl, ⟨?_, trivial⟩, trivial⟩ <;> rfl
end Go.Proofs.YtpnbnbhifpcelaaDoor
/- The reader of the drawn code (l1New, l1Byte, l1Below): what it answers and what it leaves alone. -/
namespace Go.Proofs.YtpnbnbhifpcelaaDoor
open Go.RowKit
def IsRow (k : IntKind) (w : World) (a : Option Addr) (len cap : Nat) (zs : List Int) : Prop :=
  (a = none ∧ len = 0 ∧ cap = 0 ∧ zs = []) ∨
  ∃ x, a = some x ∧ len ≤ cap ∧ cap ≤ maxLen ∧ zs.length = cap ∧ (∀ i, i < zs.length → w.cell? (x.add i) = some (.int k (zs.getD i 0))) ∧ ∀ n ∈ zs, (Lit.int k n).wf = true
structure Cur (a : Option Addr) (len cap : Nat) (zs : List Int) (σ : Int × Int) (w : World) (c : Nat) : Prop where
  row : IsRow .u8 w a len cap zs
  apart : ∀ x, a = some x → 0 < cap → x.block ≠ c
  low : 0 ≤ σ.1
  high : σ.1 ≤ len
  cell : w.heap[c]? = some (.cells #[.slice a len cap, .int .i64 σ.1, .int .i64 σ.2] 64 (0, 0))
theorem IsRow.keep {k : IntKind} {w w' : World} {a : Option Addr} {len cap : Nat} {zs : List Int} (h : IsRow k w a len cap zs) (hk : ∀ x, a = some x → 0 < cap → x.block < w.heap.size → w'.heap[x.block]? = w.heap[x.block]?) : IsRow k w' a len cap zs := by
  rcases h with h | ⟨x, rfl, h1, h2, h3, h4, h5⟩
  · exact .inl h
  · refine .inr ⟨x, rfl, h1, h2, h3, fun i hi => ?_, h5⟩
    have hc := h4 i hi
    have hb : (x.add i).block = x.block := by by_cases h0 : i = 0 <;> simp [Addr.add, h0]
    rw [← hc]
    have hlt : x.block < w.heap.size := by rw [← hb]; exact World.block_lt_of_cell? w _ hc
    exact World.cell?_of_block (by rw [hb]; exact hk x rfl (by omega) hlt)
theorem Cur.lt {a : Option Addr} {len cap : Nat} {zs : List Int} {σ : Int × Int} {w : World} {c : Nat} (h : Cur a len cap zs σ w c) : c < w.heap.size := by
  have hb := h.cell
  rcases Nat.lt_or_ge c w.heap.size with hlt | hge
  · exact hlt
  · rw [Array.getElem?_eq_none hge] at hb; cases hb
theorem Cur.below {a : Option Addr} {len cap : Nat} {zs : List Int} {σ : Int × Int} {w w' : World} {c B : Nat} (h : Cur a len cap zs σ w c) (hb : Below B w w') (hc : c < B) (ha : ∀ x, a = some x → 0 < cap → x.block < B) : Cur a len cap zs σ w' c :=
  ⟨h.row.keep fun x hx hp _ => hb.block x.block (ha x hx hp), h.apart, h.low, h.high, (hb.block c hc).trans h.cell⟩
theorem Cur.same {a : Option Addr} {len cap : Nat} {zs : List Int} {σ : Int × Int} {w w' : World} {c : Nat} (h : Cur a len cap zs σ w c) (hh : w'.heap = w.heap) : Cur a len cap zs σ w' c :=
  ⟨h.row.keep fun x _ _ _ => by rw [hh], h.apart, h.low, h.high, by rw [hh]; exact h.cell⟩
theorem Cur.alloc {a : Option Addr} {len cap : Nat} {zs : List Int} {σ : Int × Int} {w : World} {c : Nat} (h : Cur a len cap zs σ w c) (o : Obj) : Cur a len cap zs σ (w.alloc o) c :=
  ⟨h.row.keep fun x _ _ hlt => Below.heap_alloc w o x.block hlt, h.apart, h.low, h.high, (Below.heap_alloc w o c h.lt).trans h.cell⟩
theorem Cur.only {a : Option Addr} {len cap : Nat} {zs : List Int} {σ : Int × Int} {w w' : World} {c : Nat} (h : Cur a len cap zs σ w c) (ho : Only c w w') (τ : Int × Int) (h1 : 0 ≤ τ.1) (h2 : τ.1 ≤ len)
    (hb : w'.heap[c]? = some (.cells #[.slice a len cap, .int .i64 τ.1, .int .i64 τ.2] 64 (0, 0))) : Cur a len cap zs τ w' c :=
  ⟨h.row.keep fun x hx hp hlt => ho.block x.block hlt (fun e => h.apart x hx hp (by injection e)), h.apart, h1, h2, hb⟩
theorem and255 (y : Int) : 0 ≤ bits .and .i64 y 255 ∧ bits .and .i64 y 255 ≤ 255 := by
  show 0 ≤ IntKind.i64.wrap ((BitVec.ofInt 64 y &&& BitVec.ofInt 64 255).toNat : Int) ∧ IntKind.i64.wrap ((BitVec.ofInt 64 y &&& BitVec.ofInt 64 255).toNat : Int) ≤ 255
  have h : (BitVec.ofInt 64 y &&& BitVec.ofInt 64 255).toNat ≤ 255 := by
    rw [BitVec.toNat_and]
    exact Nat.le_trans Nat.and_le_right (by decide)
  rw [IntKind.wrap_i64]
  omega
end Go.Proofs.YtpnbnbhifpcelaaDoor
/- l1Byte: a number from 0 to 255; the cursor is moved on; nothing else changes. -/
namespace Go.Proofs.YtpnbnbhifpcelaaDoor
open Go.RowKit
def nextH (h : Int) : Int := wrap64 (wrap64 (h * 6364136223846793005) + 1442695040888963407)
def mixed (q : Int) : Int := bits BinOp.and IntKind.i64 (bits BinOp.xor IntKind.i64 (q / 8589934592) (q / 35184372088832)) 255
def byteS (zs : List Int) (len : Nat) (σ : Int × Int) : Int × (Int × Int) :=
  if σ.1 < len then (bits BinOp.and IntKind.i64 (wrap64 (mixed (nextH σ.2) + zs.getD σ.1.toNat 0)) 255, (σ.1 + 1, nextH σ.2)) else (mixed (nextH σ.2), (σ.1, nextH σ.2))
theorem byteS_range {zs : List Int} {len : Nat} {σ τ : Int × Int} {x : Int} (h : byteS zs len σ = (x, τ)) : 0 ≤ x ∧ x ≤ 255 := by
  have hx : x = (byteS zs len σ).1 := by rw [h]
  rw [hx]; unfold byteS mixed
  split <;> exact and255 _
def Drawn (F : Int × Int → Int × (Int × Int)) (a : Option Addr) (len cap : Nat) (zs : List Int) (σ : Int × Int) (c : Nat) (w : World) (e : Ending) (w' : World) : Prop :=
  ∃ (x : Int) (τ : Int × Int), F σ = (x, τ) ∧ e = .returned (.int .i64 x) ∧ Cur a len cap zs τ w' c ∧ Only c w w'
set_option maxRecDepth 100000 in
theorem byte_end (a : Option Addr) (len cap : Nat) (zs : List Int) (c : Nat) (w : World) (i h : Int) (hc : Cur a len cap zs (i, h) w c) (hi0 : 0 ≤ i) (hlast : ¬ i < len) (hil : i ≤ len)
    (hb : w.heap[c]? = some (.cells #[.slice a len cap, .int .i64 i, .int .i64 h] 64 (0, 0))) :
    Calls Tryd.prog 64 #[.pointer (some ⟨c, 0, none⟩)] w (Drawn (byteS zs len) a len cap zs (i, h) c w) := by
  have c0 : w.cell? ⟨c, 0, none⟩ = some (.slice a len cap) := by simp [World.cell?, hb]
  have c1 : w.cell? ⟨c, 1, none⟩ = some (.int .i64 i) := by simp [World.cell?, hb]
  have c2 : w.cell? ⟨c, 2, none⟩ = some (.int .i64 h) := by simp [World.cell?, hb]
  have f2 : w.frozen? ⟨c, 2, none⟩ = false := by simp [World.frozen?, hb]
  have HB := Lib.hid hb
  have HC := Lib.hid hc
  clear hb hc
  go_enter Tryd.func64, Tryd.ntmps64
  go_wp2_with fail
  obtain ⟨q, hq⟩ : ∃ q, q = wrap64 (wrap64 (h * 6364136223846793005) + 1442695040888963407) := ⟨_, rfl⟩
  rw [← hq]
  have HQ : Hid (q = nextH h) := hq
  clear hq
  go_quiet (fail)
  go_wp2_with fail
  go_quiet (fail)
  go_wp2_with fail
  go_ret
  have ho : Only c w ((w.setCell ⟨c, 2, none⟩ (.int .i64 q)).drewN 0) := ((Only.refl c w).setCell 2 _).drewN _
  have hheap := heap_setCell_same w c 2 _ _ (.int .i64 q) HB.out
  refine ⟨_, (i, q), ?_, rfl, HC.out.only ?_ (i, q) hi0 hil ?_, ?_⟩
  · unfold byteS
    rw [if_neg (by exact Int.not_lt.2 hlast), HQ.out]
    rfl
  · exact ⟨ho.os, ho.tape, ho.output, ho.size, ho.block⟩
  · exact hheap.trans (by simp)
  · exact ⟨ho.os, ho.tape, ho.output, ho.size, ho.block⟩
set_option maxRecDepth 100000 in
theorem byte_more (b off : Nat) (len cap : Nat) (zs : List Int) (c : Nat) (w : World) (t : Nat) (h : Int) (hc : Cur (some ⟨b, off, none⟩) len cap zs ((t : Int), h) w c) (hlt : t < len) (hl63 : len ≤ 9223372036854775807) (z : Int) (hzz : z = zs.getD t 0) (hz0 : 0 ≤ z) (hz1 : z ≤ 255)
    (hcell : w.cell? ⟨b, off + t, none⟩ = some (.int .u8 z)) (hbc : ¬ b = c)
    (hb : w.heap[c]? = some (.cells #[.slice (some ⟨b, off, none⟩) len cap, .int .i64 (t : Int), .int .i64 h] 64 (0, 0))) :
    Calls Tryd.prog 64 #[.pointer (some ⟨c, 0, none⟩)] w (Drawn (byteS zs len) (some ⟨b, off, none⟩) len cap zs ((t : Int), h) c w) := by
  have HZ := Lib.hid hzz
  clear hzz
  have c0 : w.cell? ⟨c, 0, none⟩ = some (.slice (some ⟨b, off, none⟩) len cap) := by simp [World.cell?, hb]
  have c1 : w.cell? ⟨c, 1, none⟩ = some (.int .i64 (t : Int)) := by simp [World.cell?, hb]
  have c2 : w.cell? ⟨c, 2, none⟩ = some (.int .i64 h) := by simp [World.cell?, hb]
  have f2 : w.frozen? ⟨c, 2, none⟩ = false := by simp [World.frozen?, hb]
  have f1 : w.frozen? ⟨c, 1, none⟩ = false := by simp [World.frozen?, hb]
  have hti : (t : Int) < len := by omega
  have ht0 : (0 : Int) ≤ t := by omega
  have HB := Lib.hid hb
  have HC := Lib.hid hc
  clear hb hc
  go_enter Tryd.func64, Tryd.ntmps64
  go_wp2_with fail
  obtain ⟨q, hq⟩ : ∃ q, q = wrap64 (wrap64 (h * 6364136223846793005) + 1442695040888963407) := ⟨_, rfl⟩
  rw [← hq]
  have HQ : Hid (q = nextH h) := hq
  clear hq
  go_quiet (fail)
  go_wp2_with fail
  obtain ⟨y, hy⟩ : ∃ y, y = bits BinOp.and IntKind.i64 (bits BinOp.xor IntKind.i64 (q / 8589934592) (q / 35184372088832)) 255 := ⟨_, rfl⟩
  rw [← hy]
  have HY : Hid (y = mixed q) := hy
  clear hy
  go_quiet (fail)
  go_wp2_with fail
  go_quiet (fail)
  go_wp2_with fail
  go_ret
  have hheap := heap_setCell_same w c 2 _ _ (.int .i64 q) HB.out
  refine ⟨_, ((t : Int) + 1, q), ?_, rfl, ?_, (((Only.refl c w).setCell 2 _).drewN _).setCell 1 _⟩
  · unfold byteS
    rw [if_pos hti, ← HQ.out, ← HY.out, Int.toNat_natCast, ← HZ.out]
  refine HC.out.only ((((Only.refl c w).setCell 2 _).drewN _).setCell 1 _) ((t : Int) + 1, q) (by show 0 ≤ (t : Int) + 1; omega) (by show (t : Int) + 1 ≤ len; omega) ?_
  exact (heap_setCell_same _ c 1 _ _ (.int .i64 ((t : Int) + 1)) (by simpa using hheap)).trans (by simp)
theorem byte_any (a : Option Addr) (len cap : Nat) (zs : List Int) (σ : Int × Int) (c : Nat) (w : World) (hc : Cur a len cap zs σ w c) :
    Calls Tryd.prog 64 #[.pointer (some ⟨c, 0, none⟩)] w (Drawn (byteS zs len) a len cap zs σ c w) := by
  obtain ⟨i, h⟩ := σ
  have hi0 : 0 ≤ i := hc.low
  have hil : i ≤ len := hc.high
  have hb := hc.cell
  by_cases hlt : i < len
  · rcases hc.row with ⟨rfl, rfl, rfl, rfl⟩ | ⟨x, rfl, hlc, hm, hz, hcell, hwz⟩
    · omega
    · obtain ⟨t, rfl⟩ : ∃ t : Nat, i = (t : Int) := ⟨i.toNat, by omega⟩
      have hct := hcell t (by omega)
      obtain ⟨b, off, spot⟩ := x
      have hspot : spot = none := by simpa [Addr.add] using World.cell?_spot (hcell 0 (by omega))
      subst hspot
      have hct' : w.cell? ⟨b, off + t, none⟩ = some (.int .u8 (zs.getD t 0)) := by
        by_cases h0 : t = 0
        · subst h0; simpa [Addr.add] using hct
        · simpa [Addr.add, h0] using hct
      have hbd := bounds_u8 (hwz (zs.getD t 0) (by
        rw [List.getD_eq_getElem?_getD, List.getElem?_eq_getElem (by omega)]
        exact List.getElem_mem _))
      unfold maxLen at hm
      exact byte_more b off len cap zs c w t h hc (by omega) (by omega) _ rfl hbd.1 hbd.2 hct' (hc.apart _ rfl (by omega)) hb
  · exact byte_end a len cap zs c w i h hc hi0 hlt hil hb
end Go.Proofs.YtpnbnbhifpcelaaDoor
/- l1Below, l1Once, l1New: numbers below a bound; a new cursor over the code that came in. -/
namespace Go.Proofs.YtpnbnbhifpcelaaDoor
open Go.RowKit
theorem emod_small (x n : Int) (hn : 0 < n) : 0 ≤ x % n ∧ x % n < n := ⟨Int.emod_nonneg _ (by omega), Int.emod_lt_of_pos _ hn⟩
def belowS (zs : List Int) (len : Nat) (n : Int) (σ : Int × Int) : Int × (Int × Int) :=
  if n ≤ 256 then ((byteS zs len σ).1 % n, (byteS zs len σ).2)
  else
    (((byteS zs len σ).1 * 16777216 + (byteS zs len (byteS zs len σ).2).1 * 65536 + (byteS zs len (byteS zs len (byteS zs len σ).2).2).1 * 256 + (byteS zs len (byteS zs len (byteS zs len (byteS zs len σ).2).2).2).1) % n,
      (byteS zs len (byteS zs len (byteS zs len (byteS zs len σ).2).2).2).2)
theorem belowS_range {zs : List Int} {len : Nat} {n : Int} {σ τ : Int × Int} {x : Int} (hn : 1 ≤ n) (h : belowS zs len n σ = (x, τ)) : 0 ≤ x ∧ x < n := by
  have hx : x = (belowS zs len n σ).1 := by rw [h]
  rw [hx]; unfold belowS
  split <;> exact emod_small _ n (by omega)
set_option maxRecDepth 100000 in
theorem below_small (a : Option Addr) (len cap : Nat) (zs : List Int) (σ : Int × Int) (c : Nat) (w : World) (hc : Cur a len cap zs σ w c) (n : Int) (h1 : 1 ≤ n) (h2 : n ≤ 256) :
    Calls Tryd.prog 53 #[.pointer (some ⟨c, 0, none⟩), .int .i64 n] w (Drawn (belowS zs len n) a len cap zs σ c w) := by
  have HC := Lib.hid hc
  clear hc
  go_enter Tryd.func53, Tryd.ntmps53
  go_wp2_with fail
  refine (byte_any a len cap zs _ c _ HC.out).mono ?_
  rintro e w1 ⟨x, τ, hx, rfl, hc1, ho1⟩
  obtain ⟨hx0, hx1⟩ := byteS_range hx
  have H1 := Lib.hid hc1
  have HO := Lib.hid ho1
  have HX := Lib.hid hx
  clear hc1 ho1 hx
  go_wp2_with fail
  go_ret
  exact ⟨_, τ, by unfold belowS; rw [if_pos h2, HX.out], rfl, H1.out, HO.out⟩
set_option maxRecDepth 100000 in
theorem below_big (a : Option Addr) (len cap : Nat) (zs : List Int) (σ : Int × Int) (c : Nat) (w : World) (hc : Cur a len cap zs σ w c) (n : Int) (h1 : 256 < n) (h2 : n ≤ 1000000000) :
    Calls Tryd.prog 53 #[.pointer (some ⟨c, 0, none⟩), .int .i64 n] w (Drawn (belowS zs len n) a len cap zs σ c w) := by
  have HC := Lib.hid hc
  clear hc
  go_enter Tryd.func53, Tryd.ntmps53
  go_wp2_with fail
  refine (byte_any a len cap zs _ c _ HC.out).mono ?_
  rintro e w1 ⟨x1, τ1, hf1, rfl, hc1, ho1⟩
  obtain ⟨hx0, hx1⟩ := byteS_range hf1
  have F1 := Lib.hid hf1
  clear hf1
  have H1 := Lib.hid hc1
  have O1 := Lib.hid ho1
  clear hc1 ho1
  go_wp2_with fail
  refine (byte_any a len cap zs _ c _ H1.out).mono ?_
  rintro e w2 ⟨x2, τ2, hf2, rfl, hc2, ho2⟩
  obtain ⟨hy0, hy1⟩ := byteS_range hf2
  have F2 := Lib.hid hf2
  clear hf2
  have H2 := Lib.hid hc2
  have O2 := Lib.hid (O1.out.trans ho2)
  clear hc2 ho2
  go_wp2_with fail
  refine (byte_any a len cap zs _ c _ H2.out).mono ?_
  rintro e w3 ⟨x3, τ3, hf3, rfl, hc3, ho3⟩
  obtain ⟨hz0, hz1⟩ := byteS_range hf3
  have F3 := Lib.hid hf3
  clear hf3
  have H3 := Lib.hid hc3
  have O3 := Lib.hid (O2.out.trans ho3)
  clear hc3 ho3
  go_wp2_with fail
  refine (byte_any a len cap zs _ c _ H3.out).mono ?_
  rintro e w4 ⟨x4, τ4, hf4, rfl, hc4, ho4⟩
  obtain ⟨hv0, hv1⟩ := byteS_range hf4
  have F4 := Lib.hid hf4
  clear hf4
  have H4 := Lib.hid hc4
  have O4 := Lib.hid (O3.out.trans ho4)
  clear hc4 ho4
  go_wp2_with fail
  go_ret
  exact ⟨_, τ4, by unfold belowS; rw [if_neg (by omega), F1.out]; simp only []; rw [F2.out]; simp only []; rw [F3.out]; simp only []; rw [F4.out], rfl, H4.out, O4.out⟩
theorem below_any (a : Option Addr) (len cap : Nat) (zs : List Int) (σ : Int × Int) (c : Nat) (w : World) (hc : Cur a len cap zs σ w c) (n : Int) (h1 : 1 ≤ n) (h2 : n ≤ 1000000000) :
    Calls Tryd.prog 53 #[.pointer (some ⟨c, 0, none⟩), .int .i64 n] w (Drawn (belowS zs len n) a len cap zs σ c w) := by
  by_cases h : n ≤ 256
  · exact below_small a len cap zs σ c w hc n h1 h
  · exact below_big a len cap zs σ c w hc n (by omega) h2
theorem once_any (a : Option Addr) (len cap : Nat) (zs : List Int) (σ : Int × Int) (c : Nat) (w : World) (hc : Cur a len cap zs σ w c) (n : Int) (h1 : 1 ≤ n) (h2 : n ≤ 1000000000) :
    Calls Tryd.prog 45 #[.pointer (some ⟨c, 0, none⟩), .int .i64 n] w fun e w' => ∃ (x : Int) (τ : Int × Int), belowS zs len n σ = (x, τ) ∧ e = .returned (.bool (x == 0)) ∧ Cur a len cap zs τ w' c ∧ Only c w w' := by
  have HC := Lib.hid hc
  clear hc
  go_enter Tryd.func45, Tryd.ntmps45
  go_wp2_with fail
  refine (below_any a len cap zs _ c _ HC.out n h1 h2).mono ?_
  rintro e w1 ⟨x, τ, hx, rfl, hc1, ho1⟩
  have H1 := Lib.hid hc1
  have O1 := Lib.hid ho1
  have HX := Lib.hid hx
  clear hc1 ho1 hx
  go_wp2_with fail
  go_ret
  exact ⟨x, τ, HX.out, rfl, H1.out, O1.out⟩
end Go.Proofs.YtpnbnbhifpcelaaDoor
/- l1New: a new cursor over the code that came in. -/
namespace Go.Proofs.YtpnbnbhifpcelaaDoor
open Go.RowKit
theorem low30 (m : Int) (h0 : 0 ≤ m) (h1 : m < 9223372036854775808) : bits .and .i64 m 1073741823 = m % 1073741824 := by
  obtain ⟨n, rfl⟩ : ∃ n : Nat, m = (n : Int) := ⟨m.toNat, by omega⟩
  have := and64 n 1073741823 (by omega) (by omega)
  rw [show ((1073741823 : Nat) : Int) = 1073741823 from rfl] at this
  rw [this, show (1073741823 : Nat) = 2 ^ 30 - 1 from rfl, Nat.and_two_pow_sub_one_eq_mod]
  omega
def mixH (zs : List Int) (len : Nat) : Nat → Int
  | 0 => 10101 + len
  | t + 1 => (mixH zs len t * 131 + zs.getD t 0 + 7) % 1073741824
def newH (zs : List Int) (len : Nat) : Int := mixH zs len (min len 4000)
def Fresh (a : Option Addr) (len cap : Nat) (zs : List Int) (w : World) (e : Ending) (w' : World) : Prop :=
  ∃ c : Nat, e = .returned (.pointer (some ⟨c, 0, none⟩)) ∧ Cur a len cap zs (0, newH zs len) w' c ∧ w.heap.size ≤ c ∧ Below w.heap.size w w'
theorem IsRow.cells {w : World} {a : Option Addr} {len cap : Nat} {zs : List Int} (h : IsRow .u8 w a len cap zs) : len = 0 ∨ ∃ b off : Nat, a = some ⟨b, off, none⟩ ∧ ∀ t, t < len → w.cell? ⟨b, off + t, none⟩ = some (.int .u8 (zs.getD t 0)) ∧ 0 ≤ zs.getD t 0 ∧ zs.getD t 0 ≤ 255 := by
  by_cases h0 : len = 0
  · exact .inl h0
  · rcases h with ⟨_, hl, _, _⟩ | ⟨x, rfl, hlc, hm, hz, hcell, hwz⟩
    · exact absurd hl h0
    · obtain ⟨b, off, spot⟩ := x
      have hspot : spot = none := by simpa [Addr.add] using World.cell?_spot (hcell 0 (by omega))
      subst hspot
      refine .inr ⟨b, off, rfl, fun t ht => ?_⟩
      have hct := hcell t (by omega)
      have hbd := bounds_u8 (hwz (zs.getD t 0) (by
        rw [List.getD_eq_getElem?_getD, List.getElem?_eq_getElem (by omega)]
        exact List.getElem_mem _))
      refine ⟨?_, hbd⟩
      by_cases h1 : t = 0
      · subst h1; simpa [Addr.add] using hct
      · simpa [Addr.add, h1] using hct
theorem IsRow.lt {w : World} {a : Option Addr} {len cap : Nat} {zs : List Int} (h : IsRow .u8 w a len cap zs) (hp : 0 < len) : ∀ x, a = some x → x.block < w.heap.size := by
  intro x hx
  rcases h with ⟨_, hl, _, _⟩ | ⟨y, rfl, hlc, hm, hz, hcell, hwz⟩
  · omega
  · obtain rfl := Option.some.inj hx
    have := World.block_lt_of_cell? w _ (hcell 0 (by omega))
    simpa [Addr.add] using this
theorem fresh_of {a : Option Addr} {len cap : Nat} {zs : List Int} {w : World} (hr : IsRow .u8 w a len cap zs) (ha : ∀ x, a = some x → 0 < cap → x.block < w.heap.size) (q : Int) (hq : q = newH zs len) :
    Fresh a len cap zs w (.returned (.pointer (some ⟨w.heap.size, 0, none⟩))) (w.alloc (.cells #[.slice a len cap, .int .i64 0, .int .i64 q] 64)) := by
  have hb : Below w.heap.size w (w.alloc (.cells #[.slice a len cap, .int .i64 0, .int .i64 q] 64)) := (Below.refl _ _).alloc (Nat.le_refl _) _
  exact ⟨w.heap.size, rfl, ⟨hr.keep fun x hx hp _ => hb.block x.block (ha x hx hp), fun x hx hp e => absurd (ha x hx hp) (by rw [e]; exact Nat.lt_irrefl _), Int.le_refl 0, by show (0 : Int) ≤ len; omega, by rw [← hq]; exact heap_alloc_new w _⟩, Nat.le_refl _, hb⟩
set_option maxRecDepth 100000 in
theorem new_any (a : Option Addr) (len cap : Nat) (zs : List Int) (w : World) (hr : IsRow .u8 w a len cap zs) (hl : len ≤ 1048576) (halt : ∀ x, a = some x → 0 < cap → x.block < w.heap.size) :
    Calls Tryd.prog 22 #[.slice a len cap] w (Fresh a len cap zs w) := by
  have HR := Lib.hid hr
  have HA := Lib.hid halt
  have hcs := Lib.hid hr.cells
  clear hr halt
  go_enter Tryd.func22, Tryd.ntmps22
  go_wp2_with fail
  go_loop [3, 4] (fun h i => ∃ (q : Int) (t : Nat), h = .int .i64 q ∧ i = .int .i64 t ∧ 0 ≤ q ∧ q < 2147483648 ∧ t ≤ len ∧ t ≤ 4000 ∧ Hid (q = mixH zs len t)) (fun _ i => len - (intOf i).toNat)
  case atStart => exact ⟨_, 0, rfl, rfl, by omega, by omega, by omega, by omega, rfl⟩
  case round =>
    obtain ⟨q, t, rfl, rfl, hq0, hq1, ht, ht4, hQ⟩ := hrel
    by_cases hlt : t < len
    · by_cases h4 : (t : Int) < 4000
      · rcases hcs.out with h0 | ⟨b, off, ha, hcell⟩
        · exfalso; omega
        · obtain ⟨hct, hz0, hz1⟩ := hcell t hlt
          clear hcell
          obtain ⟨z, hz⟩ : ∃ z, z = zs.getD t 0 := ⟨_, rfl⟩
          rw [← hz] at hct hz0 hz1
          have HZ := Lib.hid hz
          clear hz
          subst ha
          have hm := low30 (q * 131 + z + 7) (by omega) (by omega)
          go_wp2_with fail
          go_round
          case rel => exact ⟨_, t + 1, rfl, by go_num, by omega, by omega, by omega, by omega, by show _ = _; rw [mixH, ← hQ.out, ← HZ.out]⟩
          case measure => simp [intOf]; omega
      · have h4' : decide ((t : Int) < 4000) = false := by simpa using h4
        go_wp2_with fail
        go_ret
        exact fresh_of HR.out HA.out q (by unfold newH; rw [show min len 4000 = t by omega]; exact hQ.out)
    · go_wp2_with fail
      go_ret
      exact fresh_of HR.out HA.out q (by unfold newH; rw [show min len 4000 = t by omega]; exact hQ.out)
end Go.Proofs.YtpnbnbhifpcelaaDoor
/- l1PickInt: one of a row of integers, as a function of the cursor's state. -/
namespace Go.Proofs.YtpnbnbhifpcelaaDoor
open Go.RowKit
theorem belowS_fst (zs : List Int) (len : Nat) (n : Int) (σ : Int × Int) (hn : 1 ≤ n) : 0 ≤ (belowS zs len n σ).1 ∧ (belowS zs len n σ).1 < n :=
  belowS_range (x := (belowS zs len n σ).1) (τ := (belowS zs len n σ).2) hn rfl
def AnInt (x : Int) : Prop := (Lit.int .i64 x).wf = true
def Ints (w : World) (g : Nat) (L : List Int) : Prop := ∀ t, t < L.length → w.cell? ⟨g, t, none⟩ = some (.int .i64 (L.getD t 0))
def pickS (zs : List Int) (len : Nat) (L : List Int) (σ : Int × Int) : Int × (Int × Int) := (L.getD (belowS zs len (L.length : Nat) σ).1.toNat 0, (belowS zs len (L.length : Nat) σ).2)
set_option maxRecDepth 100000 in
theorem pick_any (a : Option Addr) (len cap : Nat) (zs : List Int) (σ : Int × Int) (c : Nat) (w : World) (hc : Cur a len cap zs σ w c) (g n m : Nat) (L : List Int) (hg : Ints w g L) (hgc : ¬ g = c) (hn : n = L.length) (h1 : 1 ≤ n) (h2 : n ≤ 1000000000) :
    Calls Tryd.prog 47 #[.pointer (some ⟨c, 0, none⟩), .slice (some ⟨g, 0, none⟩) n m] w (Drawn (pickS zs len L) a len cap zs σ c w) := by
  have HC := Lib.hid hc
  have HG := Lib.hid hg
  have HN := Lib.hid hn
  clear hc hg hn
  go_enter Tryd.func47, Tryd.ntmps47
  go_wp2_with fail
  refine (below_any a len cap zs _ c _ HC.out (n : Int) (by omega) (by omega)).mono ?_
  rintro e w1 ⟨x, τ, hf1, rfl, hc1, ho1⟩
  obtain ⟨hx0, hx1⟩ := belowS_range (by omega) hf1
  have F1 := Lib.hid hf1
  clear hf1
  obtain ⟨t, rfl⟩ : ∃ t : Nat, x = (t : Int) := ⟨x.toNat, by omega⟩
  have htn : t < n := by omega
  have hcell := HG.out t (by have := HN.out; omega)
  have hlt : g < w.heap.size := World.block_lt_of_cell? w _ hcell
  have hcell1 : w1.cell? ⟨g, t, none⟩ = some (.int .i64 (L.getD t 0)) := (World.cell?_of_block (ho1.block g hlt (fun e => hgc (by injection e)))).trans hcell
  clear hcell
  obtain ⟨z, hz⟩ : ∃ z, z = L.getD t 0 := ⟨_, rfl⟩
  rw [← hz] at hcell1
  have HZ := Lib.hid hz
  clear hz
  have H1 := Lib.hid hc1
  have O1 := Lib.hid ho1
  clear hc1 ho1
  go_wp2_with fail
  go_ret
  refine ⟨_, τ, ?_, rfl, H1.out, O1.out⟩
  unfold pickS
  have hn := HN.out
  rw [← hn, F1.out, HZ.out, Int.toNat_natCast]
end Go.Proofs.YtpnbnbhifpcelaaDoor
/- The code that a law draws from, as the walks take it. -/
namespace Go.Proofs.YtpnbnbhifpcelaaDoor
open Go.RowKit
structure Code (a : Option Addr) (len cap : Nat) (zs : List Int) (w : World) : Prop where
  row : IsRow .u8 w a len cap zs
  small : len ≤ 1048576
  old : ∀ x, a = some x → 0 < cap → x.block < w.heap.size
theorem Code.below {a : Option Addr} {len cap : Nat} {zs : List Int} {w w' : World} (h : Code a len cap zs w) (hb : Below w.heap.size w w') : Code a len cap zs w' :=
  ⟨h.row.keep fun x hx hp _ => hb.block x.block (h.old x hx hp), h.small, fun x hx hp => Nat.lt_of_lt_of_le (h.old x hx hp) hb.size⟩
theorem big_no (a : Option Addr) (len cap : Nat) (w : World) (h : len ≤ 1048576) : Calls Tryd.prog 4 #[.slice a len cap] w fun e w' => e = .returned (.bool false) ∧ w = w' := by
  have hd : decide ((1048576 : Int) < len) = false := by simp; omega
  go_enter Tryd.func4, Tryd.ntmps4
  go_wp2
  go_ret
  exact ⟨rfl, rfl⟩
theorem big_yes (a : Option Addr) (len cap : Nat) (w : World) (h : 1048576 < len) : Calls Tryd.prog 4 #[.slice a len cap] w fun e w' => e = .returned (.bool true) ∧ w = w' := by
  have hd : decide ((1048576 : Int) < len) = true := by simp; omega
  go_enter Tryd.func4, Tryd.ntmps4
  go_wp2
  go_ret
  exact ⟨rfl, rfl⟩
end Go.Proofs.YtpnbnbhifpcelaaDoor
/- A variable of three numbers in a block of its own, behind calls and stores; no function of the program. -/
namespace Go.Proofs.YtpnbnbhifpcelaaDoor
open Go.RowKit
def Var3 (w : World) (g : Nat) (r : R) : Prop := w.heap[g]? = some (.cells #[.int .i64 r.key, .int .i64 r.value, .int .i64 r.width] 50 (0, 0))
theorem Var3.lt {w : World} {g : Nat} {r : R} (h : Var3 w g r) : g < w.heap.size := lt_of_block h
theorem Var3.below {w w' : World} {g B : Nat} {r : R} (h : Var3 w g r) (hb : Below B w w') (hg : g < B) : Var3 w' g r := (hb.block g hg).trans h
theorem Var3.keep {w w' : World} {g : Nat} {r : R} (h : Var3 w g r) (hb : Below w.heap.size w w') : Var3 w' g r := h.below hb h.lt
theorem Var3.cells {w : World} {g : Nat} {r : R} (h : Var3 w g r) : w.cell? ⟨g, 0, none⟩ = some (.int .i64 r.key) ∧ w.cell? ⟨g, 1, none⟩ = some (.int .i64 r.value) ∧ w.cell? ⟨g, 2, none⟩ = some (.int .i64 r.width) := by
  unfold Var3 at h
  refine ⟨?_, ?_, ?_⟩ <;> simp [World.cell?, h]
theorem Var3.free {w : World} {g : Nat} {r : R} (h : Var3 w g r) : w.frozen? ⟨g, 0, none⟩ = false ∧ w.frozen? ⟨g, 1, none⟩ = false ∧ w.frozen? ⟨g, 2, none⟩ = false := by
  unfold Var3 at h
  refine ⟨?_, ?_, ?_⟩ <;> simp [World.frozen?, h]
theorem Var3.made (w : World) (r : R) : Var3 (w.alloc (.cells #[.int .i64 r.key, .int .i64 r.value, .int .i64 r.width] 50)) w.heap.size r := heap_alloc_new w _
theorem Var3.alloc {w : World} {g : Nat} {r : R} (h : Var3 w g r) (o : Obj) : Var3 (w.alloc o) g r := h.keep ((Below.refl _ _).alloc (Nat.le_refl _) _)
theorem Var3.drew {w : World} {g : Nat} {r : R} (h : Var3 w g r) : Var3 w.drew g r := h
theorem Var3.other {w : World} {g g' i : Nat} {r : R} (h : Var3 w g r) (hne : g ≠ g') (u : Value) : Var3 (w.setCell ⟨g', i, none⟩ u) g r := by
  unfold Var3 at h ⊢
  rw [Below.heap_setCell _ _ _ _ (fun e => hne e)]
  exact h
end Go.Proofs.YtpnbnbhifpcelaaDoor
/- l2Row, l2Any: the row that is drawn, as a function of the cursor's state. -/
namespace Go.Proofs.YtpnbnbhifpcelaaDoor
open Go.RowKit
def Rowed (F : Int × Int → R × (Int × Int)) (a : Option Addr) (len cap : Nat) (zs : List Int) (σ : Int × Int) (c : Nat) (w : World) (e : Ending) (w' : World) : Prop :=
  ∃ (r : R) (τ : Int × Int), F σ = (r, τ) ∧ e = .returned (.agg #[.int .i64 r.key, .int .i64 r.value, .int .i64 r.width]) ∧ Cur a len cap zs τ w' c ∧ Only c w w'
theorem ints_alloc (w : World) (L : List Int) : Ints (w.alloc (.cells (L.map (Value.int .i64)).toArray 3)) w.heap.size L := by
  intro t ht
  rw [World.cell?_alloc_mark]
  rw [List.getElem?_toArray, List.getElem?_map, List.getElem?_eq_getElem ht, List.getD_eq_getElem?_getD, List.getElem?_eq_getElem ht]; rfl
theorem Var3.only {w w' : World} {g c : Nat} {r : R} (h : Var3 w g r) (ho : Only c w w') (hne : g ≠ c) : Var3 w' g r := (ho.block g h.lt (fun e => hne (by injection e))).trans h
def widths : List Int := [0, 0, 1, 2, 3]
def rowS (zs : List Int) (len : Nat) (keys : Int) (σ : Int × Int) : R × (Int × Int) :=
  let x := belowS zs len keys σ
  let y := belowS zs len 100 x.2
  let z := pickS zs len widths y.2
  (⟨x.1, y.1, z.1⟩, z.2)
theorem pickS_mem (zs : List Int) (len : Nat) (L : List Int) (σ : Int × Int) (hL : 1 ≤ L.length) : (pickS zs len L σ).1 ∈ L := by
  unfold pickS
  simp only []
  have h := belowS_fst zs len (L.length : Nat) σ (by omega)
  rw [List.getD_eq_getElem?_getD, List.getElem?_eq_getElem (by omega)]
  exact List.getElem_mem _
theorem rowS_range (zs : List Int) (len : Nat) (keys : Int) (σ : Int × Int) (hk : 1 ≤ keys) :
    0 ≤ (rowS zs len keys σ).1.key ∧ (rowS zs len keys σ).1.key < keys ∧ 0 ≤ (rowS zs len keys σ).1.value ∧ (rowS zs len keys σ).1.value < 100 ∧ 0 ≤ (rowS zs len keys σ).1.width ∧ (rowS zs len keys σ).1.width ≤ 3 := by
  have h1 := belowS_fst zs len keys σ hk
  have h2 := belowS_fst zs len 100 (belowS zs len keys σ).2 (by omega)
  have h3 := pickS_mem zs len widths (belowS zs len 100 (belowS zs len keys σ).2).2 (by decide)
  unfold widths at h3
  unfold rowS widths
  simp only [List.mem_cons, List.not_mem_nil, or_false] at h3 ⊢
  omega
theorem rowS_wf (zs : List Int) (len : Nat) (keys : Int) (σ : Int × Int) (hk : 1 ≤ keys) (hk2 : keys ≤ 1000000000) : (rowS zs len keys σ).1.wf := by
  have := rowS_range zs len keys σ hk
  unfold R.wf; omega
set_option maxRecDepth 100000 in
theorem row_any (a : Option Addr) (len cap : Nat) (zs : List Int) (σ : Int × Int) (c : Nat) (w : World) (hc : Cur a len cap zs σ w c) (halt : ∀ x, a = some x → 0 < cap → x.block < w.heap.size) (keys : Int) (h1 : 1 ≤ keys) (h2 : keys ≤ 1000000000) :
    Calls Tryd.prog 62 #[.pointer (some ⟨c, 0, none⟩), .int .i64 keys] w (Rowed (rowS zs len keys) a len cap zs σ c w) := by
  have hb0 : Below w.heap.size w (w.alloc (.cells #[.int .i64 0, .int .i64 0, .int .i64 0] 50)) := (Below.refl _ _).alloc (Nat.le_refl _) _
  have hcl := hc.lt
  have H0 := Lib.hid (hc.below hb0 hcl halt)
  have O0 := Lib.hid (Only.of_below (c := c) hb0)
  have V0 : Hid (Var3 (w.alloc (.cells #[.int .i64 0, .int .i64 0, .int .i64 0] 50)) w.heap.size R.zero) := Var3.made w R.zero
  have HA := Lib.hid halt
  clear hb0 hc halt
  have hne : w.heap.size ≠ c := by omega
  go_enter Tryd.func62, Tryd.ntmps62
  go_wp2_with fail
  refine (below_any a len cap zs _ c _ H0.out keys h1 h2).mono ?_
  rintro e w1 ⟨x, τ1, hf1, rfl, hc1, ho1⟩
  have F1 := Lib.hid hf1
  have H1 := Lib.hid hc1
  have O1 := Lib.hid (O0.out.trans ho1)
  have V1 := Lib.hid (V0.out.only ho1 hne)
  clear hf1 hc1 ho1 H0 O0 V0
  go_wp2_with fail
  refine (below_any a len cap zs _ c _ H1.out 100 (by omega) (by omega)).mono ?_
  rintro e w2 ⟨y, τ2, hf2, rfl, hc2, ho2⟩
  have F2 := Lib.hid hf2
  have H2 := Lib.hid hc2
  have O2 := Lib.hid (O1.out.trans ho2)
  have V2 := Lib.hid (V1.out.only ho2 hne)
  clear hf2 hc2 ho2 H1 O1 V1
  have H3 := Lib.hid (H2.out.alloc (.cells (widths.map (Value.int .i64)).toArray 3))
  have O3 := Lib.hid (O2.out.alloc (.cells (widths.map (Value.int .i64)).toArray 3))
  have V3 := Lib.hid (V2.out.alloc (.cells (widths.map (Value.int .i64)).toArray 3))
  have I3 := Lib.hid (ints_alloc w2 widths)
  have hne2 : ¬ w2.heap.size = c := by have := H2.out.lt; omega
  go_wp2_with fail
  refine (pick_any a len cap zs _ c _ H3.out _ 5 5 widths I3.out hne2 rfl (by omega) (by omega)).mono ?_
  rintro e w3 ⟨z, τ3, hf3, rfl, hc3, ho3⟩
  have F3 := Lib.hid hf3
  have H4 := Lib.hid hc3
  have O4 := Lib.hid (O3.out.trans ho3)
  have V4 := Lib.hid (V3.out.only ho3 hne)
  clear hf3 hc3 ho3 H2 O2 V2 H3 O3 V3 I3
  obtain ⟨d0, d1, d2⟩ := V4.out.cells
  obtain ⟨f0, f1, f2⟩ := V4.out.free
  go_wp2_with fail
  refine bodyPost_ret (v := .agg #[.int .i64 x, .int .i64 y, .int .i64 z]) (by simp [results, Tryd.results62, go_sem, *]) rfl ⟨⟨x, y, z⟩, τ3, ?_, rfl, ?_, ?_⟩
  · unfold rowS
    rw [F1.out]
    simp only []
    rw [F2.out]
    simp only []
    rw [F3.out]
  · exact H4.out.below (below_set3 (Below.refl _ _) (Nat.le_refl _) _ _ _ _ _ _) hcl HA.out
  · exact O4.out.step (below_set3 (Below.refl _ _) (Nat.le_refl _) _ _ _ _ _ _)
def anyS (zs : List Int) (len : Nat) (σ : Int × Int) : R × (Int × Int) :=
  let r := rowS zs len 10 σ
  let v := belowS zs len 8 r.2
  if v.1 = 0 then (⟨(pickS zs len [-1, 10] v.2).1, r.1.value, r.1.width⟩, (pickS zs len [-1, 10] v.2).2)
  else if v.1 = 1 then (⟨r.1.key, (pickS zs len [-1, 100, 99] v.2).1, r.1.width⟩, (pickS zs len [-1, 100, 99] v.2).2)
  else if v.1 = 2 then (⟨r.1.key, r.1.value, (pickS zs len [-1, 4] v.2).1⟩, (pickS zs len [-1, 4] v.2).2)
  else (r.1, v.2)
theorem anyS_wf (zs : List Int) (len : Nat) (σ : Int × Int) : (anyS zs len σ).1.wf := by
  have h := rowS_wf zs len 10 σ (by omega) (by omega)
  unfold R.wf at h ⊢
  unfold anyS
  simp only []
  split
  · have := pickS_mem zs len [-1, 10] (belowS zs len 8 (rowS zs len 10 σ).2).2 (by decide)
    simp only [List.mem_cons, List.not_mem_nil, or_false] at this ⊢
    omega
  · split
    · have := pickS_mem zs len [-1, 100, 99] (belowS zs len 8 (rowS zs len 10 σ).2).2 (by decide)
      simp only [List.mem_cons, List.not_mem_nil, or_false] at this ⊢
      omega
    · split
      · have := pickS_mem zs len [-1, 4] (belowS zs len 8 (rowS zs len 10 σ).2).2 (by decide)
        simp only [List.mem_cons, List.not_mem_nil, or_false] at this ⊢
        omega
      · exact h
set_option maxRecDepth 100000 in
theorem any_any (a : Option Addr) (len cap : Nat) (zs : List Int) (σ : Int × Int) (c : Nat) (w : World) (hc : Cur a len cap zs σ w c) (halt : ∀ x, a = some x → 0 < cap → x.block < w.heap.size) :
    Calls Tryd.prog 46 #[.pointer (some ⟨c, 0, none⟩)] w (Rowed (anyS zs len) a len cap zs σ c w) := by
  have hb0 : Below w.heap.size w (w.alloc (.cells #[.int .i64 0, .int .i64 0, .int .i64 0] 50)) := (Below.refl _ _).alloc (Nat.le_refl _) _
  have hcl := hc.lt
  have H0 := Lib.hid (hc.below hb0 hcl halt)
  have O0 := Lib.hid (Only.of_below (c := c) hb0)
  have V0 : Hid (Var3 (w.alloc (.cells #[.int .i64 0, .int .i64 0, .int .i64 0] 50)) w.heap.size R.zero) := Var3.made w R.zero
  have HA0 := Lib.hid fun x hx hp => Nat.lt_of_lt_of_le (halt x hx hp) hb0.size
  have HA := Lib.hid halt
  clear hb0 hc halt
  have hne : w.heap.size ≠ c := by omega
  go_enter Tryd.func46, Tryd.ntmps46
  go_wp2_with fail
  refine (row_any a len cap zs _ c _ H0.out HA0.out 10 (by omega) (by omega)).mono ?_
  rintro e w1 ⟨r, τ1, hf1, rfl, hc1, ho1⟩
  have F1 := Lib.hid hf1
  have O1 := Lib.hid (O0.out.trans ho1)
  have V1 := Lib.hid (V0.out.only ho1 hne)
  have hbx : Below w1.heap.size w1 (w1.alloc (.cells #[.int .i64 r.key, .int .i64 r.value, .int .i64 r.width] 50)) := (Below.refl _ _).alloc (Nat.le_refl _) _
  have H1 := Lib.hid (hc1.alloc (.cells #[.int .i64 r.key, .int .i64 r.value, .int .i64 r.width] 50))
  have O2 := Lib.hid (O1.out.alloc (.cells #[.int .i64 r.key, .int .i64 r.value, .int .i64 r.width] 50))
  have V2 := Lib.hid (V1.out.keep hbx)
  have X2 := Lib.hid (Var3.made w1 r)
  have hlt1 : w.heap.size < w1.heap.size := V1.out.lt
  have hne1 : w1.heap.size ≠ c := by omega
  have hne3 : w.heap.size ≠ w1.heap.size := by omega
  clear hf1 hc1 ho1 H0 O0 V0 HA0 V1 O1 hbx
  go_wp2_with fail
  refine (below_any a len cap zs _ c _ H1.out 8 (by omega) (by omega)).mono ?_
  rintro e w2 ⟨v, τ2, hf2, rfl, hc2, ho2⟩
  obtain ⟨hv0, hv1⟩ := belowS_range (by omega) hf2
  have F2 := Lib.hid hf2
  have H2 := Lib.hid hc2
  have O3 := Lib.hid (O2.out.trans ho2)
  have V3 := Lib.hid (V2.out.only ho2 hne)
  have X3 := Lib.hid (X2.out.only ho2 hne1)
  clear hf2 hc2 ho2 H1 O2 V2 X2
  have hlt2 := H2.out.lt
  have hne4 : ¬ w2.heap.size = c := by omega
  by_cases v0 : v = 0
  · subst v0
    have H3 := Lib.hid (H2.out.alloc (.cells (([-1, 10] : List Int).map (Value.int .i64)).toArray 3))
    have O4 := Lib.hid (O3.out.alloc (.cells (([-1, 10] : List Int).map (Value.int .i64)).toArray 3))
    have V4 := Lib.hid (V3.out.alloc (.cells (([-1, 10] : List Int).map (Value.int .i64)).toArray 3))
    have X4 := Lib.hid (X3.out.alloc (.cells (([-1, 10] : List Int).map (Value.int .i64)).toArray 3))
    have I4 := Lib.hid (ints_alloc w2 [-1, 10])
    go_wp2_with fail
    refine (pick_any a len cap zs _ c _ H3.out _ 2 2 [-1, 10] I4.out hne4 rfl (by omega) (by omega)).mono ?_
    rintro e w3 ⟨z, τ3, hf3, rfl, hc3, ho3⟩
    have F3 := Lib.hid hf3
    have H5 := Lib.hid hc3
    have O5 := Lib.hid (O4.out.trans ho3)
    have V5 := Lib.hid (V4.out.only ho3 hne)
    have X5 := Lib.hid (X4.out.only ho3 hne1)
    have HR : Hid (anyS zs len σ = ((⟨z, r.value, r.width⟩ : R), τ3)) := by
      show _ = _
      unfold anyS
      rw [F1.out]
      simp only []
      rw [F2.out]
      simp only []
      first | rw [if_pos rfl] | rw [if_pos trivial]
      rw [F3.out]
    have BX : Hid (Below w.heap.size w3 ((((w3.setCell ⟨w1.heap.size, 0, none⟩ (.int .i64 z)).setCell ⟨w.heap.size, 0, none⟩ (.int .i64 (R.key (⟨z, r.value, r.width⟩ : R)))).setCell ⟨w.heap.size, 1, none⟩ (.int .i64 (R.value (⟨z, r.value, r.width⟩ : R)))).setCell ⟨w.heap.size, 2, none⟩ (.int .i64 (R.width (⟨z, r.value, r.width⟩ : R))))) :=
      below_set3 ((Below.refl _ _).setCell (p := ⟨w1.heap.size, 0, none⟩) (Nat.le_of_lt hlt1) _) (Nat.le_refl _) _ _ _ _ _ _
    clear hf3 hc3 ho3 H3 O4 V4 X4 I4
    obtain ⟨d0, d1, d2⟩ := V5.out.cells
    obtain ⟨f0, f1, f2⟩ := V5.out.free
    obtain ⟨c0, c1, c2⟩ := X5.out.cells
    obtain ⟨g0, g1, g2⟩ := X5.out.free
    go_wp2_with fail
    refine bodyPost_ret (v := .agg #[.int .i64 (R.key (⟨z, r.value, r.width⟩ : R)), .int .i64 (R.value (⟨z, r.value, r.width⟩ : R)), .int .i64 (R.width (⟨z, r.value, r.width⟩ : R))]) (by simp [results, Tryd.results46, go_sem, *]) rfl ⟨(⟨z, r.value, r.width⟩ : R), τ3, HR.out, rfl, H5.out.below BX.out hcl HA.out, O5.out.step BX.out⟩
  · have e0 : (v == 0) = false := beq_eq_false_iff_ne.2 v0
    by_cases v1 : v = 1
    · subst v1
      have H3 := Lib.hid (H2.out.alloc (.cells (([-1, 100, 99] : List Int).map (Value.int .i64)).toArray 3))
      have O4 := Lib.hid (O3.out.alloc (.cells (([-1, 100, 99] : List Int).map (Value.int .i64)).toArray 3))
      have V4 := Lib.hid (V3.out.alloc (.cells (([-1, 100, 99] : List Int).map (Value.int .i64)).toArray 3))
      have X4 := Lib.hid (X3.out.alloc (.cells (([-1, 100, 99] : List Int).map (Value.int .i64)).toArray 3))
      have I4 := Lib.hid (ints_alloc w2 [-1, 100, 99])
      go_wp2_with fail
      refine (pick_any a len cap zs _ c _ H3.out _ 3 3 [-1, 100, 99] I4.out hne4 rfl (by omega) (by omega)).mono ?_
      rintro e w3 ⟨z, τ3, hf3, rfl, hc3, ho3⟩
      have F3 := Lib.hid hf3
      have H5 := Lib.hid hc3
      have O5 := Lib.hid (O4.out.trans ho3)
      have V5 := Lib.hid (V4.out.only ho3 hne)
      have X5 := Lib.hid (X4.out.only ho3 hne1)
      have HR : Hid (anyS zs len σ = ((⟨r.key, z, r.width⟩ : R), τ3)) := by
        show _ = _
        unfold anyS
        rw [F1.out]
        simp only []
        rw [F2.out]
        simp only []
        rw [if_neg (by decide)]; first | rw [if_pos rfl] | rw [if_pos trivial]
        rw [F3.out]
      have BX : Hid (Below w.heap.size w3 ((((w3.setCell ⟨w1.heap.size, 1, none⟩ (.int .i64 z)).setCell ⟨w.heap.size, 0, none⟩ (.int .i64 (R.key (⟨r.key, z, r.width⟩ : R)))).setCell ⟨w.heap.size, 1, none⟩ (.int .i64 (R.value (⟨r.key, z, r.width⟩ : R)))).setCell ⟨w.heap.size, 2, none⟩ (.int .i64 (R.width (⟨r.key, z, r.width⟩ : R))))) :=
        below_set3 ((Below.refl _ _).setCell (p := ⟨w1.heap.size, 1, none⟩) (Nat.le_of_lt hlt1) _) (Nat.le_refl _) _ _ _ _ _ _
      clear hf3 hc3 ho3 H3 O4 V4 X4 I4
      obtain ⟨d0, d1, d2⟩ := V5.out.cells
      obtain ⟨f0, f1, f2⟩ := V5.out.free
      obtain ⟨c0, c1, c2⟩ := X5.out.cells
      obtain ⟨g0, g1, g2⟩ := X5.out.free
      go_wp2_with fail
      refine bodyPost_ret (v := .agg #[.int .i64 (R.key (⟨r.key, z, r.width⟩ : R)), .int .i64 (R.value (⟨r.key, z, r.width⟩ : R)), .int .i64 (R.width (⟨r.key, z, r.width⟩ : R))]) (by simp [results, Tryd.results46, go_sem, *]) rfl ⟨(⟨r.key, z, r.width⟩ : R), τ3, HR.out, rfl, H5.out.below BX.out hcl HA.out, O5.out.step BX.out⟩
    · have e1 : (v == 1) = false := beq_eq_false_iff_ne.2 v1
      by_cases v2 : v = 2
      · subst v2
        have H3 := Lib.hid (H2.out.alloc (.cells (([-1, 4] : List Int).map (Value.int .i64)).toArray 3))
        have O4 := Lib.hid (O3.out.alloc (.cells (([-1, 4] : List Int).map (Value.int .i64)).toArray 3))
        have V4 := Lib.hid (V3.out.alloc (.cells (([-1, 4] : List Int).map (Value.int .i64)).toArray 3))
        have X4 := Lib.hid (X3.out.alloc (.cells (([-1, 4] : List Int).map (Value.int .i64)).toArray 3))
        have I4 := Lib.hid (ints_alloc w2 [-1, 4])
        go_wp2_with fail
        refine (pick_any a len cap zs _ c _ H3.out _ 2 2 [-1, 4] I4.out hne4 rfl (by omega) (by omega)).mono ?_
        rintro e w3 ⟨z, τ3, hf3, rfl, hc3, ho3⟩
        have F3 := Lib.hid hf3
        have H5 := Lib.hid hc3
        have O5 := Lib.hid (O4.out.trans ho3)
        have V5 := Lib.hid (V4.out.only ho3 hne)
        have X5 := Lib.hid (X4.out.only ho3 hne1)
        have HR : Hid (anyS zs len σ = ((⟨r.key, r.value, z⟩ : R), τ3)) := by
          show _ = _
          unfold anyS
          rw [F1.out]
          simp only []
          rw [F2.out]
          simp only []
          rw [if_neg (by decide), if_neg (by decide)]; first | rw [if_pos rfl] | rw [if_pos trivial]
          rw [F3.out]
        have BX : Hid (Below w.heap.size w3 ((((w3.setCell ⟨w1.heap.size, 2, none⟩ (.int .i64 z)).setCell ⟨w.heap.size, 0, none⟩ (.int .i64 (R.key (⟨r.key, r.value, z⟩ : R)))).setCell ⟨w.heap.size, 1, none⟩ (.int .i64 (R.value (⟨r.key, r.value, z⟩ : R)))).setCell ⟨w.heap.size, 2, none⟩ (.int .i64 (R.width (⟨r.key, r.value, z⟩ : R))))) :=
          below_set3 ((Below.refl _ _).setCell (p := ⟨w1.heap.size, 2, none⟩) (Nat.le_of_lt hlt1) _) (Nat.le_refl _) _ _ _ _ _ _
        clear hf3 hc3 ho3 H3 O4 V4 X4 I4
        obtain ⟨d0, d1, d2⟩ := V5.out.cells
        obtain ⟨f0, f1, f2⟩ := V5.out.free
        obtain ⟨c0, c1, c2⟩ := X5.out.cells
        obtain ⟨g0, g1, g2⟩ := X5.out.free
        go_wp2_with fail
        refine bodyPost_ret (v := .agg #[.int .i64 (R.key (⟨r.key, r.value, z⟩ : R)), .int .i64 (R.value (⟨r.key, r.value, z⟩ : R)), .int .i64 (R.width (⟨r.key, r.value, z⟩ : R))]) (by simp [results, Tryd.results46, go_sem, *]) rfl ⟨(⟨r.key, r.value, z⟩ : R), τ3, HR.out, rfl, H5.out.below BX.out hcl HA.out, O5.out.step BX.out⟩
      · have e2 : (v == 2) = false := beq_eq_false_iff_ne.2 v2
        have HR : Hid (anyS zs len σ = (r, τ2)) := by
          show _ = _
          unfold anyS
          rw [F1.out]
          simp only []
          rw [F2.out]
          simp only []
          rw [if_neg v0, if_neg v1, if_neg v2]
        have BX : Hid (Below w.heap.size w2 (((w2.setCell ⟨w.heap.size, 0, none⟩ (.int .i64 r.key)).setCell ⟨w.heap.size, 1, none⟩ (.int .i64 r.value)).setCell ⟨w.heap.size, 2, none⟩ (.int .i64 r.width))) :=
          below_set3 (Below.refl _ _) (Nat.le_refl _) _ _ _ _ _ _
        clear v0 v1 v2
        obtain ⟨d0, d1, d2⟩ := V3.out.cells
        obtain ⟨f0, f1, f2⟩ := V3.out.free
        obtain ⟨c0, c1, c2⟩ := X3.out.cells
        go_wp2_with fail
        refine bodyPost_ret (v := .agg #[.int .i64 r.key, .int .i64 r.value, .int .i64 r.width]) (by simp [results, Tryd.results46, go_sem, *]) rfl ⟨r, τ2, HR.out, rfl, H2.out.below BX.out hcl HA.out, O3.out.step BX.out⟩
end Go.Proofs.YtpnbnbhifpcelaaDoor
/- l2Rows, l2Bent: the rows that are drawn, as functions of the cursor's state. -/
namespace Go.Proofs.YtpnbnbhifpcelaaDoor
open Go.RowKit
def Rowsed (F : Int × Int → List R × (Int × Int)) (a : Option Addr) (len cap : Nat) (zs : List Int) (σ : Int × Int) (c : Nat) (w : World) (e : Ending) (w' : World) : Prop :=
  ∃ (v : Value) (L : List R) (τ : Int × Int), F σ = (L, τ) ∧ e = .returned v ∧ w'.ownsRow w.heap.size 50 3 v L.length (cells3 L) ∧ Cur a len cap zs τ w' c ∧ Only c w w'
def keysL : List Int := [1, 2, 4, 10]
def rowsLoop (zs : List Int) (len : Nat) (keys : Int) : Nat → List R → Int × Int → List R × (Int × Int)
  | 0, l, σ => (l, σ)
  | n + 1, l, σ => rowsLoop zs len keys n (l ++ [(rowS zs len keys σ).1]) (rowS zs len keys σ).2
def rowsS (zs : List Int) (len : Nat) (most : Int) (σ : Int × Int) : List R × (Int × Int) :=
  let k := pickS zs len keysL σ
  let n := belowS zs len (most + 1) k.2
  rowsLoop zs len k.1 n.1.toNat [] n.2
theorem rowsLoop_length (zs : List Int) (len : Nat) (keys : Int) : ∀ (n : Nat) (l : List R) (σ : Int × Int), (rowsLoop zs len keys n l σ).1.length = l.length + n
  | 0, l, σ => rfl
  | n + 1, l, σ => by rw [rowsLoop, rowsLoop_length zs len keys n]; simp; omega
theorem rowsLoop_wf (zs : List Int) (len : Nat) (keys : Int) (h1 : 1 ≤ keys) (h2 : keys ≤ 1000000000) : ∀ (n : Nat) (l : List R) (σ : Int × Int), (∀ r ∈ l, r.wf) → ∀ r ∈ (rowsLoop zs len keys n l σ).1, r.wf
  | 0, l, σ, h => h
  | n + 1, l, σ, h => by
    rw [rowsLoop]
    refine rowsLoop_wf zs len keys h1 h2 n _ _ fun r hr => ?_
    rcases List.mem_append.1 hr with hr | hr
    · exact h r hr
    · rw [List.mem_singleton.1 hr]; exact rowS_wf zs len keys σ h1 h2
theorem keys_range (zs : List Int) (len : Nat) (σ : Int × Int) : 1 ≤ (pickS zs len keysL σ).1 ∧ (pickS zs len keysL σ).1 ≤ 10 := by
  have := pickS_mem zs len keysL σ (by decide)
  unfold keysL at this ⊢
  simp only [List.mem_cons, List.not_mem_nil, or_false] at this
  omega
theorem rowsS_length (zs : List Int) (len : Nat) (most : Int) (σ : Int × Int) (hm : 0 ≤ most) : ((rowsS zs len most σ).1.length : Int) ≤ most := by
  unfold rowsS
  simp only []
  rw [rowsLoop_length]
  have := belowS_fst zs len (most + 1) (pickS zs len keysL σ).2 (by omega)
  simp only [List.length_nil]; omega
theorem rowsS_wf (zs : List Int) (len : Nat) (most : Int) (σ : Int × Int) : ∀ r ∈ (rowsS zs len most σ).1, r.wf := by
  have hk := keys_range zs len σ
  unfold rowsS
  simp only []
  exact rowsLoop_wf zs len _ hk.1 (by omega) _ _ _ (fun r hr => by cases hr)
theorem own_onlyR {w w' : World} {B c : Nat} {v : Value} {n : Nat} {xs : List Value} (h : w.ownsRow B 50 3 v n xs) (ho : Only c w w') (hc : c < B) : w'.ownsRow B 50 3 v n xs :=
  h.kept ho (by
    cases hv : v.ownBlock with
    | none => exact .inl rfl
    | some k =>
      refine .inr fun e => ?_
      have := (h.lt k hv).1
      injection e with e
      omega)
set_option maxRecDepth 100000 in
theorem rows_any (a : Option Addr) (len cap : Nat) (zs : List Int) (σ : Int × Int) (c : Nat) (w : World) (hc : Cur a len cap zs σ w c) (halt : ∀ x, a = some x → 0 < cap → x.block < w.heap.size) (most : Int) (h0 : 0 ≤ most) (h1 : most ≤ 1000) :
    Calls Tryd.prog 44 #[.pointer (some ⟨c, 0, none⟩), .int .i64 most] w (Rowsed (rowsS zs len most) a len cap zs σ c w) := by
  have hb0 : Below w.heap.size w (w.alloc (.cells #[] 50)) := (Below.refl _ _).alloc (Nat.le_refl _) _
  have hcl := hc.lt
  have H0 := Lib.hid (hc.below hb0 hcl halt)
  have O0 := Lib.hid (Only.of_below (c := c) hb0)
  have W0 := Lib.hid (World.ownsRow_made (e := 50) (size := 3) (base := w.heap.size) w #[] 0 (Nat.le_refl _) (by unfold maxLen; omega) rfl)
  have HA := Lib.hid halt
  clear hc halt hb0
  have H1 := Lib.hid (H0.out.alloc (.cells (keysL.map (Value.int .i64)).toArray 3))
  have O1 := Lib.hid (O0.out.alloc (.cells (keysL.map (Value.int .i64)).toArray 3))
  have W1 := Lib.hid (W0.out.alloc (.cells (keysL.map (Value.int .i64)).toArray 3))
  have I1 := Lib.hid (ints_alloc (w.alloc (.cells #[] 50)) keysL)
  have hg : (w.alloc (.cells #[] 50)).heap.size = w.heap.size + 1 := by simp
  rw [hg] at I1
  have hne : ¬ w.heap.size + 1 = c := by omega
  clear hg
  go_enter Tryd.func44, Tryd.ntmps44
  go_wp2_with fail
  refine (pick_any a len cap zs _ c _ H1.out _ 4 4 keysL I1.out hne rfl (by omega) (by omega)).mono ?_
  rintro e w1 ⟨key, τ1, hf1, rfl, hc1, ho1⟩
  have hk := keys_range zs len σ
  rw [hf1] at hk
  obtain ⟨hk1, hk2⟩ := hk
  have F1 := Lib.hid hf1
  have H2 := Lib.hid hc1
  have O2 := Lib.hid (O1.out.trans ho1)
  have W2 := Lib.hid (own_onlyR W1.out ho1 hcl)
  clear hf1 hc1 ho1 H0 O0 W0 H1 O1 W1 I1
  go_wp2_with fail
  refine (below_any a len cap zs _ c _ H2.out (most + 1) (by omega) (by omega)).mono ?_
  rintro e w2 ⟨cnt, τ2, hf2, rfl, hc2, ho2⟩
  obtain ⟨hn0, hn1⟩ := belowS_range (by omega) hf2
  have F2 := Lib.hid hf2
  have H3 := Lib.hid hc2
  have O3 := Lib.hid (O2.out.trans ho2)
  have W3 := Lib.hid (own_onlyR W2.out ho2 hcl)
  have HT : Hid (rowsS zs len most σ = rowsLoop zs len key cnt.toNat [] τ2) := by show _ = _; unfold rowsS; rw [F1.out]; simp only []; rw [F2.out]
  clear hf2 hc2 ho2 H2 O2 W2
  go_wp2_with fail
  go_loopw [5, 7] (fun v i wr => ∃ (k : Int) (x : Value) (l : List R) (τ : Int × Int), i = .int .i64 k ∧ x = v ∧ 0 ≤ k ∧ k ≤ most ∧ Hid ((l.length : Int) + k ≤ most) ∧ Hid (wr.ownsRow w.heap.size 50 3 x l.length (cells3 l)) ∧ Hid (Cur a len cap zs τ wr c) ∧ Hid (Only c w wr) ∧ Hid (rowsS zs len most σ = rowsLoop zs len key k.toNat l τ)) (fun _ i _ => (intOf i).toNat)
  case atStart => exact ⟨cnt, _, [], τ2, rfl, rfl, hn0, by omega, by show ((0 : Nat) : Int) + cnt ≤ most; omega, W3, H3, O3, HT⟩
  case round =>
    obtain ⟨k, x, l, τ, rfl, rfl, hk0, hkm, hlk, hown, hcur, honly, hTL⟩ := hrel
    by_cases hk : 0 < k
    · have HAr := Lib.hid fun y hy hp => Nat.lt_of_lt_of_le (HA.out y hy hp) honly.out.size
      go_wp2_with fail
      refine (row_any a len cap zs _ c _ hcur.out HAr.out key hk1 (by omega)).mono ?_
      rintro e w3 ⟨r, τ3, hf3, rfl, hc3, ho3⟩
      have F3 := Lib.hid hf3
      have HS : Hid (rowsS zs len most σ = rowsLoop zs len key (k - 1).toNat (l ++ [r]) τ3) := by
        show _ = _
        rw [hTL.out, show k.toNat = (k - 1).toNat + 1 by omega, rowsLoop, F3.out]
      have H4 := Lib.hid hc3
      have O4 := Lib.hid (honly.out.trans ho3)
      have W4 := Lib.hid (own_onlyR hown.out ho3 hcl)
      have hsz := O4.out.size
      have hll : l.length ≤ 1000 := by have := hlk.out; omega
      clear hf3 hc3 ho3 hcur honly hown
      go_wp2_with (at_builtin; refine wpList_pushR (.tmp 20) (.tmp 24) r w3.heap.size rfl rfl rfl rfl rfl W4.out hsz (by omega) ?_; intro v4 w4 hown4 hb4 hrest4)
      go_roundw
      case rel =>
        refine ⟨k - 1, _, _, τ3, by go_num, rfl, by omega, by omega, ?_, hown4, H4.out.below hb4 hcl fun x hx hp => HA.out x hx hp, O4.out.step hb4, HS⟩
        show _ ≤ _
        have := hlk.out
        rw [List.length_append, List.length_singleton]; omega
      case measure => simp [intOf]; omega
    · have hk00 : k = 0 := by omega
      have HF : Hid (rowsS zs len most σ = (l, τ)) := by show _ = _; rw [hTL.out, hk00]; rfl
      clear hk00
      go_wp2_with fail
      go_ret
      exact ⟨_, l, τ, HF.out, rfl, hown.out, hcur.out, honly.out⟩
def bentS (zs : List Int) (len : Nat) (most : Int) (σ : Int × Int) : List R × (Int × Int) :=
  let l := rowsS zs len most σ
  let v := belowS zs len 14 l.2
  if v.1 = 0 then (l.1 ++ [(anyS zs len v.2).1], (anyS zs len v.2).2) else (l.1, v.2)
theorem bentS_length (zs : List Int) (len : Nat) (most : Int) (σ : Int × Int) (hm : 0 ≤ most) : ((bentS zs len most σ).1.length : Int) ≤ most + 1 := by
  have := rowsS_length zs len most σ hm
  unfold bentS
  simp only []
  split
  · rw [List.length_append, List.length_singleton]; omega
  · simp only []; omega
theorem bentS_wf (zs : List Int) (len : Nat) (most : Int) (σ : Int × Int) : ∀ r ∈ (bentS zs len most σ).1, r.wf := by
  have h := rowsS_wf zs len most σ
  unfold bentS
  simp only []
  split
  · intro r hr
    rcases List.mem_append.1 hr with hr | hr
    · exact h r hr
    · rw [List.mem_singleton.1 hr]; exact anyS_wf zs len _
  · exact h
set_option maxRecDepth 100000 in
theorem bent_any (a : Option Addr) (len cap : Nat) (zs : List Int) (σ : Int × Int) (c : Nat) (w : World) (hc : Cur a len cap zs σ w c) (halt : ∀ x, a = some x → 0 < cap → x.block < w.heap.size) (most : Int) (h0 : 0 ≤ most) (h1 : most ≤ 1000) :
    Calls Tryd.prog 23 #[.pointer (some ⟨c, 0, none⟩), .int .i64 most] w (Rowsed (bentS zs len most) a len cap zs σ c w) := by
  have hcl := hc.lt
  have H0 := Lib.hid hc
  have HA := Lib.hid halt
  clear hc halt
  go_enter Tryd.func23, Tryd.ntmps23
  go_wp2_with fail
  refine (rows_any a len cap zs _ c _ H0.out HA.out most h0 h1).mono ?_
  rintro e w1 ⟨v, L, τ1, hf1, rfl, hw1, hc1, ho1⟩
  have hll := rowsS_length zs len most σ h0
  rw [hf1] at hll
  have hl1 : L.length ≤ 1000 := by
    have : (L.length : Int) ≤ most := hll
    omega
  clear hll
  have F1 := Lib.hid hf1
  have H1 := Lib.hid hc1
  have O1 := Lib.hid ho1
  have W1 := Lib.hid hw1
  clear hf1 hc1 ho1 hw1
  go_wp2_with fail
  refine (once_any a len cap zs _ c _ H1.out 14 (by omega) (by omega)).mono ?_
  rintro e w2 ⟨x, τ2, hf2, rfl, hc2, ho2⟩
  have F2 := Lib.hid hf2
  have H2 := Lib.hid hc2
  have O2 := Lib.hid (O1.out.trans ho2)
  have W2 := Lib.hid (own_onlyR W1.out ho2 hcl)
  clear hf2 hc2 ho2 H1 O1 W1
  by_cases hx : x = 0
  · subst hx
    have HA2 := Lib.hid fun y hy hp => Nat.lt_of_lt_of_le (HA.out y hy hp) O2.out.size
    go_wp2_with fail
    refine (any_any a len cap zs _ c _ H2.out HA2.out).mono ?_
    rintro e w3 ⟨r, τ3, hf3, rfl, hc3, ho3⟩
    have HR : Hid (bentS zs len most σ = (L ++ [r], τ3)) := by
      show _ = _
      unfold bentS
      rw [F1.out]
      simp only []
      rw [F2.out]
      simp only []
      first | rw [if_pos rfl] | rw [if_pos trivial]
      rw [hf3]
    have H3 := Lib.hid hc3
    have O3 := Lib.hid (O2.out.trans ho3)
    have W3 := Lib.hid (own_onlyR W2.out ho3 hcl)
    have hsz := O3.out.size
    clear hf3 hc3 ho3 H2 O2 W2
    go_wp2_with (at_builtin; refine wpList_pushR (.tmp 11) (.tmp 14) r w3.heap.size rfl rfl rfl rfl rfl W3.out hsz (by omega) ?_; intro v4 w4 hown4 hb4 hrest4)
    go_ret
    exact ⟨_, _, τ3, HR.out, rfl, hown4, H3.out.below hb4 hcl fun x hx hp => HA.out x hx hp, O3.out.step hb4⟩
  · have hd : (x == 0) = false := beq_eq_false_iff_ne.2 hx
    have HR : Hid (bentS zs len most σ = (L, τ2)) := by
      show _ = _
      unfold bentS
      rw [F1.out]
      simp only []
      rw [F2.out]
      simp only []
      rw [if_neg hx]
    clear hx
    go_wp2_with fail
    go_ret
    exact ⟨_, L, τ2, HR.out, rfl, W2.out, H2.out, O2.out⟩
end Go.Proofs.YtpnbnbhifpcelaaDoor
/- One slice of rows, as a law's draw gives it. -/
namespace Go.Proofs.YtpnbnbhifpcelaaDoor
open Go.RowKit
def OneRows (w : World) (e : Ending) (w' : World) : Prop := ∃ (x : Option Addr) (n m : Nat) (L : List R), e = .returned (.slice x n m) ∧ n ≤ 1000 ∧ (∀ r ∈ L, r.wf) ∧ IsRows w' x n L ∧ Below w.heap.size w w'
end Go.Proofs.YtpnbnbhifpcelaaDoor
/- DrawReferenceJoin: what it gives. -/
namespace Go.Proofs.YtpnbnbhifpcelaaDoor
open Go.RowKit
def IntRows2 (w : World) (e : Ending) (w' : World) : Prop := ∃ (k : Int) (x y : Value) (L M : List R), e = .returned (.tuple #[.int .i64 k, x, y]) ∧ L.length ≤ 901 ∧ M.length ≤ 901 ∧ (∀ r ∈ L, r.wf) ∧ (∀ r ∈ M, r.wf) ∧ w'.ownsRow w.heap.size 50 3 x L.length (cells3 L) ∧ w'.ownsRow w.heap.size 50 3 y M.length (cells3 M) ∧ (∀ b, x.ownBlock = some b → y.ownBlock ≠ some b) ∧ Below w.heap.size w w'
end Go.Proofs.YtpnbnbhifpcelaaDoor
/- States told by trees: calls whose answer is one of several, rows that are drawn, a law's bytes. -/
namespace Go.Proofs.YtpnbnbhifpcelaaDoor.V
open Go Go.RowKit
set_option linter.unusedVariables false
variable {P : Program} {E : Env} {N nb : Nat} {σ σ' τ : VS} {o : Oper} {a : Act} {w : World} {G : Ghost} {Q : Exit → Act → World → Prop} {K : Act → World → Prop}
def VCE {Y : Type} (Φ : World → Prop) (Pr : Y → Prop) (P : Program) (f : FuncId) (ins : List (Bool × List T)) (tup : Bool) (rs : Y → List (Bool × List T)) : Prop := ∀ (w : World), Φ w → ∀ (vs : List Value), ArgsIn (Env.of w) w ins vs → Calls P f vs.toArray w fun e w' => ∃ y, Pr y ∧ Gives (Env.of w) tup (rs y) e w'
theorem SV.callE {Y : Type} {Φ : World → Prop} {Pr : Y → Prop} (hD : E.keeps Φ) {d : Nat} {f : FuncId} {xs : List Operand} {ats : Array TypeId} {qs : List (Bool × List T)} {tup : Bool} {rs : Y → List (Bool × List T)} {rest : List Oper} {ops : Array Oper} (ho : o.op = .call { callee := .value (.func f), args := xs.toArray, argTypes := ats }) (hb : ∃ fn c, P.funcs[f]? = some fn ∧ fn.body = some c ∧ fn.name ≠ "runtime.NumGoroutine")
    (hc : VCE Φ Pr P f qs tup rs) (hx : σ.argss xs qs) (hd : o.dst = some d) (hdN : d < N) (hg : o.guard = none) (k : ∀ y, Pr y → SV E N ((ansSs σ (rs y)).put d ⟨tup, ansLs σ.nx (rs y)⟩) (wpList P ops Q rest)) : SV E N σ (wpList P ops Q (o :: rest)) := fun a w G h => by
  refine wpList_step fun K hK => ?_
  rw [if_pos (by simp [Region.wanted, hg])]
  obtain ⟨fn, c, h1, h2, h2'⟩ := hb
  have hcall := hc w (hD.at h.below) (xs.map a.eval) (h.args hx)
  have hrun : (execOp a.eval o).run P w = .ok (.enter f (xs.map a.eval).toArray) w := by
    simp [execOp, ho, resolve, Act.eval, Deferred.ofValue, invoke, callFunc, h1, h2, h2', Result.andThen]
  unfold Oper.wp
  rw [hrun]
  refine hcall.mono fun e w' ⟨y0, hy0, uss, F, h3, h4, h5, h6, h6', h7'⟩ => ?_
  have h7 : Below w.heap.size w w' := ⟨h7'.os, h7'.tape, h7'.output, h7'.size, fun k hk => h7'.block k (Env.of_old.2 hk)⟩
  subst h4
  have h' := h.ext h7
  obtain ⟨G', k1, k2, k3, k4, k5, k6, k7, k8⟩ := h'.addAlls (rs y0) uss F h3 (fun c ag ts us hc hu => ⟨(h5 c ag ts us hc hu).1, fun j t u hj hu' => (h5 c ag ts us hc hu).2 j t u hj hu'⟩) (fun c j b hb => by
    have hbw : w.heap.size ≤ b := (h6' c j b hb).1.elim id fun h => h.elim
    exact ⟨⟨fun i hi hf => by have := (h.ftlt i b hi hf).2; omega, (h.fresh hbw).2⟩, .inl (Nat.le_trans h.low hbw), (h6' c j b hb).2⟩) h6
  rw [hd]
  refine hK _ _ (k y0 hy0 _ _ _ (k1.put hdN ⟨uss, h3.trans k3.symm, ?_, fun c ag xs us hc hu => ⟨(k4 c ag xs us hc hu).1, (k4 c ag xs us hc hu).2.2⟩⟩))
  congr 1
  apply List.ext_getElem?
  intro c
  rw [List.getElem?_zipWith, List.getElem?_zipWith]
  cases hq : (ansLs σ.nx (rs y0))[c]? with
  | none =>
    have : (rs y0)[c]? = none := by rw [List.getElem?_eq_none_iff] at hq ⊢; omega
    rw [this]
  | some q =>
    obtain ⟨ag, xs'⟩ := q
    have hcl : c < uss.length := by have := get_lt hq; omega
    obtain ⟨-, ⟨ts, hts⟩, -⟩ := k4 c ag xs' uss[c] hq (List.getElem?_eq_getElem hcl)
    rw [hts, List.getElem?_eq_getElem hcl]
theorem own_rows {w : World} {B : Nat} {v : Value} {L : List R} (h : w.ownsRow B 50 3 v L.length (cells3 L)) : Own w 0 (.seq 50 (L.map tRow)) v (fun b => v.ownBlock = some b) := by
  have hc : ∀ (k j : Nat) (e : List T) (t : T) (u : Value), (L.map tRow)[k]? = some e → e[j]? = some t → (cells3 L)[k * 3 + j]? = some u → t = .lit u ∧ u.oneCell' = true := fun k j e t u h1 h2 h3 => by
    rw [List.getElem?_map] at h1
    obtain ⟨r, hr, rfl⟩ := Option.map_eq_some_iff.1 h1
    have hk := get_lt hr
    obtain ⟨e0, e1, e2⟩ := cells3_get L k hk
    have hd : L.getD k R.zero = r := by simp [List.getD, hr]
    rw [hd] at e0 e1 e2
    match j, h2, h3 with
    | 0, h2, h3 => cases h2; rw [Nat.add_zero, e0] at h3; cases h3; exact ⟨rfl, rfl⟩
    | 1, h2, h3 => cases h2; rw [e1] at h3; cases h3; exact ⟨rfl, rfl⟩
    | 2, h2, h3 => cases h2; rw [e2] at h3; cases h3; exact ⟨rfl, rfl⟩
  refine .seq 3 (by decide) sz_impl_Row (fun e he => by obtain ⟨x, -, rfl⟩ := List.mem_map.1 he; rfl) (cells3 L) (by rw [List.length_map]; exact Row.of (ownsRow_lower h (Nat.zero_le _))) (fun _ _ => False) (fun k e j t u h1 h2 h3 => ?_) (fun u hu => ?_) (fun b hb => hb) (fun q b hb => hb.elim) (fun q b hb => hb.elim) fun q q' b hb => hb.elim
  · obtain ⟨rfl, ho⟩ := hc k j e t u h1 h2 h3
    exact .lit ho
  · obtain ⟨r, -, hr⟩ := List.mem_flatMap.1 (show u ∈ L.flatMap fun r => [.int .i64 r.key, .int .i64 r.value, .int .i64 r.width] from hu)
    simp at hr
    rcases hr with rfl | rfl | rfl <;> rfl
end Go.Proofs.YtpnbnbhifpcelaaDoor.V
/- States told by trees: functions that draw from a cursor: a pinned box holds it. -/
namespace Go.Proofs.YtpnbnbhifpcelaaDoor.V
open Go Go.RowKit
set_option linter.unusedVariables false
variable {P : Program} {E : Env} {N nb : Nat} {σ σ' τ : VS} {o : Oper} {a : Act} {w : World} {G : Ghost} {Q : Exit → Act → World → Prop} {K : Act → World → Prop} {ad : Option Addr} {len cap : Nat} {zs : List Int}
def Env.code (E : Env) (ad : Option Addr) (len cap : Nat) (zs : List Int) : Prop := Code ad len cap zs E.w0 ∧ ∀ x, ad = some x → 0 < cap → ¬ E.ln x.block
theorem Env.code.at (h : E.code ad len cap zs) (hs : Same E E.w0 w) : Code ad len cap zs w :=
  ⟨h.1.row.keep fun x hx hp _ => hs.block x.block ⟨h.1.old x hx hp, h.2 x hx hp⟩, h.1.small, fun x hx hp => Nat.lt_of_lt_of_le (h.1.old x hx hp) hs.size⟩
def curL (ad : Option Addr) (len cap : Nat) (p h : Int) : List Leaf := [.sc (.slice ad len cap), .sc (.int .i64 p), .sc (.int .i64 h)]
def GivesC (w : World) (c : Nat) (tup : Bool) (rs : List (Bool × List T)) (e : Ending) (w' : World) : Prop :=
  ∃ (uss : List (List Value)) (F : Nat → Nat → Nat → Prop), uss.length = rs.length ∧ e = .returned (vval tup (List.zipWith (fun r us => cval r.1 us) rs uss)) ∧
    (∀ (c' : Nat) (ag : Bool) (ts : List T) (us : List Value), rs[c']? = some (ag, ts) → uss[c']? = some us → us.length = ts.length ∧ ∀ (j : Nat) (t : T) (u : Value), ts[j]? = some t → us[j]? = some u → Own w' 0 t u (F c' j)) ∧
    (∀ c1 j c2 j' b, F c1 j b → F c2 j' b → c1 = c2 ∧ j = j') ∧ (∀ c1 j b, F c1 j b → w.heap.size ≤ b ∧ b < w'.heap.size) ∧ Only c w w'
def VK {Y : Type} (ad : Option Addr) (len cap : Nat) (zs : List Int) (Pr : Y → Prop) (P : Program) (f : FuncId) (xs : List Value) (tup : Bool) (rs : Y → List (Bool × List T)) : Prop :=
  ∀ (w : World) (c : Nat) (σ : Int × Int), Code ad len cap zs w → Cur ad len cap zs σ w c → Calls P f (Value.pointer (some ⟨c, 0, none⟩) :: xs).toArray w fun e w' => ∃ y τ, Pr y ∧ Cur ad len cap zs τ w' c ∧ GivesC w c tup (rs y) e w'
theorem givesC_lit {c : Nat} {w' : World} {v : Value} (h1 : v.oneCell' = true) (h : Only c w w') : GivesC w c false [(false, [.lit v])] (.returned v) w' :=
  ⟨[[v]], fun _ _ _ => False, rfl, rfl, fun c' ag ts us hc hu => by
    match c', hc, hu with
    | 0, hc, hu => cases hc; cases hu; exact ⟨rfl, fun j t u h2 h3 => by match j, h2, h3 with | 0, h2, h3 => cases h2; cases h3; exact .lit h1⟩, fun _ _ _ _ _ h => h.elim, fun _ _ _ h => h.elim, h⟩
theorem givesC_rows {c : Nat} {w' : World} {v : Value} {L : List R} (ho : w'.ownsRow w.heap.size 50 3 v L.length (cells3 L)) (h : Only c w w') : GivesC w c false [(false, [.seq 50 (L.map tRow)])] (.returned v) w' :=
  ⟨[[v]], fun c1 j b => c1 = 0 ∧ j = 0 ∧ v.ownBlock = some b, rfl, rfl, fun c' ag ts us hc hu => by
    match c', hc, hu with
    | 0, hc, hu => cases hc; cases hu; exact ⟨rfl, fun j t u h2 h3 => by match j, h2, h3 with | 0, h2, h3 => cases h2; cases h3; exact (own_rows ho).mono fun b hb => ⟨rfl, rfl, hb⟩⟩, fun _ _ _ _ _ h h' => ⟨h.1.trans h'.1.symm, h.2.1.trans h'.2.1.symm⟩, fun _ _ b h => World.ownsRow.lt ho b h.2.2, h⟩
theorem vk_below (n : Int) (h1 : 1 ≤ n) (h2 : n ≤ 1000000000) : VK ad len cap zs (fun x : Int => 0 ≤ x ∧ x < n) Tryd.prog 53 [.int .i64 n] false fun x => [(false, [.lit (.int .i64 x)])] := fun w c σ hC hc =>
  (below_any ad len cap zs σ c w hc n h1 h2).mono fun e w' ⟨x, τ, hf, he, hc', ho⟩ => ⟨x, τ, belowS_range h1 hf, hc', by rw [he]; exact givesC_lit rfl ho⟩
theorem vk_once (n : Int) (h1 : 1 ≤ n) (h2 : n ≤ 1000000000) : VK ad len cap zs (fun _ : Bool => True) Tryd.prog 45 [.int .i64 n] false fun x => [(false, [.lit (.bool x)])] := fun w c σ hC hc =>
  (once_any ad len cap zs σ c w hc n h1 h2).mono fun e w' ⟨x, τ, hf, he, hc', ho⟩ => ⟨x == 0, τ, trivial, hc', by rw [he]; exact givesC_lit rfl ho⟩
theorem vk_rows (n : Int) (h1 : 0 ≤ n) (h2 : n ≤ 1000) : VK ad len cap zs (fun L : List R => (L.length : Int) ≤ n ∧ ∀ r ∈ L, r.wf) Tryd.prog 44 [.int .i64 n] false fun L => [(false, [.seq 50 (L.map tRow)])] := fun w c σ hC hc =>
  (rows_any ad len cap zs σ c w hc hC.old n h1 h2).mono fun e w' ⟨v, L, τ, hf, he, hw, hc', ho⟩ => ⟨L, τ, ⟨by have := rowsS_length zs len n σ h1; rwa [hf] at this, by have := rowsS_wf zs len n σ; rwa [hf] at this⟩, hc', by rw [he]; exact givesC_rows hw ho⟩
theorem vk_bent (n : Int) (h1 : 0 ≤ n) (h2 : n ≤ 900) : VK ad len cap zs (fun L : List R => (L.length : Int) ≤ n + 1 ∧ ∀ r ∈ L, r.wf) Tryd.prog 23 [.int .i64 n] false fun L => [(false, [.seq 50 (L.map tRow)])] := fun w c σ hC hc =>
  (bent_any ad len cap zs σ c w hc hC.old n h1 (by omega)).mono fun e w' ⟨v, L, τ, hf, he, hw, hc', ho⟩ => ⟨L, τ, ⟨by have := bentS_length zs len n σ h1; rwa [hf] at this, by have := bentS_wf zs len n σ; rwa [hf] at this⟩, hc', by rw [he]; exact givesC_rows hw ho⟩
theorem Rel.answer (h : Rel E N σ a w G) {fn : Func} {rs : List ResultVar} {ps : List (Bool × List Leaf)} {tup : Bool} {qs : List (Bool × List T)} (hf : fn.results = rs.toArray) (hr : ResAll P σ rs ps) (ho : σ.outss ps qs) (ht : (!(Nat.beq qs.length 1)) = tup) (h2 : (ps.flatMap (·.2)).Pairwise two) : a.defers = [] ∧ ∃ v, (results fn a.tmps).run P w = .ok v w ∧ ∃ (uss : List (List Value)) (F : Nat → Nat → Nat → Prop), uss.length = qs.length ∧ Ending.returned v = .returned (vval tup (List.zipWith (fun (r : Bool × List T) us => cval r.1 us) qs uss)) ∧
    (∀ (c : Nat) (ag : Bool) (ts : List T) (us : List Value), qs[c]? = some (ag, ts) → uss[c]? = some us → us.length = ts.length ∧ ∀ (j : Nat) (t : T) (u : Value), ts[j]? = some t → us[j]? = some u → Own w 0 t u (F c j)) ∧
    (∀ c j c' j' b, F c j b → F c' j' b → c = c' ∧ j = j') ∧ ∀ c j b, F c j b → ∃ i, σ.ob i ≠ none ∧ G.ft i b := by
  obtain ⟨uss, h3, h4, h5⟩ := h.resAll hr
  obtain ⟨h6, h7⟩ := outss_get ho
  have hrun := results_run hf h4
  have hlen : (List.zipWith (fun (p : Bool × List Leaf) us => cval p.1 us) ps uss).length = qs.length := by simp [h3, h6]
  have hag : ∀ c ag ts, qs[c]? = some (ag, ts) → ∃ xs, ps[c]? = some (ag, xs) ∧ σ.outs xs ts := h7
  have hzip : List.zipWith (fun (p : Bool × List Leaf) us => cval p.1 us) ps uss = List.zipWith (fun (q : Bool × List T) us => cval q.1 us) qs uss := by
    apply List.ext_getElem?
    intro c
    rw [List.getElem?_zipWith, List.getElem?_zipWith]
    cases hq : qs[c]? with
    | none =>
      have : ps[c]? = none := by rw [List.getElem?_eq_none_iff] at hq ⊢; omega
      rw [this]
    | some q =>
      obtain ⟨ag, ts⟩ := q
      obtain ⟨xs, hp, -⟩ := hag c ag ts hq
      rw [hp]
      cases uss[c]? <;> rfl
  rw [hlen, ht, hzip] at hrun
  refine ⟨h.dfr, _, hrun, uss, (fun c j b => ∃ ag xs x, ps[c]? = some (ag, xs) ∧ xs[j]? = some x ∧ x.foot G b), h3.trans h6, rfl, fun c ag ts us hq hu => ?_, ?_, ?_⟩
  · obtain ⟨xs, hp, hx⟩ := hag c ag ts hq
    obtain ⟨h8, h9⟩ := outs_get hx
    obtain ⟨h10, h11⟩ := h5 c ag xs us hp hu
    refine ⟨h10.trans h8, fun j t u hj hu' => ?_⟩
    obtain ⟨x, hx1, hx2⟩ := h9 j t hj
    exact (h.out (h11 j x u hx1 hu') hx2).mono fun b hb => ⟨ag, xs, x, hp, hx1, hb⟩
  · rintro c j c' j' b ⟨ag, xs, x, h8, h9, h10⟩ ⟨ag', xs', x', h8', h9', h10'⟩
    have key : ∀ {x x' : Leaf}, x.foot G b → x'.foot G b → (∃ t, σ.out x = some t) → (∃ t, σ.out x' = some t) → ¬ two x x' := fun {x x'} k1 k2 k3 k4 k5 => by
      cases x with
      | hd i =>
        cases x' with
        | hd i' =>
          by_cases hii : i = i'
          · exact k5 i rfl (by rw [hii])
          · obtain ⟨t, k3⟩ := k3
            obtain ⟨t', k4⟩ := k4
            obtain ⟨p, e1, -⟩ := Option.map_eq_some_iff.1 k3
            obtain ⟨p', e2, -⟩ := Option.map_eq_some_iff.1 k4
            exact h.disj i i' b (by rw [e1]; simp) (by rw [e2]; simp) hii k1 k2
        | _ => exact k2
      | _ => exact k1
    have hout : ∀ {c j ag xs x}, ps[c]? = some (ag, xs) → xs[j]? = some x → ∃ t, σ.out x = some t := fun {c j ag xs x} k1 k2 => by
      have hc : c < qs.length := by rw [← h6]; exact get_lt k1
      obtain ⟨xs', k3, k4⟩ := hag c qs[c].1 qs[c].2 (by rw [List.getElem?_eq_getElem hc])
      rw [k1] at k3
      cases k3
      obtain ⟨k5, k6⟩ := outs_get k4
      have hj : j < qs[c].2.length := by rw [← k5]; exact get_lt k2
      obtain ⟨y, k7, k8⟩ := k6 j qs[c].2[j] (List.getElem?_eq_getElem hj)
      rw [k2] at k7
      cases k7
      exact ⟨_, k8⟩
    rw [List.pairwise_flatMap] at h2
    have o1 := hout h8 h9
    have o2 := hout h8' h9'
    have hc1 := get_lt h8
    have hc2 := get_lt h8'
    have g1 : ps[c] = (ag, xs) := by rw [List.getElem?_eq_getElem hc1] at h8; exact Option.some.inj h8
    have g2 : ps[c'] = (ag', xs') := by rw [List.getElem?_eq_getElem hc2] at h8'; exact Option.some.inj h8'
    have m1 := get_mem h9
    have m2 := get_mem h9'
    rcases Nat.lt_trichotomy c c' with hcc | hcc | hcc
    · have := (List.pairwise_iff_getElem.1 h2.2) c c' hc1 hc2 hcc x (by rw [g1]; exact m1) x' (by rw [g2]; exact m2)
      exact absurd this (key h10 h10' o1 o2)
    · subst hcc
      rw [h8] at h8'
      cases h8'
      refine ⟨rfl, ?_⟩
      have hp := h2.1 _ (get_mem h8)
      have hj1 := get_lt h9
      have hj2 := get_lt h9'
      have x1 : xs[j] = x := by rw [List.getElem?_eq_getElem hj1] at h9; exact Option.some.inj h9
      have x2 : xs[j'] = x' := by rw [List.getElem?_eq_getElem hj2] at h9'; exact Option.some.inj h9'
      rcases Nat.lt_trichotomy j j' with hjj | hjj | hjj
      · have := (List.pairwise_iff_getElem.1 hp) j j' hj1 hj2 hjj
        rw [x1, x2] at this
        exact absurd this (key h10 h10' o1 o2)
      · exact hjj
      · have := (List.pairwise_iff_getElem.1 hp) j' j hj2 hj1 hjj
        rw [x1, x2] at this
        exact absurd this (key h10' h10 o2 o1)
    · have := (List.pairwise_iff_getElem.1 h2.2) c' c hc2 hc1 hcc x' (by rw [g2]; exact m2) x (by rw [g1]; exact m1)
      exact absurd this (key h10' h10 o2 o1)
  · rintro c j b ⟨ag, xs, x, h8, h9, h10⟩
    have hc : c < qs.length := by rw [← h6]; exact get_lt h8
    obtain ⟨xs', k3, k4⟩ := hag c qs[c].1 qs[c].2 (by rw [List.getElem?_eq_getElem hc])
    rw [h8] at k3
    cases k3
    obtain ⟨k5, k6⟩ := outs_get k4
    have hj : j < qs[c].2.length := by rw [← k5]; exact get_lt h9
    obtain ⟨y, k7, k8⟩ := k6 j qs[c].2[j] (List.getElem?_eq_getElem hj)
    rw [h9] at k7
    cases k7
    cases x with
    | hd i =>
      obtain ⟨p, e1, -⟩ := Option.map_eq_some_iff.1 k8
      exact ⟨i, by rw [e1]; simp, h10⟩
    | _ => exact h10.elim
theorem Rel.newbox (h : Rel E N σ a w G) {w' : World} {c : Nat} (hb : Below w.heap.size w w') (hge : w.heap.size ≤ c) {ty : TypeId} {us : List Value} {xs : List Leaf} (hnew : w'.heap[c]? = some (.cells us.toArray ty (0, 0))) (hl : us.length = xs.length) (hx : ∀ (j : Nat) (x : Leaf) (u : Value), xs[j]? = some x → us[j]? = some u → Holds G σ E w x u ∧ u.oneCell' = true) :
    ∃ G', Rel E N { σ with bs := σ.bs ++ [(ty, xs)] } a w' G' ∧ G'.β σ.bs.length = c ∧ G'.vl = G.vl ∧ ∀ b, b < σ.bs.length → G'.β b = G.β b := by
  have h' := h.ext hb
  have hlt : ∀ b ty xs, σ.bs[b]? = some (ty, xs) → G.β b < w.heap.size := fun b ty xs hb => by
    obtain ⟨-, us, h2, -⟩ := h.boxes b ty xs hb
    exact lt_of_block h2
  have hlt' : ∀ b, b < σ.bs.length → G.β b < w.heap.size := fun b hb => hlt b _ _ (List.getElem?_eq_getElem hb)
  obtain ⟨G', hG'⟩ : ∃ G' : Ghost, G' = { G with β := fun b => if b = σ.bs.length then c else G.β b } := ⟨_, rfl⟩
  have hβ : ∀ b, b < σ.bs.length → G'.β b = G.β b := fun b hb => by rw [hG']; exact if_neg (by omega)
  have hβ' : G'.β σ.bs.length = c := by rw [hG']; exact if_pos rfl
  have hvl : G'.vl = G.vl := by rw [hG']
  have hft : G'.ft = G.ft := by rw [hG']
  have s : Step E σ { σ with bs := σ.bs ++ [(ty, xs)] } w' w' G G' := ⟨Nat.le_refl _, fun b hb' => rfl, Nat.le_refl _, by simp, fun i _ => by rw [hvl], hβ,
    fun i v' t' hi hv => ⟨v', t', hv, Nat.le_refl _, fun _ => ⟨rfl, fun b hb' => (h'.ftlt i b (by rw [show σ.ob i = some (v', t') from hv]; simp) hb').2, fun b hb' => ⟨by rw [hft]; exact hb', rfl⟩⟩⟩⟩
  refine ⟨G', ⟨h'.below, h.dfr, h.nsz, fun k => (h'.tmps k).step fun x u hx => h'.leaf s hx, fun b ty' xs' hb' => ?_, fun b b' hb1 hb2 e => ?_, fun b i hb1 hi hb2 => ?_, fun i v t hi => ?_, ?_, ?_, ⟨h.lent.1, fun i hi => by rw [hvl]; exact h.lent.2.1 i hi, fun c' hc => ⟨by simp, (hβ 0 (h.lent.2.2 c' hc).1).trans (h.lent.2.2 c' hc).2⟩⟩⟩, hβ', hvl, hβ⟩
  · rcases Nat.lt_or_ge b σ.bs.length with hbl | hbl
    · have hb2 : σ.bs[b]? = some (ty', xs') := by rw [List.getElem?_append_left hbl] at hb'; exact hb'
      obtain ⟨h1, us', h2, h3, h4⟩ := h'.boxes b ty' xs' hb2
      rw [hβ b hbl]
      exact ⟨h1, us', h2, h3, fun j x u hx' hu => ⟨h'.leaf s (h4 j x u hx' hu).1, (h4 j x u hx' hu).2⟩⟩
    · have hbe : b = σ.bs.length := by have := get_lt hb'; simp at this; omega
      subst hbe
      have he : (ty, xs) = (ty', xs') := by simpa using hb'
      injection he with e1 e2
      subst e1 e2
      rw [hβ']
      refine ⟨.inl (Nat.le_trans h.low hge), us, hnew, hl, fun j x u hx' hu => ⟨?_, (hx j x u hx' hu).2⟩⟩
      have s0 : Step E σ σ w w' G G := ⟨hb.size, fun b hb' => hb.block b (Nat.lt_of_lt_of_le hb'.1 h.low), Nat.le_refl _, Nat.le_refl _, fun _ _ => rfl, fun _ _ => rfl,
        fun i v' t' hi hv => ⟨v', t', hv, Nat.le_refl _, fun _ => ⟨rfl, fun b hb' => (h.ftlt i b (by rw [hv]; simp) hb').2, fun b hb' => ⟨hb', hb.block b (h.ftlt i b (by rw [hv]; simp) hb').2⟩⟩⟩⟩
      exact h'.leaf s (h.leaf s0 (hx j x u hx' hu).1)
  · have hb1' : b ≤ σ.bs.length := by simpa [Nat.lt_succ_iff] using hb1
    have hb2' : b' ≤ σ.bs.length := by simpa [Nat.lt_succ_iff] using hb2
    rcases Nat.lt_or_ge b σ.bs.length with hbl | hbl <;> rcases Nat.lt_or_ge b' σ.bs.length with hbl' | hbl'
    · rw [hβ b hbl, hβ b' hbl'] at e
      exact h.inj b b' hbl hbl' e
    · rw [hβ b hbl, show b' = σ.bs.length by omega, hβ'] at e
      have := hlt' b hbl
      omega
    · rw [hβ b' hbl', show b = σ.bs.length by omega, hβ'] at e
      have := hlt' b' hbl'
      omega
    · omega
  · have hb1' : b ≤ σ.bs.length := by simpa [Nat.lt_succ_iff] using hb1
    rw [hft] at hb2
    rcases Nat.lt_or_ge b σ.bs.length with hbl | hbl
    · rw [hβ b hbl] at hb2
      exact h.boxft b i hbl hi hb2
    · rw [show b = σ.bs.length by omega, hβ'] at hb2
      have := (h.ftlt i _ hi hb2).2
      omega
  · rw [hvl, hft]; exact h'.objs i v t hi
  · rw [hft]; exact h'.disj
  · rw [hft]; exact h'.ftlt
theorem wanted0 {f : Nat → Option Bool} (hg : o.guard = none) : Region.wanted o f = true := by simp [Region.wanted, hg]
theorem callK_core {Y : Type} {Pr : Y → Prop} (hC : E.code ad len cap zs) {d b : Nat} {f : FuncId} {x0 : Operand} {xs : List Operand} {us : List Value} {ats : Array TypeId} {tup : Bool} {rs : Y → List (Bool × List T)} {p h0 : Int} (ho : o.op = .call { callee := .value (.func f), args := (x0 :: xs).toArray, argTypes := ats }) (hb : ∃ fn c, P.funcs[f]? = some fn ∧ fn.body = some c ∧ fn.name ≠ "runtime.NumGoroutine")
    (hc : VK ad len cap zs Pr P f us tup rs) (hx0 : σ.ev x0 = V.one (.bp b 0)) (hx : σ.scs xs us) (hbx : σ.bs[b]? = some (64, curL ad len cap p h0)) (hp : 0 ≤ p ∧ p ≤ len) (hd : o.dst = some d) (hdN : d < N) {a : Act} {w : World} {G : Ghost} (h : Rel E N σ a w G) {K : Act → World → Prop} (hK : ∀ (y : Y) (p' h' : Int) (a' : Act) (w' : World) (G' : Ghost), Pr y → 0 ≤ p' ∧ p' ≤ len → Rel E N ((ansSs (σ.setb b 64 (curL ad len cap p' h')) (rs y)).put d ⟨tup, ansLs σ.nx (rs y)⟩) a' w' G' → Only (G.β b) w w' → (∀ i, i < σ.nx → G'.vl i = G.vl i) → G'.β = G.β → σ.nx ≤ (ansSs (σ.setb b 64 (curL ad len cap p' h')) (rs y)).nx → K a' w') : o.wp P a w K Q := by
  obtain ⟨fn, c, h1, h2, h2'⟩ := hb
  obtain ⟨hB, us0, b1, b2, b3⟩ := h.boxes b _ _ hbx
  have hus0 : us0 = [.slice ad len cap, .int .i64 p, .int .i64 h0] := by
    match us0, b2 with
    | [u, v, z], _ =>
      have e1 : u = .slice ad len cap := (b3 0 _ u rfl rfl).1.1
      have e2 : v = .int .i64 p := (b3 1 _ v rfl rfl).1.1
      have e3 : z = .int .i64 h0 := (b3 2 _ z rfl rfl).1.1
      rw [e1, e2, e3]
  subst hus0
  have hcode := hC.at h.below
  have hcur : Cur ad len cap zs (p, h0) w (G.β b) := ⟨hcode.row, fun x hx hpos e => by
    have hlt := hC.1.old x hx hpos
    rcases hB with hB | hB
    · rw [← e] at hB; exact absurd hlt (Nat.not_lt.2 hB)
    · rw [← e] at hB; exact hC.2 x hx hpos hB, hp.1, hp.2, b1⟩
  have hcall := hc w (G.β b) (p, h0) hcode hcur
  have hx0v : a.eval x0 = .pointer (some ⟨G.β b, 0, none⟩) := by
    have := h.ev x0
    rw [hx0, vone] at this
    exact this.1.2
  have hev : (x0 :: xs).map a.eval = Value.pointer (some ⟨G.β b, 0, none⟩) :: us := by rw [List.map_cons, hx0v, (h.scs hx).1]
  have hrun : (execOp a.eval o).run P w = .ok (.enter f ((x0 :: xs).map a.eval).toArray) w := by
    simp [execOp, ho, resolve, Act.eval, Deferred.ofValue, invoke, callFunc, h1, h2, h2', Result.andThen]
  unfold Oper.wp
  rw [hrun, hev]
  refine hcall.mono fun e w' ⟨y0, τ0, hy0, hcur', uss, F, h3, h4, h5, h6, h6', h7'⟩ => ?_
  subst h4
  obtain ⟨p', h'0⟩ := τ0
  have hβlt : G.β b < w.heap.size := lt_of_block b1
  obtain ⟨w1, hw1⟩ : ∃ w1 : World, w1 = { w with heap := w.heap.setIfInBounds (G.β b) (.cells #[.slice ad len cap, .int .i64 p', .int .i64 h'0] 64 (0, 0)) } := ⟨_, rfl⟩
  have hsz1 : w1.heap.size = w.heap.size := by rw [hw1]; simp
  have hfar : ∀ k, k ≠ G.β b → w1.heap[k]? = w.heap[k]? := fun k hk => by rw [hw1]; simp [Array.getElem?_setIfInBounds_ne (Ne.symm hk)]
  have hnew1 : w1.heap[G.β b]? = some (.cells #[.slice ad len cap, .int .i64 p', .int .i64 h'0] 64 (0, 0)) := by rw [hw1]; simp [hβlt]
  have hsame1 : Same E w w1 := ⟨by rw [hw1], by rw [hw1], by rw [hw1], by rw [hsz1]; exact Nat.le_refl _, fun k hk => hfar k fun e => by
    subst e
    exact hB.elim (fun hB => Nat.lt_irrefl _ (Nat.lt_of_lt_of_le hk.1 hB)) hk.2⟩
  have hr1 := h.setbox (us' := [.slice ad len cap, .int .i64 p', .int .i64 h'0]) (xs' := curL ad len cap p' h'0) (w' := w1) hbx hsame1 hfar hnew1 rfl fun j x u hj hu => by
    match j, hj, hu with
    | 0, hj, hu => cases hj; cases hu; exact ⟨⟨rfl, .inr rfl⟩, rfl⟩
    | 1, hj, hu => cases hj; cases hu; exact ⟨⟨rfl, .inr rfl⟩, rfl⟩
    | 2, hj, hu => cases hj; cases hu; exact ⟨⟨rfl, .inr rfl⟩, rfl⟩
  have h7 : Below w1.heap.size w1 w' := ⟨by rw [h7'.os, hw1], by rw [h7'.tape, hw1], by rw [h7'.output, hw1], by rw [hsz1]; exact h7'.size, fun k hk => by
    by_cases hkb : k = G.β b
    · subst hkb; exact hcur'.cell.trans hnew1.symm
    · rw [hfar k hkb]; exact h7'.block k (by rw [hsz1] at hk; exact hk) fun e => hkb (Option.some.inj e)⟩
  have h' := hr1.ext h7
  have hfresh : ∀ q, w.heap.size ≤ q → Fresh σ G q := fun q hq => h.fresh hq
  obtain ⟨G', k1, k2, k3, k4, k5, k6, k7, k8⟩ := Rel.addAlls (rs y0) uss F h' h3 (fun c ag ts us hc hu => ⟨(h5 c ag ts us hc hu).1, fun j t u hj hu' => (h5 c ag ts us hc hu).2 j t u hj hu'⟩) (fun c j b hb => by
    have hbw : w.heap.size ≤ b := (h6' c j b hb).1
    exact ⟨⟨fun i hi hf => by have := (h.ftlt i b hi hf).2; omega, fun q hq => (h.fresh hbw).2 q (by simpa using hq)⟩, .inl (Nat.le_trans h.low hbw), (h6' c j b hb).2⟩) h6
  have k3 : (ansLs σ.nx (rs y0)).length = (rs y0).length := k3
  rw [hd]
  refine hK y0 p' h'0 _ _ _ hy0 ⟨hcur'.low, hcur'.high⟩ (k1.put hdN ⟨uss, h3.trans k3.symm, ?_, fun c ag xs us hc hu => ⟨(k4 c ag xs us hc hu).1, (k4 c ag xs us hc hu).2.2⟩⟩) h7' k6 k7 k5
  congr 1
  apply List.ext_getElem?
  intro c
  rw [List.getElem?_zipWith, List.getElem?_zipWith]
  cases hq : (ansLs σ.nx (rs y0))[c]? with
  | none =>
    have : (rs y0)[c]? = none := by rw [List.getElem?_eq_none_iff] at hq ⊢; omega
    rw [this]
  | some q =>
    obtain ⟨ag, xs'⟩ := q
    have hcl : c < uss.length := by have := get_lt hq; omega
    obtain ⟨-, ⟨ts, hts⟩, -⟩ := k4 c ag xs' uss[c] hq (List.getElem?_eq_getElem hcl)
    rw [hts, List.getElem?_eq_getElem hcl]
theorem SV.callK {Y : Type} {Pr : Y → Prop} (hC : E.code ad len cap zs) {d b : Nat} {f : FuncId} {x0 : Operand} {xs : List Operand} {us : List Value} {ats : Array TypeId} {tup : Bool} {rs : Y → List (Bool × List T)} {rest : List Oper} {ops : Array Oper} {p h0 : Int} (ho : o.op = .call { callee := .value (.func f), args := (x0 :: xs).toArray, argTypes := ats }) (hb : ∃ fn c, P.funcs[f]? = some fn ∧ fn.body = some c ∧ fn.name ≠ "runtime.NumGoroutine")
    (hc : VK ad len cap zs Pr P f us tup rs) (hx0 : σ.ev x0 = V.one (.bp b 0)) (hx : σ.scs xs us) (hbx : σ.bs[b]? = some (64, curL ad len cap p h0)) (hp : 0 ≤ p ∧ p ≤ len) (hd : o.dst = some d) (hdN : d < N) (hw : ∀ {a w G}, Rel E N σ a w G → Region.wanted o (yielded ops a.tmps) = true)
    (k : ∀ (y : Y) (p' h' : Int), Pr y → 0 ≤ p' ∧ p' ≤ len → SV E N ((ansSs (σ.setb b 64 (curL ad len cap p' h')) (rs y)).put d ⟨tup, ansLs σ.nx (rs y)⟩) (wpList P ops Q rest)) : SV E N σ (wpList P ops Q (o :: rest)) := fun a w G h => by
  refine wpList_step fun K hK => ?_
  rw [if_pos (hw h)]
  exact callK_core hC ho hb hc hx0 hx hbx hp hd hdN h fun y p' h' a' w' G' hy hp' hr _ _ _ _ => hK _ _ (k y p' h' hy hp' _ _ _ hr)
theorem SV.callNew (hC : E.code ad len cap zs) {d kk : Nat} {x0 : Operand} {ats : Array TypeId} {rest : List Oper} {ops : Array Oper} (hk : σ.bs.length = kk) (hb0 : ∃ fn c, Tryd.prog.funcs[22]? = some fn ∧ fn.body = some c ∧ fn.name ≠ "runtime.NumGoroutine") (ho : o.op = .call { callee := .value (.func 22), args := #[x0], argTypes := ats }) (hx0 : σ.ev x0 = V.one (.sc (.slice ad len cap))) (hd : o.dst = some d) (hdN : d < N) (hg : o.guard = none)
    (k : ∀ h0 : Int, SV E N (({ σ with bs := σ.bs ++ [(64, curL ad len cap 0 h0)] } : VS).put d (V.one (.bp kk 0))) (wpList Tryd.prog ops Q rest)) : SV E N σ (wpList Tryd.prog ops Q (o :: rest)) := fun a w G h => by
  subst hk
  refine wpList_step fun K hK => ?_
  rw [if_pos (by simp [Region.wanted, hg])]
  have hcode := hC.at h.below
  have hx0v : a.eval x0 = .slice ad len cap := h.sc hx0
  have hrun : (execOp a.eval o).run Tryd.prog w = .ok (.enter 22 #[.slice ad len cap]) w := by
    obtain ⟨fn, c, h1, h2, h2'⟩ := hb0
    have e0 : a.eval (.func 22) = .func (.func 22) #[] #[] := rfl
    simp [execOp, ho, hx0v, e0, resolve, Deferred.ofValue, invoke, callFunc, h1, h2, h2', Result.andThen]
  unfold Oper.wp
  rw [hrun]
  refine (new_any ad len cap zs w hcode.row hcode.small hcode.old).mono fun e w' ⟨c, he, hcur, hge, hb⟩ => ?_
  subst he
  obtain ⟨G', k1, k2, k3, k4⟩ := h.newbox (us := [.slice ad len cap, .int .i64 0, .int .i64 (newH zs len)]) (xs := curL ad len cap 0 (newH zs len)) hb hge hcur.cell rfl fun j x u hj hu => by
    match j, hj, hu with
    | 0, hj, hu => cases hj; cases hu; exact ⟨⟨rfl, .inr rfl⟩, rfl⟩
    | 1, hj, hu => cases hj; cases hu; exact ⟨⟨rfl, .inr rfl⟩, rfl⟩
    | 2, hj, hu => cases hj; cases hu; exact ⟨⟨rfl, .inr rfl⟩, rfl⟩
  rw [hd]
  exact hK _ _ (k (newH zs len) _ _ _ (k1.put hdN (vone.2 ⟨⟨by simp, by rw [k2]⟩, .inr rfl⟩)))
theorem SV.doneE {Y : Type} {Pr : Y → Prop} {fn : Func} {rvs : List ResultVar} {ps : List (Bool × List Leaf)} {tup : Bool} {rs : Y → List (Bool × List T)} (y : Y) (hy : Pr y) (hf : fn.results = rvs.toArray) (hr : ResAll P σ rvs ps) (ho : σ.outss ps (rs y)) (ht : (!(Nat.beq (rs y).length 1)) = tup) (h2 : (ps.flatMap (·.2)).Pairwise two) {e : Exit} (he : e = .ret ∨ e = .normal) : SV E N σ (bodyPost P fn (fun e w' => ∃ y, Pr y ∧ Gives E tup (rs y) e w') e) := fun a w G h => by
  have h1 := SV.done (P := P) (E := E) (N := N) (σ := σ) hf hr ho ht h2 he a w G h
  rcases he with rfl | rfl
  all_goals
    obtain ⟨h3, v, h4, h5⟩ := h1
    exact ⟨h3, v, h4, y, hy, h5⟩
theorem SV.doneK {Y : Type} {Pr : Y → Prop} {fn : Func} {rvs : List ResultVar} {ps : List (Bool × List Leaf)} {tup : Bool} {rs : Y → List (Bool × List T)} {c : Nat} {p h0 : Int} (hC : E.code ad len cap zs) (hpin : E.pin = some c ∧ ∀ b, E.ln b → b = c) (y : Y) (hy : Pr y) (hbx : σ.bs[0]? = some (64, curL ad len cap p h0)) (hp : 0 ≤ p ∧ p ≤ len) (hf : fn.results = rvs.toArray) (hr : ResAll P σ rvs ps) (ho : σ.outss ps (rs y)) (ht : (!(Nat.beq (rs y).length 1)) = tup) (h2 : (ps.flatMap (·.2)).Pairwise two) {e : Exit} (he : e = .ret ∨ e = .normal) :
    SV E N σ (bodyPost P fn (fun e w' => ∃ y τ, Pr y ∧ Cur ad len cap zs τ w' c ∧ GivesC E.w0 c tup (rs y) e w') e) := fun a w G h => by
  obtain ⟨g1, v, g2, uss, F, g3, g4, g5, g6, g7⟩ := h.answer hf hr ho ht h2
  obtain ⟨hB, us0, b1, b2, b3⟩ := h.boxes 0 _ _ hbx
  obtain ⟨-, hβ⟩ := h.lent.2.2 c hpin.1
  have hus0 : us0 = [.slice ad len cap, .int .i64 p, .int .i64 h0] := by
    match us0, b2 with
    | [u, v, z], _ =>
      have e1 : u = .slice ad len cap := (b3 0 _ u rfl rfl).1.1
      have e2 : v = .int .i64 p := (b3 1 _ v rfl rfl).1.1
      have e3 : z = .int .i64 h0 := (b3 2 _ z rfl rfl).1.1
      rw [e1, e2, e3]
  subst hus0
  rw [hβ] at hB b1
  have hcur : Cur ad len cap zs (p, h0) w c := ⟨(hC.at h.below).row, fun x hx hpos e => by
    have hlt := hC.1.old x hx hpos
    rcases hB with hB | hB
    · rw [← e] at hB; exact absurd hlt (Nat.not_lt.2 hB)
    · rw [← e] at hB; exact hC.2 x hx hpos hB, hp.1, hp.2, b1⟩
  have hpost : a.defers = [] ∧ ∃ v, (results fn a.tmps).run P w = .ok v w ∧ ∃ y τ, Pr y ∧ Cur ad len cap zs τ w c ∧ GivesC E.w0 c tup (rs y) (.returned v) w :=
    ⟨g1, v, g2, y, (p, h0), hy, hcur, uss, F, g3, g4, g5, g6, fun c1 j b hb => by
      obtain ⟨i, hi, hft⟩ := g7 c1 j b hb
      obtain ⟨m1, m2⟩ := h.ftlt i b hi hft
      refine ⟨m1.elim id fun hl => ?_, m2⟩
      have := hpin.2 b hl
      subst this
      rw [← hβ] at hft
      exact absurd hft (h.boxft 0 i (get_lt hbx) hi), ⟨h.below.os, h.below.tape, h.below.output, h.below.size, fun k hk hne => h.below.block k ⟨hk, fun hl => hne (by rw [hpin.2 k hl])⟩⟩⟩
  rcases he with rfl | rfl <;> exact hpost
theorem VK.enter {Y : Type} {Pr : Y → Prop} {f : FuncId} {fn : Func} {c0 : Go.Code} {n : Nat} {us : List Value} {tup : Bool} {rs : Y → List (Bool × List T)} (hf : P.funcs[f]? = some fn) (hb : fn.body = some c0) (hn : fn.ntmps = n) (hl : us.length + 1 ≤ n) (hone : ∀ u ∈ us, u.oneCell' = true)
    (h : ∀ (E : Env) (c : Nat) (p h0 : Int), E.nl = 0 → E.code ad len cap zs → (E.pin = some c ∧ ∀ b, E.ln b → b = c) → 0 ≤ p ∧ p ≤ len → SV E n ⟨fun s => (V.one (.bp 0 0) :: us.map fun u => V.one (.sc u)).getD s (V.one .dead), [(64, curL ad len cap p h0)], fun _ => none, 0⟩ (c0.wp P (bodyPost P fn fun e w' => ∃ y τ, Pr y ∧ Cur ad len cap zs τ w' c ∧ GivesC E.w0 c tup (rs y) e w'))) : VK ad len cap zs Pr P f us tup rs := fun w c σ hcode hcur => by
  refine calls_of_wp hf hb ?_
  obtain ⟨p, h0⟩ := σ
  obtain ⟨E, hE⟩ : ∃ E : Env, E = ⟨w, fun b => b = c, fun b hb => by rw [hb]; exact hcur.lt, fun _ => undef, 0, some c⟩ := ⟨_, rfl⟩
  have hEC : E.code ad len cap zs := by subst hE; exact ⟨hcode, fun x hx hp e => hcur.apart x hx hp e⟩
  have h1 := h E c p h0 (by rw [hE]) hEC (by subst hE; exact ⟨rfl, fun b hb => hb⟩) ⟨hcur.low, hcur.high⟩ { tmps := (Value.pointer (some ⟨c, 0, none⟩) :: us).toArray ++ Array.replicate (n - (us.length + 1)) undef, defers := [] } w ⟨fun _ => c, fun _ => undef, fun _ _ => False⟩ (by
    subst hE
    refine ⟨Same.refl _ _, rfl, by simp; omega, fun s => ?_, fun b ty xs hb => ?_, fun b b' hb hb' _ => (by simp at hb hb'; omega), fun b i hb hi => absurd rfl hi, fun i v t hi => (by cases hi), fun i j b hi => absurd rfl hi, fun i b hi => absurd rfl hi, ⟨Nat.le_refl _, fun i hi => absurd hi (Nat.not_lt_zero i), fun c' hc' => ⟨by simp, Option.some.inj hc'⟩⟩⟩
    · rcases Nat.lt_or_ge s (us.length + 1) with hs | hs
      · have e2 : ((Value.pointer (some ⟨c, 0, none⟩) :: us).toArray ++ Array.replicate (n - (us.length + 1)) undef).getD s undef = (Value.pointer (some ⟨c, 0, none⟩) :: us).getD s undef := by
          simp only [Array.getD_eq_getD_getElem?]
          rw [Array.getElem?_append_left (by simpa using hs)]
          simp [List.getD]
        show VHolds _ _ _ _ ((V.one (.bp 0 0) :: us.map fun u => V.one (.sc u)).getD s (V.one .dead)) _
        rw [e2]
        cases s with
        | zero => exact vone.2 ⟨⟨by simp, rfl⟩, .inr rfl⟩
        | succ s =>
          have hs' : s < us.length := by omega
          have e3 : (V.one (.bp 0 0) :: us.map fun u => V.one (.sc u)).getD (s + 1) (V.one .dead) = V.one (.sc us[s]) := by simp [List.getD, hs']
          have e4 : (Value.pointer (some ⟨c, 0, none⟩) :: us).getD (s + 1) undef = us[s] := by simp [List.getD, hs']
          rw [e3, e4]
          exact vone.2 ⟨rfl, .inr (hone _ (List.getElem_mem hs'))⟩
      · have e3 : (V.one (.bp 0 0) :: us.map fun u => V.one (.sc u)).getD s (V.one .dead) = V.one .dead := by simp [List.getD, show us.length + 1 ≤ s by omega]
        show VHolds _ _ _ _ ((V.one (.bp 0 0) :: us.map fun u => V.one (.sc u)).getD s (V.one .dead)) _
        rw [e3]
        exact vone.2 ⟨trivial, .inl rfl⟩
    · have hb0 : b = 0 := by have := get_lt hb; simpa using this
      subst hb0
      cases hb
      refine ⟨.inr rfl, [.slice ad len cap, .int .i64 p, .int .i64 h0], hcur.cell, rfl, fun j x u hj hu => ?_⟩
      match j, hj, hu with
      | 0, hj, hu => cases hj; cases hu; exact ⟨⟨rfl, .inr rfl⟩, rfl⟩
      | 1, hj, hu => cases hj; cases hu; exact ⟨⟨rfl, .inr rfl⟩, rfl⟩
      | 2, hj, hu => cases hj; cases hu; exact ⟨⟨rfl, .inr rfl⟩, rfl⟩)
  rw [hn]
  have e0 : E.w0 = w := by rw [hE]
  rw [e0] at h1
  simpa using h1
theorem VCE.enter {Y : Type} {Pr : Y → Prop} {f : FuncId} {fn : Func} {c0 : Go.Code} {n : Nat} {tup : Bool} {rs : Y → List (Bool × List T)} (hf : P.funcs[f]? = some fn) (hb : fn.body = some c0) (hn : fn.ntmps = n) (hl : 1 ≤ n)
    (h : ∀ E, E.plain 0 → E.code ad len cap zs → SV E n (VS.init ([(false, [T.lit (.slice ad len cap)])].map fun p => V.flat p.1 (p.2.map argLeaf))) (c0.wp P (bodyPost P fn fun e w' => ∃ y, Pr y ∧ Gives E tup (rs y) e w'))) : VCE (fun w => Code ad len cap zs w) Pr P f [(false, [.lit (.slice ad len cap)])] tup rs := fun w hw vs hv => by
  refine calls_of_wp hf hb ?_
  obtain ⟨G, hG⟩ := init_rel (E := Env.of w) ⟨rfl, rfl⟩ (n := n) hv (by rw [hv.1]; exact hl)
  have := h (Env.of w) ⟨rfl, rfl⟩ ⟨hw, fun _ _ _ h => h⟩ _ _ G hG
  rw [hn]
  have e : (Env.of w).w0 = w := rfl
  rw [e] at this
  simpa using this
end Go.Proofs.YtpnbnbhifpcelaaDoor.V
