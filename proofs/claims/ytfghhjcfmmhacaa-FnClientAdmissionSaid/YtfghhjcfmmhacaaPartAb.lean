/- Texts joined: VN Math Mem Shape VMk VJ Apart Only ToRow ToRows Mark OpenRow Opens MarkIn TBase TClient TBroker TInt VTr Kit Bits Draw Byte Below New Pick Code Block RowDraw RowsDraw OneRows Draw7 VDr VCu VKt VDc BrokerM BrokerN. -/
import Derived.Test.YtfghhjcfmmhacaaPartAa
import Derived.Lib.ItoaNum
import Derived.Lib.ItoaLen
import Derived.Lib.Atoi
import Derived.Lib.Strings
import Derived.Lib.Split
import Derived.Lib.Join
import Derived.Lib.IndexMore
import Derived.Test.YtfghhjcfmmhacaaProg
import Derived.WalkKit
import Derived.Below
import Derived.Lib.Hide
import Derived.OwnWalk
import Derived.IntWalk
import Derived.Laws.OwnMore
import Derived.OpenShut
import Derived.Lib.SmallJoins
import Derived.Laws.AppendOwnNone
import Derived.Deep.RegionLaw
import Derived.Deep.RegionLawGrows
import Derived.Deep.AppendLies
import Derived.Lib.SliceRun
import Derived.BigQuiet
import Derived.Deep.Slices
import Derived.Deep.Strs
import Derived.Laws.IdiomStrings
import Derived.Laws.BitsAllLaws
import Derived.Laws.BitsLemmas
import Derived.Deep.QuietTactic
import Derived.Deep.RegionWith
set_option linter.unusedSimpArgs false
set_option linter.unusedVariables false
/- States told by trees: what lies in an object's element is lent; an element's cells are written. -/
namespace Go.Proofs.Ytfghhjcfmmhacaa.V
open Go Go.RowKit
set_option linter.unusedVariables false
variable {P : Program} {E : Env} {N : Nat} {σ σ' : VS} {o : Oper} {a : Act} {w : World} {G : Ghost}
theorem at_inj {n k k' j j' : Nat} (hj : j < n) (hj' : j' < n) (h : k * n + j = k' * n + j') : k = k' ∧ j = j' := by
  rcases Nat.lt_trichotomy k k' with h1 | h1 | h1
  · have h2 : (k + 1) * n ≤ k' * n := Nat.mul_le_mul_right n h1
    rw [Nat.add_mul, Nat.one_mul] at h2
    omega
  · subst h1
    exact ⟨rfl, by omega⟩
  · have h2 : (k' + 1) * n ≤ k * n := Nat.mul_le_mul_right n h1
    rw [Nat.add_mul, Nat.one_mul] at h2
    omega
theorem set_get {α : Type} {l : List α} {k q : Nat} {x y : α} (h : (l.set k y)[q]? = some x) : (q = k ∧ x = y) ∨ (q ≠ k ∧ l[q]? = some x) := by
  by_cases hq : q = k
  · subst hq
    have hl : q < l.length := by have := get_lt h; simpa using this
    rw [List.getElem?_set_self hl] at h
    exact .inl ⟨rfl, (Option.some.inj h).symm⟩
  · rw [List.getElem?_set_ne (fun e => hq e.symm)] at h
    exact .inr ⟨hq, h⟩
theorem splice_get {α : Type} {l vs : List α} {i j : Nat} (h : i + vs.length ≤ l.length) : (l.take i ++ vs ++ l.drop (i + vs.length))[j]? = if i ≤ j ∧ j < i + vs.length then vs[j - i]? else l[j]? := by
  have hl : (l.take i).length = i := by rw [List.length_take]; omega
  rw [List.append_assoc]
  rcases Nat.lt_or_ge j i with hj | hj
  · rw [List.getElem?_append_left (by omega), List.getElem?_take, if_pos hj, if_neg (by omega)]
  · rw [List.getElem?_append_right (by omega), hl]
    rcases Nat.lt_or_ge (j - i) vs.length with hk | hk
    · rw [List.getElem?_append_left hk, if_pos ⟨hj, by omega⟩]
    · rw [List.getElem?_append_right hk, List.getElem?_drop, if_neg (by omega)]
      congr 1
      omega
theorem splice_len {α : Type} {l vs : List α} {i : Nat} (h : i + vs.length ≤ l.length) : (l.take i ++ vs ++ l.drop (i + vs.length)).length = l.length := by
  simp only [List.length_append, List.length_take, List.length_drop]
  omega
theorem kills_ob {cs : List Leaf} {j : Nat} (h : cs.any (isHd j) = false) : (σ.kills cs).ob j = σ.ob j := by show (bif cs.any (isHd j) then none else σ.ob j) = _; rw [h]; rfl
theorem kills_none {cs : List Leaf} {j : Nat} (h : cs.any (isHd j) = true) : (σ.kills cs).ob j = none := by show (bif cs.any (isHd j) then none else σ.ob j) = _; rw [h]; rfl
theorem ok_store_ep {i ver kk oo n m : Nat} {ty ty0 : TypeId} {x y : Operand} {ag : Bool} {zs : List Leaf} {ts : List T} {es es' : List (List T)} {e : List T} (ho : o.op = .store ty0 x y) (hx : σ.ev x = V.one (.ep i kk n oo)) (hy : σ.ev y = V.flat ag zs) (hi : σ.ob i = some (ver, .seq ty es)) (he : es[kk]? = some e) (hm : Sz ty0 m) (h1 : ag = false → m = 1)
    (hzl : zs.length = m) (hsn : Sz ty n) (hlen : oo + m ≤ n) (ht : σ.outs zs ts) (h2 : zs.Pairwise two) (hself : zs.any (isHd i) = false) (hes : es.set kk (e.take oo ++ ts ++ e.drop (oo + ts.length)) = es') (hd : o.dst = none) : OpOk Try.prog E N σ o ((σ.kills zs).setob i (.seq ty es')) :=
  fun a w G K Q h k => by
    subst hes
    have hxv := h.ev x
    rw [hx, vone] at hxv
    obtain ⟨⟨hlt, g, M, c, hvl, hptr⟩, -⟩ := hxv
    have hyv := h.ev y
    rw [hy, vflat] at hyv
    obtain ⟨us, hu1, hu2, hu3⟩ := hyv
    obtain ⟨o1, o2⟩ := outs_get ht
    have hzo : ∀ z ∈ zs, ∃ t, σ.out z = some t := fun z hz => by
      obtain ⟨j, hj, rfl⟩ := List.getElem_of_mem hz
      obtain ⟨z', e1, e2⟩ := o2 j ts[j] (List.getElem?_eq_getElem (by omega))
      rw [List.getElem?_eq_getElem hj] at e1
      exact ⟨_, by rw [Option.some.inj e1]; exact e2⟩
    have hown1 : ∀ (j : Nat) (t : T) (u : Value), ts[j]? = some t → us[j]? = some u → ∃ z, zs[j]? = some z ∧ Own w 0 t u (z.foot G) := fun j t u hj hu => by
      obtain ⟨z, e1, e2⟩ := o2 j t hj
      exact ⟨z, e1, h.out (hu3 j z u e1 hu) e2⟩
    -- whose blocks they are
    have hfoot : ∀ z ∈ zs, ∀ b, z.foot G b → ∃ j, z = .hd j ∧ σ.ob j ≠ none ∧ j ≠ i ∧ G.ft j b := fun z hz b hb => by
      cases z with
      | hd j =>
        obtain ⟨t, e1⟩ := hzo _ hz
        obtain ⟨p, e2, -⟩ := Option.map_eq_some_iff.1 e1
        refine ⟨j, rfl, by rw [e2]; simp, fun e3 => ?_, hb⟩
        subst e3
        have := List.any_eq_false.1 hself _ hz
        exact this (Nat.beq_refl j)
      | _ => exact hb.elim
    have hfd : ∀ (q q' : Nat) (z z' : Leaf) (b : Nat), zs[q]? = some z → zs[q']? = some z' → z.foot G b → z'.foot G b → q = q' := fun q q' z z' b e1 e2 hb hb' => by
      obtain ⟨j, rfl, f1, f2, f3⟩ := hfoot z (get_mem e1) b hb
      obtain ⟨j', rfl, f4, f5, f6⟩ := hfoot z' (get_mem e2) b hb'
      have hjj : j = j' := by
        rcases Nat.decEq j j' with hne | hne
        · exact absurd f6 (h.disj j j' b f1 f4 hne f3)
        · exact hne
      subst hjj
      have g1 := get_lt e1
      have g2 := get_lt e2
      rw [List.getElem?_eq_getElem g1] at e1
      rw [List.getElem?_eq_getElem g2] at e2
      rcases Nat.lt_trichotomy q q' with hlt2 | he2 | hgt
      · have := (List.pairwise_iff_getElem.1 h2) q q' g1 g2 hlt2
        rw [Option.some.inj e1, Option.some.inj e2] at this
        exact absurd rfl (this j rfl)
      · exact he2
      · have := (List.pairwise_iff_getElem.1 h2) q' q g2 g1 hgt
        rw [Option.some.inj e1, Option.some.inj e2] at this
        exact absurd rfl (this j rfl)
    have hone1 : ∀ u ∈ us, u.oneCell' = true := fun u hu => by
      obtain ⟨j, hj, rfl⟩ := List.getElem_of_mem hu
      obtain ⟨z, -, e2⟩ := hown1 j ts[j] us[j] (List.getElem?_eq_getElem (by omega)) (List.getElem?_eq_getElem hj)
      exact e2.one
    obtain ⟨hlt2, hown0, -⟩ := h.objs i ver _ hi
    rw [hvl] at hown0
    cases hown0 with
    | seq n' hp hz hn xs0 hown Gs hr hone hFr hG hne hdd =>
    have hnn := hz.eq hsn
    subst hnn
    have hen : e.length = n' := hn e (get_mem he)
    have hkl := get_lt he
    have hwn := hown
    obtain ⟨hxl, ⟨e0, -⟩ | ⟨g2, cap, cur, e0, hB, hh, hcap, hcm, hcs, htk⟩⟩ := hown
    · cases e0
    injection e0 with e0 e0' e0''
    injection e0 with e0
    injection e0 with e0
    subst e0
    have hq : kk * n' + oo + us.length ≤ es.length * n' := by
      have : (kk + 1) * n' ≤ es.length * n' := Nat.mul_le_mul_right n' hkl
      rw [Nat.add_mul, Nat.one_mul] at this
      omega
    have hcl : es.length * n' ≤ cur.toList.length := by
      have h3 : cur.toList.length = cap * n' := by simpa using hcs
      rw [h3]
      exact Nat.mul_le_mul_right n' hcap
    have hh' : w.heap[g]? = some (.cells cur.toList.toArray ty (0, 0)) := by simpa using hh
    have hnew := setCells_heap g us (kk * n' + oo) w cur.toList ty hh' (by omega)
    obtain ⟨w', hw'⟩ : ∃ w', w' = w.setCells g (kk * n' + oo) us := ⟨_, rfl⟩
    rw [← hw'] at hnew
    have hfar : ∀ b, b ≠ g → w'.heap[b]? = w.heap[b]? := fun b hb => by rw [hw']; exact setCells_far g us _ w b hb
    have hbel : Below 0 w w' := by rw [hw']; exact setCells_below g 0 us _ w (Nat.zero_le _)
    have hgft : G.ft i g := hFr g rfl
    have hgl := h.ftlt i g (by rw [hi]; simp) hgft
    have hsm : Same E w w' := ⟨hbel.os, hbel.tape, hbel.output, hbel.size, fun b hb => hfar b fun e1 => by
      subst e1
      exact hgl.1.elim (fun h1 => by have := hb.1; omega) hb.2⟩
    have hrun := store_run (P := Try.prog) (w := w) (b := g) (i := kk * n' + oo) (us := us) (ag := ag) hm h1 (hu2.trans hzl) hone1 (fun q hq' => by
      rw [cell_of_row w _ _ _ _ _ hh]
      simp [show kk * n' + oo + q < cur.size by rw [← Array.length_toList]; omega]) fun q hq' => by simp [World.frozen?, hh]
    have hul : us.length = ts.length := by omega
    have htl : oo + ts.length ≤ e.length := by omega
    have hnewown : Own w' 0 (.seq ty (es.set kk (e.take oo ++ ts ++ e.drop (oo + ts.length)))) (.slice (some ⟨g, 0, none⟩) es.length cap) (fun b => G.ft i b ∨ ∃ z ∈ zs, z.foot G b) := by
      have hl' : (es.set kk (e.take oo ++ ts ++ e.drop (oo + ts.length))).length = es.length := List.length_set
      have hxs : ∀ q, (xs0.take (kk * n' + oo) ++ us ++ xs0.drop (kk * n' + oo + us.length))[q]? = if kk * n' + oo ≤ q ∧ q < kk * n' + oo + us.length then us[q - (kk * n' + oo)]? else xs0[q]? := fun q => splice_get (by omega)
      have hgn : ∀ z ∈ zs, ∀ b, z.foot G b → b ≠ g := fun z hz b hb e1 => by
        obtain ⟨j, -, f1, f2, f3⟩ := hfoot z hz b hb
        subst e1
        exact h.disj j i _ f1 (by rw [hi]; simp) f2 f3 hgft
      have hGz : ∀ z ∈ zs, ∀ q b, Gs q b → z.foot G b → False := fun z hz q b hb hb' => by
        obtain ⟨j, -, f1, f2, f3⟩ := hfoot z hz b hb'
        exact h.disj j i b f1 (by rw [hi]; simp) f2 f3 (hG q b hb)
      have hown2 : w'.ownsRow 0 ty n' (.slice (some ⟨g, 0, none⟩) es.length cap) es.length (xs0.take (kk * n' + oo) ++ us ++ xs0.drop (kk * n' + oo + us.length)) := by
        refine ⟨by rw [splice_len (by omega)]; exact hxl, .inr ⟨g, cap, _, rfl, Nat.zero_le _, hnew, hcap, hcm, ?_, ?_⟩⟩
        · simp only [List.size_toArray]
          rw [splice_len (by omega), Array.length_toList, hcs]
        · apply List.ext_getElem?
          intro q
          rw [hxs q, List.getElem?_take]
          simp only []
          rw [splice_get (by omega)]
          have hx0 : xs0[q]? = if q < es.length * n' then cur.toList[q]? else none := by rw [← htk, List.getElem?_take]
          rw [hx0]
          split
          · rfl
          · rw [if_neg (by omega)]
      refine .seq n' hp hz (fun e' he' => ?_) (xs0.take (kk * n' + oo) ++ us ++ xs0.drop (kk * n' + oo + us.length)) (by rw [hl']; exact hown2) (fun q b => if kk * n' + oo ≤ q ∧ q < kk * n' + oo + us.length then ∃ z, zs[q - (kk * n' + oo)]? = some z ∧ z.foot G b else Gs q b) (fun k2 e2 j t u hk2 hj hu => ?_) (fun u hu => ?_) (fun b hb => .inl (hFr b hb)) (fun q b hb => ?_) (fun q b hb hvb => ?_) fun q q' b hb hb' => ?_
      · rcases List.mem_or_eq_of_mem_set he' with h3 | h3
        · exact hn e' h3
        · rw [h3, splice_len htl]; exact hen
      · rw [hxs] at hu
        have hold : ∀ j, ¬ (kk * n' + oo ≤ k2 * n' + j ∧ k2 * n' + j < kk * n' + oo + us.length) → Own w 0 t u (Gs (k2 * n' + j)) → Own w' 0 t u (fun b => if kk * n' + oo ≤ k2 * n' + j ∧ k2 * n' + j < kk * n' + oo + us.length then ∃ z, zs[k2 * n' + j - (kk * n' + oo)]? = some z ∧ z.foot G b else Gs (k2 * n' + j) b) := fun j hneq hw => by
          refine (hw.frame fun b hb => hfar b fun e1 => hne _ b hb (by rw [e1]; rfl)).mono fun b hb => ?_
          rw [if_neg hneq]; exact hb
        rcases set_get hk2 with ⟨rfl, rfl⟩ | ⟨hk2n, hk2⟩
        · rw [splice_get htl] at hj
          by_cases hjr : oo ≤ j ∧ j < oo + ts.length
          · rw [if_pos hjr] at hj
            rw [if_pos (by omega), show k2 * n' + j - (k2 * n' + oo) = j - oo by omega] at hu
            obtain ⟨z, f1, f2⟩ := hown1 _ t u hj hu
            refine (f2.frame fun b hb => hfar b (hgn z (get_mem f1) b hb)).mono fun b hb => ?_
            rw [if_pos (by omega), show k2 * n' + j - (k2 * n' + oo) = j - oo by omega]
            exact ⟨z, f1, hb⟩
          · rw [if_neg hjr] at hj
            rw [if_neg (by omega)] at hu
            exact hold j (by omega) (hr k2 e j t u he hj hu)
        · have hjl : j < n' := by rw [← hn e2 (get_mem hk2)]; exact get_lt hj
          have hout : ¬ (kk * n' + oo ≤ k2 * n' + j ∧ k2 * n' + j < kk * n' + oo + us.length) := fun ⟨f1, f2⟩ => by
            have := at_inj (k := k2) (k' := kk) (j := j) (j' := k2 * n' + j - kk * n') hjl (by omega) (by omega)
            exact hk2n this.1
          rw [if_neg hout] at hu
          exact hold j hout (hr k2 e2 j t u hk2 hj hu)
      · rcases List.mem_append.1 hu with hu | hu
        · rcases List.mem_append.1 hu with hu | hu
          · exact hone u (List.mem_of_mem_take hu)
          · exact hone1 u hu
        · exact hone u (List.mem_of_mem_drop hu)
      · split at hb
        · obtain ⟨z, f1, f2⟩ := hb
          exact .inr ⟨z, get_mem f1, f2⟩
        · exact .inl (hG q b hb)
      · split at hb
        · obtain ⟨z, f1, f2⟩ := hb
          exact hgn z (get_mem f1) b f2 (Option.some.inj hvb).symm
        · exact hne q b hb hvb
      · split at hb <;> split at hb'
        · obtain ⟨z, f1, f2⟩ := hb
          obtain ⟨z', f3, f4⟩ := hb'
          have := hfd _ _ z z' b f1 f3 f2 f4
          omega
        · obtain ⟨z, f1, f2⟩ := hb
          exact (hGz z (get_mem f1) _ b hb' f2).elim
        · obtain ⟨z, f1, f2⟩ := hb'
          exact (hGz z (get_mem f1) _ b hb f2).elim
        · exact hdd _ _ b hb hb'
    have hki : (σ.kills zs).ob i = some (ver, .seq ty es) := by rw [kills_ob hself]; exact hi
    have hkj : ∀ j v, j ≠ i → ((σ.kills zs).setob i (.seq ty (es.set kk (e.take oo ++ ts ++ e.drop (oo + ts.length))))).ob j = some v → σ.ob j = some v ∧ zs.any (isHd j) = false := fun j v hj hv => by
      rw [setob_ne hj] at hv
      cases hc : zs.any (isHd j) with
      | true => rw [kills_none hc] at hv; cases hv
      | false => rw [kills_ob hc] at hv; exact ⟨hv, rfl⟩
    have hapart : ∀ j b, σ.ob j ≠ none → zs.any (isHd j) = false → j ≠ i → G.ft j b → (G.ft i b ∨ ∃ z ∈ zs, z.foot G b) → False := fun j b f1 f2 f3 f4 f5 => by
      rcases f5 with f5 | ⟨z, f5, f6⟩
      · exact h.disj j i b f1 (by rw [hi]; simp) f3 f4 f5
      · obtain ⟨j', rfl, f7, f8, f9⟩ := hfoot z f5 b f6
        refine h.disj j j' b f1 f7 (fun e1 => ?_) f4 f9
        subst e1
        exact List.any_eq_false.1 f2 _ f5 (Nat.beq_refl j)
    have hturn := h.turn (σ' := (σ.kills zs).setob i (.seq ty (es.set kk (e.take oo ++ ts ++ e.drop (oo + ts.length))))) (w' := w') (G' := ⟨G.β, G.vl, fun j b => if j = i then G.ft i b ∨ ∃ z ∈ zs, z.foot G b else G.ft j b⟩) (fun b => b = g) rfl rfl rfl hsm (fun b _ hb => hfar b hb) (fun b hb e1 => h.boxft b i hb (by rw [hi]; simp) (by rw [e1]; exact hgft)) (Nat.le_refl _) (fun j hj => rfl) (fun j v' t' hv' => ?_) (fun j j' b hj hj' hjj hbj hbj' => ?_)
    · refine wp_skipped (w' := w') ?_ (by rw [hd]; exact k _ _ _ hturn.1)
      rw [hw']
      simp [execOp, ho, hptr, hu1, Instr.storeAt, Instr.sureAddr, hrun, Result.andThen]
    · by_cases hji : j = i
      · subst hji
        rw [setob_self, hki] at hv'
        cases hv'
        refine .inr ⟨hlt2, fun _ => ⟨ver, _, hi, Nat.lt_succ_self _⟩, ?_, ⟨_, _, rfl⟩, fun b hb => ?_, fun b hb c' hc' e3 => ?_⟩
        · rw [show (⟨G.β, G.vl, fun j' b => if j' = j then G.ft j b ∨ ∃ z ∈ zs, z.foot G b else G.ft j' b⟩ : Ghost).vl j = .slice (some ⟨g, 0, none⟩) es.length cap by rw [← e0', ← e0'']; exact hvl]
          exact hnewown.mono fun b hb => by show if j = j then _ else _; rw [if_pos rfl]; exact hb
        · replace hb : if j = j then G.ft j b ∨ ∃ z ∈ zs, z.foot G b else G.ft j b := hb
          rw [if_pos rfl] at hb
          have : (E.B ≤ b ∨ E.ln b) ∧ b < w.heap.size := by
            rcases hb with hb | ⟨z, f1, f2⟩
            · exact h.ftlt j b (by rw [hi]; simp) hb
            · obtain ⟨j', -, f3, f4, f5⟩ := hfoot z f1 b f2
              exact h.ftlt j' b f3 f5
          exact ⟨this.1, Nat.lt_of_lt_of_le this.2 hsm.size⟩
        · replace hb : if j = j then G.ft j b ∨ ∃ z ∈ zs, z.foot G b else G.ft j b := hb
          rw [if_pos rfl] at hb
          subst e3
          rcases hb with hb | ⟨z, f1, f2⟩
          · exact h.boxft c' j hc' (by rw [hi]; simp) hb
          · obtain ⟨j', -, f3, f4, f5⟩ := hfoot z f1 _ f2
            exact h.boxft c' j' hc' f3 f5
      · obtain ⟨f1, f2⟩ := hkj j _ hji hv'
        refine .inl ⟨f1, fun b => by show (if j = i then _ else _) ↔ _; rw [if_neg hji], fun b hb e1 => ?_⟩
        subst e1
        exact h.disj j i _ (by rw [f1]; simp) (by rw [hi]; simp) hji hb hgft
    · replace hbj : if j = i then G.ft i b ∨ ∃ z ∈ zs, z.foot G b else G.ft j b := hbj
      replace hbj' : if j' = i then G.ft i b ∨ ∃ z ∈ zs, z.foot G b else G.ft j' b := hbj'
      split at hbj <;> split at hbj'
      · omega
      · rename_i e1 e2
        obtain ⟨vj, hvj⟩ := Option.ne_none_iff_exists'.1 hj'
        obtain ⟨f1, f2⟩ := hkj j' vj e2 hvj
        exact hapart j' b (by rw [f1]; simp) f2 e2 hbj' hbj
      · rename_i e1 e2
        obtain ⟨vj, hvj⟩ := Option.ne_none_iff_exists'.1 hj
        obtain ⟨f1, f2⟩ := hkj j vj e1 hvj
        exact hapart j b (by rw [f1]; simp) f2 e1 hbj hbj'
      · rename_i e1 e2
        obtain ⟨vj, hvj⟩ := Option.ne_none_iff_exists'.1 hj
        obtain ⟨f1, -⟩ := hkj j vj e1 hvj
        obtain ⟨vj', hvj'⟩ := Option.ne_none_iff_exists'.1 hj'
        obtain ⟨f2, -⟩ := hkj j' vj' e2 hvj'
        exact h.disj j j' b (by rw [f1]; simp) (by rw [f2]; simp) hjj hbj hbj'
theorem cells_ep {i ver k n o' : Nat} {ty : TypeId} {es : List (List T)} {e ds : List T} (hi : σ.ob i = some (ver, .seq ty es)) (he : es[k]? = some e) (hn : e.length = n) (hd : e.drop o' = ds) : σ.cells (.ep i k n o') = some ds := by
  show (σ.ob i).bind _ = _
  rw [hi]
  show es[k]?.bind _ = _
  rw [he]
  show (bif Nat.beq e.length n then some (e.drop o') else none) = _
  rw [hn, Nat.beq_refl, ← hd]; rfl
/-! ### 'make' -/
def zeroT : Leaf → T
  | .sc u => .lit u
  | .nl ty => .seq ty []
  | _ => .any
theorem zl_own {w : World} : ∀ {xs : List Leaf} {us : List Value}, ZL xs us → ∀ (j : Nat) (x : Leaf) (u : Value), xs[j]? = some x → us[j]? = some u → Own w 0 (zeroT x) u (fun _ => False)
  | [], [], _, j, x, u, h1, _ => by simp at h1
  | .sc v :: xs, u :: us, h, j, x, y, h1, h2 => by
    cases j with
    | zero => cases h1; cases h2; rw [h.1]; exact .lit (by rw [← h.1]; exact h.2.1)
    | succ j => exact zl_own h.2.2 j x y (by simpa using h1) (by simpa using h2)
  | .nl _ :: xs, u :: us, h, j, x, y, h1, h2 => by
    cases j with
    | zero =>
      cases h1; cases h2
      obtain ⟨n, hn, hz⟩ := h.2.1
      rw [h.1]
      exact Own.seq (es := []) n hn hz (fun e he => by cases he) [] (World.ownsRow_nil _ _ _ _) (fun _ _ => False) (fun k e j t u h => by simp at h) (fun u hu => by cases hu) (fun b hb => by cases hb) (fun i b hb => hb.elim) (fun i b hb => hb.elim) fun i j b hb => hb.elim
    | succ j => exact zl_own h.2.2 j x y (by simpa using h1) (by simpa using h2)
theorem made_get {z : Array Value} {m q : Nat} {u : Value} (hz : 0 < z.size) (h : (madeCells z m).toList[q]? = some u) : z.toList[q % z.size]? = some u := by
  have hq : q < m := by have := get_lt h; simpa [madeCells] using this
  have hm : q % z.size < z.size := Nat.mod_lt _ hz
  simp [madeCells, hq] at h
  rw [← h]
  simp [hm]
theorem ok_make {d : Nat} {t ty : TypeId} {n bytes : Nat} {z : Value} {x y : Operand} {zs : List Leaf} {zt : List T} {k0 : Nat} {kl kc : IntKind} (I : ElT t ty n z bytes) {kk : Nat} (hk : σ.nx = kk) (ho : o.op = .makeSlice t x y) (hx : σ.ev x = V.one (.sc (.int kl (k0 : Nat)))) (hy : σ.ev y = V.one (.sc (.int kc (k0 : Nat)))) (hz : ZL zs z.cells.toList) (hzt : zs.map zeroT = zt) (hl : k0 ≤ 350000000000)
    (hd : o.dst = some d) (hdN : d < N) : OpMk Try.prog E N none σ o ((σ.new (.seq ty (List.replicate k0 zt))).put d (V.one (.hd kk))) :=
  fun a w G K Q h k => by
    subst hk hzt
    obtain ⟨i0, hi, hz0, hz1, hz2⟩ := info_parts I.inf
    have hby : i0.bytes * k0 ≤ 281474976710656 := by
      have h1 : i0.bytes * k0 ≤ 400 * 350000000000 := Nat.mul_le_mul (by rw [hz2]; exact I.small) hl
      omega
    have hrun := run_make (P := Try.prog) w t ty i0 z I.und hi hz0 kl kc k0 k0 (by omega) (Int.le_refl _) (by
      have h1 : ((i0.bytes * k0 : Nat) : Int) ≤ 281474976710656 := by omega
      rwa [Int.natCast_mul] at h1) (by omega)
    simp only [Int.toNat_natCast, hz1] at hrun
    have hzn : zs.length = n := by
      have := hz.len
      rw [← this, Array.length_toList]
      exact I.zs
    have hown := World.ownsRow_lit (base := 0) (w := w) (e := ty) (size := n) (madeCells z.cells (k0 * n)) k0 (Nat.zero_le _) (by unfold maxLen; omega) (size_madeCells _ _)
    obtain ⟨w', hw'⟩ : ∃ w', w' = w.alloc (.cells (madeCells z.cells (k0 * n)) ty) := ⟨_, rfl⟩
    have hget : ∀ (q : Nat) (u : Value), (madeCells z.cells (k0 * n)).toList[q]? = some u → z.cells.toList[q % n]? = some u := fun q u hu => by
      have := made_get (by rw [I.zs]; exact I.pos) hu
      rwa [I.zs] at this
    obtain ⟨G', hG', ⟨hvl, hvls, hβs⟩, -, -⟩ := h.renew [] (fun x hx => by cases hx) (w' := w.alloc (.cells (madeCells z.cells (k0 * n)) ty)) (t := .seq ty (List.replicate k0 (zs.map zeroT))) (v := .slice (some ⟨w.heap.size, 0, none⟩) k0 k0) (F := fun b => b = w.heap.size) (fun _ => False) (.of_below ((Below.refl _ _).alloc h.low _)) (fun k hk _ => Below.heap_alloc _ _ _ hk) (fun b hb => hb.elim)
      (.seq n I.pos I.sz (fun e he => by rw [List.eq_of_mem_replicate he, List.length_map]; exact hzn) (madeCells z.cells (k0 * n)).toList (by rw [List.length_replicate]; exact hown) (fun _ _ => False) (fun k e j t u he hj hu => by
          have he' : e = zs.map zeroT := List.eq_of_mem_replicate (get_mem he)
          subst he'
          rw [List.getElem?_map] at hj
          obtain ⟨lf, e1, e2⟩ := Option.map_eq_some_iff.1 hj
          have hjn : j < n := by rw [← hzn]; exact get_lt e1
          have := hget _ u hu
          rw [Nat.add_comm, Nat.add_mul_mod_self_right, Nat.mod_eq_of_lt hjn] at this
          rw [← e2]
          exact zl_own hz j lf u e1 this)
        (fun u hu => by
          obtain ⟨q, hq, rfl⟩ := List.getElem_of_mem hu
          have h1 := hget q _ (List.getElem?_eq_getElem hq)
          have h2 : q % n < zs.length := by rw [hzn]; exact Nat.mod_lt _ I.pos
          exact (zl_own (w := w) hz (q % n) zs[q % n] _ (List.getElem?_eq_getElem h2) h1).one) (fun b hb => by cases hb; rfl) (fun q b hb => hb.elim) (fun q b hb => hb.elim) fun q q' b hb => hb.elim)
      ⟨_, _, rfl⟩ fun b hb => ⟨by subst hb; exact ⟨.inl h.low, by simp⟩, .inl (h.fresh (by rw [hb]; exact Nat.le_refl _))⟩
    refine wp_value (v := .slice (some ⟨w.heap.size, 0, none⟩) k0 k0) (w' := w.alloc (.cells (madeCells z.cells (k0 * n)) ty)) ?_ (by rw [hd]; exact k _ _ _ (hG'.put hdN (vone.2 ⟨⟨Nat.lt_succ_self _, hvl.symm⟩, .inr rfl⟩)) ⟨by simp, .of_below ((Below.refl _ _).alloc h.low _), hvls, fun b _ => by rw [hβs], fun b hb => .inl (Below.heap_alloc _ _ _ hb), fun i e1 e2 b e3 => .inl (by
      have hi : i = σ.nx := Nat.le_antisymm (Nat.le_of_lt_succ e2) e1
      rw [hi, hvl] at e3
      rw [← Option.some.inj e3]; exact Nat.le_refl _)⟩)
    have hxv := h.sc hx
    have hyv := h.sc hy
    simp [execOp, ho, hxv, hyv, hrun, Result.andThen]
end Go.Proofs.Ytfghhjcfmmhacaa.V
/- Plain mathematics: decimals, cuts, numbers, rows, bags, pages, the first page of a text. -/
namespace Go.Proofs.Ytfghhjcfmmhacaa.Dec
open Go.Lib
def dd (u : Nat) : List UInt8 := if u = 0 then [] else decDigits u
/-! ### Reading a numeral -/
def parse (l : List UInt8) : Option Int := (atoi l).bind fun n => if itoa n = l ∧ -999999999 ≤ n ∧ n ≤ 999999999 then some n else none
def dscan : List UInt8 → Nat × Nat := List.foldl (fun p b => if 48 ≤ b.toNat ∧ b.toNat ≤ 57 then (p.1 * 10 + (b.toNat - 48), p.2 + 1) else p) (0, 0)
def signed (l : List UInt8) (n : Int) : Int := if l.head? = some 45 then -n else n
end Go.Proofs.Ytfghhjcfmmhacaa.Dec
namespace Go.Proofs.Ytfghhjcfmmhacaa.Cut
open Go.Lib
def cut (b : UInt8) : List UInt8 → List (List UInt8)
  | [] => [[]]
  | x :: l => if x = b then [] :: cut b l else match cut b l with | h :: t => (x :: h) :: t | [] => [[x]]
def scan (b : UInt8) (l : List UInt8) : List (List UInt8) × List UInt8 := l.foldl (fun p x => if x = b then (p.1 ++ [p.2], []) else (p.1, p.2 ++ [x])) ([], [])
def mark (b : UInt8) (l : List UInt8) (t : Nat) : Nat := t - (scan b (l.take t)).2.length
end Go.Proofs.Ytfghhjcfmmhacaa.Cut
namespace Go.Proofs.Ytfghhjcfmmhacaa.Num
/-! ### Fixed width -/
def be : Nat → Nat → List UInt8
  | 0, _ => []
  | w + 1, n => UInt8.ofNat (n / 256 ^ w) :: be w n
def bval : List UInt8 → Nat := List.foldl (fun a b => a * 256 + b.toNat) 0
def fx (w n k : Nat) : List UInt8 := (be w n).take k ++ List.replicate (w - k) 0
def encFixed (n width : Int) : List UInt8 := if 1 ≤ width ∧ width ≤ 7 ∧ 0 ≤ n ∧ n.toNat < 256 ^ width.toNat then be width.toNat n.toNat else []
def decFixedOk (l : List UInt8) (width : Int) : Bool := decide (1 ≤ width ∧ width ≤ 7 ∧ width ≤ l.length)
def decFixed (l : List UInt8) (width : Int) : Nat := if decFixedOk l width then bval (l.take width.toNat) else 0
/-! ### Varints -/
def leb : Nat → Nat → List UInt8
  | 0, n => [UInt8.ofNat n]
  | f + 1, n => if n < 128 then [UInt8.ofNat n] else UInt8.ofNat (128 + n % 128) :: leb f (n / 128)
def encVar (n : Int) : List UInt8 := if 0 ≤ n ∧ n ≤ 562949953421311 then leb 6 n.toNat else []
def v7 : List UInt8 → Nat
  | [] => 0
  | b :: l => b.toNat % 128 + 128 * v7 l
def canon : List UInt8 → Prop
  | [] => False
  | [b] => b.toNat < 128
  | b :: c :: l => 128 ≤ b.toNat ∧ v7 (c :: l) ≠ 0 ∧ canon (c :: l)
def dv (l : List UInt8) : Nat → Nat → Nat × Nat
  | 0, _ => (0, 0)
  | f + 1, k => match l[k]? with
    | none => (0, 0)
    | some b => if 128 ≤ b.toNat then dv l f (k + 1) else if b.toNat = 0 ∧ 0 < k then (0, 0) else (v7 (l.take (k + 1)), k + 1)
def decV (l : List UInt8) : Nat × Nat := dv l 7 0
def sv (l : List UInt8) : Nat → Nat → Nat × Nat
  | 0, _ => (0, 0)
  | f + 1, k => if k ≤ l.length then if leb 6 (v7 (l.take k)) = l.take k then (v7 (l.take k), k) else sv l f (k + 1) else (0, 0)
/-! ### Hexadecimal digits -/
def hexD (k : Nat) : UInt8 := UInt8.ofNat (if k < 10 then 48 + k else 87 + k)
def hexTab : ByteArray := ⟨#[48, 49, 50, 51, 52, 53, 54, 55, 56, 57, 97, 98, 99, 100, 101, 102]⟩
def hex : List UInt8 → List UInt8
  | [] => []
  | b :: l => hexD (b.toNat / 16) :: hexD (b.toNat % 16) :: hex l
def nib (b : UInt8) : Int := if 48 ≤ b.toNat ∧ b.toNat ≤ 57 then (b.toNat : Int) - 48 else if 97 ≤ b.toNat ∧ b.toNat ≤ 102 then (b.toNat : Int) - 87 else -1
def unhex : List UInt8 → Option (List UInt8)
  | [] => some []
  | [_] => none
  | a :: b :: l => if nib a < 0 ∨ nib b < 0 then none else (unhex l).map (UInt8.ofNat (16 * nib a + nib b).toNat :: ·)
end Go.Proofs.Ytfghhjcfmmhacaa.Num
namespace Go.Proofs.Ytfghhjcfmmhacaa
open Go.Lib
structure R where
  key : Int
  value : Int
  width : Int
deriving DecidableEq, Inhabited
namespace R
def ok (r : R) : Bool := decide (0 ≤ r.key ∧ r.key ≤ 9 ∧ 0 ≤ r.value ∧ r.value ≤ 99 ∧ 0 ≤ r.width ∧ r.width ≤ 3)
theorem ok_iff {r : R} : r.ok = true ↔ 0 ≤ r.key ∧ r.key ≤ 9 ∧ 0 ≤ r.value ∧ r.value ≤ 99 ∧ 0 ≤ r.width ∧ r.width ≤ 3 := by simp [ok]
def wf (r : R) : Prop := (-9223372036854775808 ≤ r.key ∧ r.key ≤ 9223372036854775807) ∧ (-9223372036854775808 ≤ r.value ∧ r.value ≤ 9223372036854775807) ∧ (-9223372036854775808 ≤ r.width ∧ r.width ≤ 9223372036854775807)
def zero : R := ⟨0, 0, 0⟩
def cost (r : R) : Int := if r.ok then 1 + r.width else 0
theorem cost_range (r : R) : 0 ≤ r.cost ∧ r.cost ≤ 4 := by
  unfold cost
  split
  · rename_i h; rw [ok_iff] at h; omega
  · omega
def cmp (a b : R) : Int :=
  if a.key < b.key then -1 else if b.key < a.key then 1 else if a.value < b.value then -1 else if b.value < a.value then 1 else if a.width < b.width then -1 else if b.width < a.width then 1 else 0
def fld (r : R) (k : Nat) : Int := if k = 0 then r.key else if k = 1 then r.value else r.width
def one (x y : Int) : Int := if x < y then -1 else if y < x then 1 else 0
def fmt (r : R) : List UInt8 := if r.ok then itoa r.key ++ 46 :: (itoa r.value ++ 46 :: itoa r.width) else []
end R
def total (L : List R) : Int := (L.map R.cost).sum
def allOk (L : List R) : Bool := L.all R.ok
def okRows (L : List R) : Bool := decide (L.length ≤ 24) && allOk L
/-! ### The format -/
def parseRow (l : List UInt8) : Option R :=
  match Cut.cut 46 l with
  | [a, b, c] => match Dec.parse a, Dec.parse b, Dec.parse c with
    | some k, some v, some w => if (R.mk k v w).ok then some ⟨k, v, w⟩ else none
    | _, _, _ => none
  | _ => none
def threeRow (l : List UInt8) : R :=
  ⟨(Dec.parse ((Cut.cut 46 l).getD 0 [])).getD 0, (Dec.parse ((Cut.cut 46 l).getD 1 [])).getD 0, (Dec.parse ((Cut.cut 46 l).getD 2 [])).getD 0⟩
/-! ### Several rows -/
def fmtRows (L : List R) : List UInt8 := if okRows L then join (L.map R.fmt) [32] else []
def readAll : List (List UInt8) → Option (List R)
  | [] => some []
  | p :: ps => match parseRow p, readAll ps with
    | some r, some L => some (r :: L)
    | _, _ => none
def parseRows (l : List UInt8) : Option (List R) := if l = [] then some [] else if (Cut.cut 32 l).length ≤ 24 then readAll (Cut.cut 32 l) else none
end Go.Proofs.Ytfghhjcfmmhacaa
namespace Go.Proofs.Ytfghhjcfmmhacaa
open Go.Lib
namespace R
theorem cmp_le (a b : R) : cmp a b ≤ 0 ↔ a.key < b.key ∨ a.key = b.key ∧ (a.value < b.value ∨ a.value = b.value ∧ a.width ≤ b.width) := by
  unfold cmp
  (repeat' split) <;> omega
theorem cmp_anti (a b : R) : cmp b a = - cmp a b := by
  unfold cmp
  (repeat' split) <;> first | rfl | omega
theorem cmp_zero (a b : R) : cmp a b = 0 ↔ a = b := by
  constructor
  · intro h
    have h1 := (cmp_le a b).1 (by omega)
    have h2 := (cmp_le b a).1 (by have := cmp_anti a b; omega)
    have e1 : a.key = b.key := by omega
    have e2 : a.value = b.value := by omega
    have e3 : a.width = b.width := by omega
    obtain ⟨a1, a2, a3⟩ := a
    obtain ⟨b1, b2, b3⟩ := b
    simp only at e1 e2 e3
    subst e1 e2 e3
    rfl
  · rintro rfl
    unfold cmp
    simp
theorem cmp_trans {a b c : R} (h : cmp a b ≤ 0) (h' : cmp b c ≤ 0) : cmp a c ≤ 0 := by
  rw [cmp_le] at *
  omega
theorem cmp_total (a b : R) : cmp a b ≤ 0 ∨ cmp b a ≤ 0 := by
  have := cmp_anti a b
  omega
def leb (a b : R) : Bool := decide (cmp a b ≤ 0)
theorem leb_iff {a b : R} : leb a b = true ↔ cmp a b ≤ 0 := by simp [leb]
def sort (L : List R) : List R := L.mergeSort leb
theorem sort_perm (L : List R) : (sort L).Perm L := List.mergeSort_perm L _
theorem sort_asc (L : List R) : (sort L).Pairwise fun a b => leb a b = true :=
  List.pairwise_mergeSort (le := leb) (fun a b c h h' => leb_iff.2 (cmp_trans (leb_iff.1 h) (leb_iff.1 h'))) (fun a b => by
    rcases cmp_total a b with h | h
    · simp [leb_iff.2 h]
    · simp [leb_iff.2 h]) L
theorem sort_unique {M L : List R} (hp : M.Perm L) (hs : M.Pairwise fun a b => leb a b = true) : M = sort L :=
  List.Perm.eq_of_pairwise (fun a b _ _ h h' => (cmp_zero a b).1 (by have h1 := leb_iff.1 h; have h2 := leb_iff.1 h'; have := cmp_anti a b; omega)) hs (sort_asc L) (hp.trans (sort_perm L).symm)
def asc : List R → Bool
  | a :: b :: l => leb a b && asc (b :: l)
  | _ => true
def eqBags (a b : List R) : Bool := decide (sort a = sort b)
def difTo (x b : List R) : Nat → List R
  | 0 => []
  | k + 1 => if b.count (x.getD k zero) < (x.take (k + 1)).count (x.getD k zero) then difTo x b k ++ [x.getD k zero] else difTo x b k
def dif (a b : List R) : List R := difTo (sort a) b (sort a).length
def distTo (x : List R) : Nat → List R
  | 0 => []
  | k + 1 => if k = 0 ∨ x.getD k zero ≠ x.getD (k - 1) zero then distTo x k ++ [x.getD k zero] else distTo x k
def dist (L : List R) : List R := distTo (sort L) (sort L).length
end R
end Go.Proofs.Ytfghhjcfmmhacaa
namespace Go.Proofs.Ytfghhjcfmmhacaa.R
open Go.Lib
def pageOk (p : List R) : Bool := okRows p && decide (1 ≤ total p ∧ total p ≤ 8)
def packStep (s : List (List R) × List R) (r : R) : List (List R) × List R := if 8 < total s.2 + r.cost then (s.1 ++ [s.2], [r]) else (s.1, s.2 ++ [r])
def packSt (L : List R) : List (List R) × List R := L.foldl packStep ([], [])
def packEnd (s : List (List R) × List R) : List (List R) := if s.2 = [] then s.1 else s.1 ++ [s.2]
def pack (L : List R) : List (List R) := if okRows L then packEnd (packSt L) else []
theorem packSt_snoc (L : List R) (r : R) : packSt (L ++ [r]) = packStep (packSt L) r := by simp [packSt]
theorem packSt_next (L : List R) (k : Nat) (hk : k < L.length) : packSt (L.take (k + 1)) = packStep (packSt (L.take k)) (L.getD k R.zero) := by
  have e : L.getD k R.zero = L[k] := by simp [List.getD, hk]
  rw [e, List.take_succ_eq_append_getElem hk, packSt_snoc]
structure Packing (L : List R) (s : List (List R) × List R) : Prop where
  flat : s.1.flatten ++ s.2 = L
  full : ∀ p ∈ s.1, p ≠ [] ∧ total p ≤ 8
  fit : total s.2 ≤ 8
  none : s.2 = [] → L = []
  next : ∀ t, t + 1 < s.1.length → 8 < total (s.1.getD t []) + ((s.1.getD (t + 1) []).getD 0 R.zero).cost
  last : ∀ t, t + 1 = s.1.length → 8 < total (s.1.getD t []) + (s.2.getD 0 R.zero).cost
/-! ### The string format -/
def allPages (P : List (List R)) : Bool := P.all pageOk
def pageTxt (p : List R) : List UInt8 := 91 :: (fmtRows p ++ [93])
def fmtPages (P : List (List R)) : List UInt8 := if allPages P then P.flatMap pageTxt else []
def readPage : List UInt8 → Option (List R)
  | 91 :: q => parseRows q
  | _ => none
def readPages : List (List UInt8) → Option (List (List R))
  | [] => some []
  | p :: ps => match readPage p, readPages ps with
    | some r, some L => some (r :: L)
    | _, _ => none
def parsePages (l : List UInt8) : Option (List (List R)) :=
  match readPages (Cut.cut 93 l).dropLast with
  | some P => if allPages P && decide (fmtPages P = l) then some P else none
  | none => none
end Go.Proofs.Ytfghhjcfmmhacaa.R
namespace Go.Proofs.Ytfghhjcfmmhacaa
namespace R
structure First (L : List R) (i : Nat) : Prop where
  le : i ≤ L.length
  fits : ∀ j, j < i → ¬ 8 < total (L.take j) + (L.getD j zero).cost
  over : i < L.length → 8 < total (L.take i) + (L.getD i zero).cost
theorem First.pos {L : List R} {i : Nat} (h : First L i) (hL : 0 < L.length) : 1 ≤ i := by
  rcases Nat.eq_zero_or_pos i with h0 | h0
  · subst h0
    have h1 := h.over hL
    have h2 := (L.getD 0 zero).cost_range
    have h3 : total (L.take 0) = 0 := rfl
    omega
  · exact h0
theorem fold_pre (A : List (List R)) (s : List (List R) × List R) (L : List R) : L.foldl packStep (A ++ s.1, s.2) = (A ++ (L.foldl packStep s).1, (L.foldl packStep s).2) := by
  induction L generalizing s with
  | nil => rfl
  | cons r L ih =>
    rw [List.foldl_cons, List.foldl_cons, ← ih]
    congr 1
    unfold packStep
    by_cases h : 8 < total s.2 + r.cost
    · rw [if_pos h, if_pos h]; simp
    · rw [if_neg h, if_neg h]
theorem First.st {L : List R} {i : Nat} (h : First L i) : ∀ j, j ≤ i → packSt (L.take j) = ([], L.take j) := by
  intro j
  induction j with
  | zero => intro _; rfl
  | succ j ih =>
    intro hj
    have hl := h.le
    rw [packSt_next L j (by omega), ih (by omega)]
    unfold packStep
    rw [if_neg (h.fits j (by omega)), List.take_succ_eq_append_getElem (by omega : j < L.length)]
    simp [List.getD, (by omega : j < L.length)]
theorem First.pack {L : List R} {i : Nat} (h : First L i) (hL : 0 < L.length) : packEnd (packSt L) = L.take i :: packEnd (packSt (L.drop i)) := by
  have hp := h.pos hL
  have hle := h.le
  have hs := h.st i (Nat.le_refl _)
  rcases Nat.lt_or_ge i L.length with hi | hi
  · have h1 : packSt L = (L.drop i).foldl packStep ([], L.take i) := by
      conv => lhs; rw [← List.take_append_drop i L]
      unfold packSt at hs ⊢
      rw [List.foldl_append, hs]
    have hov := h.over hi
    have hg : L.getD i zero = L[i] := by simp [List.getD, hi]
    rw [hg] at hov
    have hc := L[i].cost_range
    have e1 : packStep ([], L.take i) L[i] = ([L.take i] ++ ([] : List (List R)), [L[i]]) := by
      unfold packStep
      rw [if_pos hov]
      simp
    have e2 : packStep ([], []) L[i] = ([], [L[i]]) := by
      unfold packStep
      rw [if_neg (by show ¬ 8 < total [] + _; have : total [] = 0 := rfl; omega)]
      rfl
    have h2 : packSt (L.drop i) = (L.drop (i + 1)).foldl packStep ([], [L[i]]) := by
      unfold packSt
      rw [List.drop_eq_getElem_cons hi, List.foldl_cons, e2]
    rw [h1, List.drop_eq_getElem_cons hi, List.foldl_cons, e1, fold_pre [L.take i] ([], [L[i]]), ← List.drop_eq_getElem_cons hi, h2]
    unfold packEnd
    by_cases hn : ((L.drop (i + 1)).foldl packStep ([], [L[i]])).2 = []
    · rw [if_pos hn, if_pos hn]; rfl
    · rw [if_neg hn, if_neg hn]; simp
  · have he : i = L.length := by omega
    subst he
    rw [List.take_length, List.drop_length]
    rw [List.take_length] at hs
    rw [hs]
    unfold packEnd
    rw [if_neg (by simpa using List.ne_nil_of_length_pos hL)]
    rfl
end R
end Go.Proofs.Ytfghhjcfmmhacaa
namespace Go.Proofs.Ytfghhjcfmmhacaa
namespace R
end R
end Go.Proofs.Ytfghhjcfmmhacaa
/- Rows in memory, slices over shapes, slices built element by element, appends; no function of program or reference is walked here. -/
namespace Go.Proofs.Ytfghhjcfmmhacaa
open Go.RowKit
def R.val (r : R) : Value := .agg #[.int .i64 r.key, .int .i64 r.value, .int .i64 r.width]
def RowAt (w : World) (b o : Nat) (r : R) : Prop := w.cell? ⟨b, o, none⟩ = some (.int .i64 r.key) ∧ w.cell? ⟨b, o + 1, none⟩ = some (.int .i64 r.value) ∧ w.cell? ⟨b, o + 2, none⟩ = some (.int .i64 r.width)
theorem RowAt.below {w w' : World} {B b o : Nat} {r : R} (h : RowAt w b o r) (hb : Below B w w') (hlt : b < B) : RowAt w' b o r :=
  ⟨(hb.cell hlt).trans h.1, (hb.cell hlt).trans h.2.1, (hb.cell hlt).trans h.2.2⟩
structure Boxes (w : World) (a b : R) (v : World) : Prop where
  a0 : v.cell? ⟨w.heap.size, 0, none⟩ = some (.int .i64 a.key)
  a1 : v.cell? ⟨w.heap.size, 1, none⟩ = some (.int .i64 a.value)
  a2 : v.cell? ⟨w.heap.size, 2, none⟩ = some (.int .i64 a.width)
  b0 : v.cell? ⟨w.heap.size + 1, 0, none⟩ = some (.int .i64 b.key)
  b1 : v.cell? ⟨w.heap.size + 1, 1, none⟩ = some (.int .i64 b.value)
  b2 : v.cell? ⟨w.heap.size + 1, 2, none⟩ = some (.int .i64 b.width)
  old : Below w.heap.size w v
  big : w.heap.size + 1 < v.heap.size
theorem Boxes.drew {w v : World} {a b : R} (h : Boxes w a b v) : Boxes w a b v.drew := ⟨h.a0, h.a1, h.a2, h.b0, h.b1, h.b2, h.old.drew, h.big⟩
theorem Boxes.next {w v v' : World} {a b : R} (h : Boxes w a b v) (hb : Below v.heap.size v v') : Boxes w a b v' := by
  have h1 : w.heap.size < v.heap.size := by have := h.big; omega
  exact ⟨(hb.cell h1).trans h.a0, (hb.cell h1).trans h.a1, (hb.cell h1).trans h.a2, (hb.cell h.big).trans h.b0, (hb.cell h.big).trans h.b1, (hb.cell h.big).trans h.b2, h.old.trans (hb.mono (Nat.le_of_lt h1)), Nat.lt_of_lt_of_le h.big hb.size⟩
def IsRows (w : World) (a : Option Addr) (len : Nat) (L : List R) : Prop :=
  L.length = len ∧ (∀ r ∈ L, r.wf) ∧ (len = 0 ∨ ∃ b o : Nat, a = some ⟨b, o, none⟩ ∧ b < w.heap.size ∧ ∀ t, t < len → RowAt w b (o + t * 3) (L.getD t R.zero))
theorem IsRows.below {w w' : World} {a : Option Addr} {len B : Nat} {L : List R} (h : IsRows w a len L) (hb : Below B w w') (ha : ∀ x, a = some x → 0 < len → x.block < B) : IsRows w' a len L := by
  obtain ⟨h1, h2, h3⟩ := h
  refine ⟨h1, h2, ?_⟩
  rcases h3 with h3 | ⟨b, o, rfl, hlt, h3⟩
  · exact .inl h3
  · rcases Nat.eq_zero_or_pos len with h0 | h0
    · exact .inl h0
    · exact .inr ⟨b, o, rfl, Nat.lt_of_lt_of_le hlt hb.size, fun t ht => (h3 t ht).below hb (ha _ rfl h0)⟩
theorem IsRows.keep {w w' : World} {a : Option Addr} {len : Nat} {L : List R} (h : IsRows w a len L) (hb : Below w.heap.size w w') : IsRows w' a len L := by
  obtain ⟨h1, h2, h3⟩ := h
  refine ⟨h1, h2, ?_⟩
  rcases h3 with h3 | ⟨b, o, rfl, hlt, h3⟩
  · exact .inl h3
  · exact .inr ⟨b, o, rfl, Nat.lt_of_lt_of_le hlt hb.size, fun t ht => (h3 t ht).below hb hlt⟩
def RowsLow (a : Option Addr) (len B : Nat) : Prop := ∀ x, a = some x → 0 < len → x.block < B
theorem IsRows.old {w : World} {a : Option Addr} {len : Nat} {L : List R} (h : IsRows w a len L) : RowsLow a len w.heap.size := by
  intro x hx hp
  obtain ⟨-, -, h0 | ⟨b, o, rfl, hlt, -⟩⟩ := h
  · omega
  · cases hx; exact hlt
theorem IsRows.low {w w' : World} {a : Option Addr} {len B : Nat} {L : List R} (h : IsRows w a len L) (hl : Hid (RowsLow a len B)) (hb : Below B w w') : IsRows w' a len L := h.below hb hl.out
theorem IsRows.wf {w : World} {a : Option Addr} {len : Nat} {L : List R} (h : IsRows w a len L) (t : Nat) (ht : t < len) : (L.getD t R.zero).wf := by
  have hl : t < L.length := by rw [h.1]; exact ht
  have : L.getD t R.zero = L[t] := by simp [List.getD, hl]
  rw [this]
  exact h.2.1 _ (List.getElem_mem hl)
def cells3 (L : List R) : List Value := L.flatMap fun r => [.int .i64 r.key, .int .i64 r.value, .int .i64 r.width]
theorem cells3_length (L : List R) : (cells3 L).length = L.length * 3 := by
  induction L with
  | nil => rfl
  | cons r L ih => unfold cells3 at ih ⊢; rw [List.flatMap_cons, List.length_append, ih]; simp; omega
theorem cells3_get (L : List R) : ∀ (t : Nat), t < L.length → (cells3 L)[t * 3]? = some (.int .i64 (L.getD t R.zero).key) ∧ (cells3 L)[t * 3 + 1]? = some (.int .i64 (L.getD t R.zero).value) ∧ (cells3 L)[t * 3 + 2]? = some (.int .i64 (L.getD t R.zero).width) := by
  induction L with
  | nil => intro t ht; simp at ht
  | cons r L ih =>
    intro t ht
    cases t with
    | zero => exact ⟨rfl, rfl, rfl⟩
    | succ t =>
      have := ih t (by simpa using ht)
      have e : cells3 (r :: L) = .int .i64 r.key :: .int .i64 r.value :: .int .i64 r.width :: cells3 L := rfl
      rw [e, show (t + 1) * 3 = t * 3 + 3 by omega]
      simpa using this
end Go.Proofs.Ytfghhjcfmmhacaa
namespace Go.Proofs.Ytfghhjcfmmhacaa
open Go.RowKit
def marked (n : Nat) (k : Int) : List R := (List.range n).map fun (t : Nat) => ⟨k + 3 * (t : Int), k + 3 * (t : Int) + 1, k + 3 * (t : Int) + 2⟩
theorem marked_length (n : Nat) (k : Int) : (marked n k).length = n := by simp [marked]
end Go.Proofs.Ytfghhjcfmmhacaa
namespace Go.Proofs.Ytfghhjcfmmhacaa
open Go.RowKit
theorem IsRows.cell {w : World} {a : Option Addr} {len : Nat} {L : List R} (h : IsRows w a len L) : ∃ ad : Addr, (0 < len → a = some ad) ∧ ∀ j u, (cells3 L)[j]? = some u → w.cell? (ad.add j) = some u := by
  obtain ⟨h1, h2, h0 | ⟨b, o, rfl, hlt, hc⟩⟩ := h
  · refine ⟨⟨0, 0, none⟩, fun h => by omega, fun j u hj => ?_⟩
    have : L = [] := List.eq_nil_of_length_eq_zero (by omega)
    subst this
    simp [cells3] at hj
  · refine ⟨⟨b, o, none⟩, fun _ => rfl, fun j u hj => ?_⟩
    have hjl : j < L.length * 3 := by have := (List.getElem?_eq_some_iff.1 hj).1; rwa [cells3_length] at this
    obtain ⟨c0, c1, c2⟩ := hc (j / 3) (by omega)
    obtain ⟨e0, e1, e2⟩ := cells3_get L (j / 3) (by omega)
    rw [Addr.add_lit]
    have h3 : j = j / 3 * 3 ∨ j = j / 3 * 3 + 1 ∨ j = j / 3 * 3 + 2 := by omega
    rcases h3 with h | h | h
    · rw [h] at hj ⊢; rw [e0] at hj; rw [c0]; exact hj
    · rw [h] at hj ⊢; rw [e1] at hj; rw [← Nat.add_assoc, c1]; exact hj
    · rw [h] at hj ⊢; rw [e2] at hj; rw [← Nat.add_assoc, c2]; exact hj
end Go.Proofs.Ytfghhjcfmmhacaa
namespace Go.Proofs.Ytfghhjcfmmhacaa
open Go.RowKit
structure Reg where
  b : Nat
  lo : Nat
  hi : Nat
def Reg.apart (x y : Reg) : Prop := x.b ≠ y.b ∨ x.hi ≤ y.lo ∨ y.hi ≤ x.lo
theorem Reg.apart_symm {x y : Reg} (h : x.apart y) : y.apart x := by
  rcases h with h | h | h
  · exact .inl fun e => h e.symm
  · exact .inr (.inr h)
  · exact .inr (.inl h)
structure Stay (F : List Reg) (w w' : World) : Prop where
  size : w.heap.size ≤ w'.heap.size
  cell : ∀ r ∈ F, ∀ j, r.lo ≤ j → j < r.hi → w'.cell? ⟨r.b, j, none⟩ = w.cell? ⟨r.b, j, none⟩ ∧ w'.frozen? ⟨r.b, j, none⟩ = w.frozen? ⟨r.b, j, none⟩
structure OnlyAt (F : List Reg) (w w' : World) : Prop where
  os : w'.os = w.os
  tape : w'.tape = w.tape
  output : w'.output = w.output
  size : w.heap.size ≤ w'.heap.size
  block : ∀ b, b < w.heap.size → (∀ r ∈ F, r.b ≠ b) → w'.heap[b]? = w.heap[b]?
  cell : ∀ b j, b < w.heap.size → (∀ r ∈ F, r.b = b → j < r.lo ∨ r.hi ≤ j) → w'.cell? ⟨b, j, none⟩ = w.cell? ⟨b, j, none⟩
  frozen : ∀ b j, b < w.heap.size → w'.frozen? ⟨b, j, none⟩ = w.frozen? ⟨b, j, none⟩
theorem OnlyAt.refl (F : List Reg) (w : World) : OnlyAt F w w := ⟨rfl, rfl, rfl, Nat.le_refl _, fun _ _ _ => rfl, fun _ _ _ _ => rfl, fun _ _ _ => rfl⟩
theorem OnlyAt.trans {F : List Reg} {a b c : World} (h : OnlyAt F a b) (k : OnlyAt F b c) : OnlyAt F a c :=
  ⟨k.os.trans h.os, k.tape.trans h.tape, k.output.trans h.output, Nat.le_trans h.size k.size, fun i hi hne => (k.block i (Nat.lt_of_lt_of_le hi h.size) hne).trans (h.block i hi hne),
    fun i j hi hne => (k.cell i j (Nat.lt_of_lt_of_le hi h.size) hne).trans (h.cell i j hi hne), fun i j hi => (k.frozen i j (Nat.lt_of_lt_of_le hi h.size)).trans (h.frozen i j hi)⟩
theorem OnlyAt.mono {F G : List Reg} {a b : World} (h : OnlyAt F a b) (hs : ∀ r ∈ F, r ∈ G) : OnlyAt G a b :=
  ⟨h.os, h.tape, h.output, h.size, fun i hi hne => h.block i hi fun r hr => hne r (hs r hr), fun i j hi hne => h.cell i j hi fun r hr => hne r (hs r hr), h.frozen⟩
theorem OnlyAt.below {F : List Reg} {B : Nat} {a b : World} (h : OnlyAt F a b) (hB : B ≤ a.heap.size) (hF : ∀ r ∈ F, B ≤ r.b) : Below B a b :=
  ⟨h.os, h.tape, h.output, h.size, fun i hi => h.block i (Nat.lt_of_lt_of_le hi hB) fun r hr e => by have := hF r hr; omega⟩
theorem OnlyAt.of_below {F : List Reg} {a b : World} (h : Below a.heap.size a b) : OnlyAt F a b :=
  ⟨h.os, h.tape, h.output, h.size, fun i hi _ => h.block i hi, fun i _ hi _ => World.cell?_of_block (h.block i hi), fun i _ hi => World.frozen?_of_block (h.block i hi)⟩
theorem OnlyAt.set {F : List Reg} {a w : World} (h : OnlyAt F a w) {r : Reg} (hr : r ∈ F) {b j : Nat} (hb : r.b = b) (h1 : r.lo ≤ j) (h2 : j < r.hi) (u : Value) : OnlyAt F a (w.setCell ⟨b, j, none⟩ u) := by
  refine ⟨h.os, h.tape, h.output, by simpa [World.setCell] using h.size, fun i hi hne => ?_, fun i k hi hne => ?_, fun i k hi => ?_⟩
  · exact (Below.heap_setCell w ⟨b, j, none⟩ u i (fun e => hne r hr (by rw [hb, e]))).trans (h.block i hi hne)
  · refine (World.cell?_setCell_other _ _ _ _ (fun e => ?_)).trans (h.cell i k hi hne)
    simp only [Addr.mk.injEq] at e
    have := hne r hr (hb.trans (by have := e.1; omega))
    have := e.2.1
    omega
  · exact (World.frozen?_setCell w _ _ _).trans (h.frozen i k hi)
theorem Stay.of_only {F G : List Reg} {w w' : World} (h : OnlyAt F w w') (hap : ∀ x ∈ F, ∀ y ∈ G, x.apart y) (hlt : ∀ y ∈ G, y.b < w.heap.size) : Stay G w w' :=
  ⟨h.size, fun y hy j h1 h2 => ⟨h.cell y.b j (hlt y hy) fun x hx e => by
    rcases hap x hx y hy with hn | hn | hn
    · exact absurd e hn
    · right; omega
    · left; omega, h.frozen y.b j (hlt y hy)⟩⟩
theorem Stay.of_below {G : List Reg} {w w' : World} {B : Nat} (h : Below B w w') (hlt : ∀ y ∈ G, y.b < B) : Stay G w w' :=
  ⟨h.size, fun y hy _ _ _ => ⟨World.cell?_of_block (h.block y.b (hlt y hy)), World.frozen?_of_block (h.block y.b (hlt y hy))⟩⟩
theorem Stay.sub {F G : List Reg} {w w' : World} (h : Stay G w w') (hs : ∀ r ∈ F, r ∈ G) : Stay F w w' := ⟨h.size, fun r hr => h.cell r (hs r hr)⟩
def CellsAt (w : World) (b o : Nat) (cs : List Value) : Prop := ∀ (j : Nat) (u : Value), cs[j]? = some u → w.cell? ⟨b, o + j, none⟩ = some u
theorem CellsAt.below {w w' : World} {B b o : Nat} {cs : List Value} (h : CellsAt w b o cs) (hb : Below B w w') (hlt : b < B) : CellsAt w' b o cs := fun j u hj => (hb.cell hlt).trans (h j u hj)
theorem CellsAt.lt {w : World} {b o : Nat} {cs : List Value} (h : CellsAt w b o cs) (hl : 0 < cs.length) : b < w.heap.size := World.block_lt_of_cell? w _ (h 0 cs[0] (by simp [hl]))
structure Rep (α : Type) where
  H : Type
  size : Nat
  cells : α → H → List Value
  inn : World → α → H → Prop
  own : World → Nat → α → H → List Reg → Prop
  len : ∀ x h, (cells x h).length = size
  inn_keep : ∀ {w w' x h}, inn w x h → Below w.heap.size w w' → inn w' x h
  own_inn : ∀ {w B x h F}, own w B x h F → inn w x h
  own_lt : ∀ {w B x h F}, own w B x h F → ∀ r ∈ F, B ≤ r.b ∧ r.b < w.heap.size
  own_stay : ∀ {w w' B x h F}, own w B x h F → Stay F w w' → own w' B x h F
  own_apart : ∀ {w B x h F}, own w B x h F → F.Pairwise Reg.apart
  own_mono : ∀ {w B B' x h F}, own w B x h F → B' ≤ B → own w B' x h F
def SeqIn {α : Type} (r : Rep α) (w : World) (a : Option Addr) (n : Nat) (xs : List α) : Prop :=
  xs.length = n ∧ n ≤ maxLen ∧ (n = 0 ∨ ∃ b o : Nat, a = some ⟨b, o, none⟩ ∧ b < w.heap.size ∧ ∃ hs : Nat → r.H, ∀ t x, xs[t]? = some x → CellsAt w b (o + t * r.size) (r.cells x (hs t)) ∧ r.inn w x (hs t))
def SeqOwn {α : Type} (r : Rep α) (w : World) (B : Nat) (a : Option Addr) (n : Nat) (xs : List α) (F : List Reg) : Prop :=
  xs.length = n ∧ n ≤ maxLen ∧ ((n = 0 ∧ F = []) ∨ ∃ (b o : Nat) (hs : Nat → r.H) (Fs : Nat → List Reg), a = some ⟨b, o, none⟩ ∧ B ≤ b ∧ b < w.heap.size ∧ F = ⟨b, o, o + n * r.size⟩ :: (List.range n).flatMap Fs ∧ F.Pairwise Reg.apart ∧
    (∀ j, o ≤ j → j < o + n * r.size → w.frozen? ⟨b, j, none⟩ = false) ∧ ∀ t x, xs[t]? = some x → CellsAt w b (o + t * r.size) (r.cells x (hs t)) ∧ r.own w B x (hs t) (Fs t))
theorem idx_lt {α : Type} {xs : List α} {t : Nat} {x : α} (h : xs[t]? = some x) : t < xs.length := (List.getElem?_eq_some_iff.1 h).1
theorem at_le {t n s : Nat} (h : t < n) : t * s + s ≤ n * s := by
  have := Nat.mul_le_mul_right s (show t + 1 ≤ n from h)
  rwa [Nat.add_mul, Nat.one_mul] at this
theorem SeqIn.keep {α : Type} {r : Rep α} {w w' : World} {a : Option Addr} {n : Nat} {xs : List α} (h : SeqIn r w a n xs) (hb : Below w.heap.size w w') : SeqIn r w' a n xs := by
  obtain ⟨h1, hm, h2⟩ := h
  refine ⟨h1, hm, h2.imp_right ?_⟩
  rintro ⟨b, o, rfl, hlt, hs, hx⟩
  exact ⟨b, o, rfl, Nat.lt_of_lt_of_le hlt hb.size, hs, fun t x ht => ⟨(hx t x ht).1.below hb hlt, r.inn_keep (hx t x ht).2 hb⟩⟩
theorem SeqOwn.lt {α : Type} {r : Rep α} {w : World} {B : Nat} {a : Option Addr} {n : Nat} {xs : List α} {F : List Reg} (h : SeqOwn r w B a n xs F) : ∀ y ∈ F, B ≤ y.b ∧ y.b < w.heap.size := by
  obtain ⟨h1, -, ⟨-, rfl⟩ | ⟨b, o, hs, Fs, rfl, hB, hlt, rfl, -, -, hx⟩⟩ := h
  · intro y hy; cases hy
  · intro y hy
    rcases List.mem_cons.1 hy with rfl | hy
    · exact ⟨hB, hlt⟩
    · obtain ⟨t, ht, hy⟩ := List.mem_flatMap.1 hy
      have htl : t < xs.length := by rw [h1]; exact List.mem_range.1 ht
      exact r.own_lt (hx t xs[t] (by simp [htl])).2 y hy
theorem SeqOwn.stay {α : Type} {r : Rep α} {w w' : World} {B : Nat} {a : Option Addr} {n : Nat} {xs : List α} {F : List Reg} (h : SeqOwn r w B a n xs F) (hs : Stay F w w') : SeqOwn r w' B a n xs F := by
  obtain ⟨h1, hm, h2⟩ := h
  refine ⟨h1, hm, h2.imp_right ?_⟩
  rintro ⟨b, o, hh, Fs, rfl, hB, hlt, rfl, hp, hf, hx⟩
  have hc := hs.cell ⟨b, o, o + n * r.size⟩ (List.mem_cons_self ..)
  refine ⟨b, o, hh, Fs, rfl, hB, Nat.lt_of_lt_of_le hlt hs.size, rfl, hp, fun j ha hb => ((hc j ha hb).2).trans (hf j ha hb), fun t x ht => ?_⟩
  have htn : t < n := by rw [← h1]; exact idx_lt ht
  refine ⟨fun j u hj => ?_, r.own_stay (hx t x ht).2 (hs.sub fun y hy => List.mem_cons_of_mem _ (List.mem_flatMap.2 ⟨t, List.mem_range.2 htn, hy⟩))⟩
  have hjl : j < r.size := by rw [← r.len x (hh t)]; exact idx_lt hj
  have hle := at_le (s := r.size) htn
  exact ((hc (o + t * r.size + j) (by simp only; omega) (by simp only; omega)).1).trans ((hx t x ht).1 j u hj)
theorem SeqOwn.inn {α : Type} {r : Rep α} {w : World} {B : Nat} {a : Option Addr} {n : Nat} {xs : List α} {F : List Reg} (h : SeqOwn r w B a n xs F) : SeqIn r w a n xs := by
  obtain ⟨h1, hm, ⟨h0, -⟩ | ⟨b, o, hs, Fs, rfl, -, hlt, -, -, -, hx⟩⟩ := h
  · exact ⟨h1, hm, .inl h0⟩
  · exact ⟨h1, hm, .inr ⟨b, o, rfl, hlt, hs, fun t x ht => ⟨(hx t x ht).1, r.own_inn (hx t x ht).2⟩⟩⟩
theorem SeqOwn.apart {α : Type} {r : Rep α} {w : World} {B : Nat} {a : Option Addr} {n : Nat} {xs : List α} {F : List Reg} (h : SeqOwn r w B a n xs F) : F.Pairwise Reg.apart := by
  obtain ⟨h1, -, ⟨-, rfl⟩ | ⟨b, o, hs, Fs, rfl, -, hlt, -, hp, -⟩⟩ := h
  · exact List.Pairwise.nil
  · exact hp
theorem SeqOwn.mono {α : Type} {r : Rep α} {w : World} {B B' : Nat} {a : Option Addr} {n : Nat} {xs : List α} {F : List Reg} (h : SeqOwn r w B a n xs F) (hb : B' ≤ B) : SeqOwn r w B' a n xs F := by
  obtain ⟨h1, hm, h2⟩ := h
  refine ⟨h1, hm, h2.imp_right ?_⟩
  rintro ⟨b, o, hs, Fs, rfl, hB, hlt, hF, hp, hf, hx⟩
  exact ⟨b, o, hs, Fs, rfl, Nat.le_trans hb hB, hlt, hF, hp, hf, fun t x ht => ⟨(hx t x ht).1, r.own_mono (hx t x ht).2 hb⟩⟩
theorem SeqOwn.keep {α : Type} {r : Rep α} {w w' : World} {B : Nat} {a : Option Addr} {n : Nat} {xs : List α} {F : List Reg} (h : SeqOwn r w B a n xs F) (hb : Below w.heap.size w w') : SeqOwn r w' B a n xs F :=
  h.stay (Stay.of_below hb fun y hy => (h.lt y hy).2)
def rowRep : Rep R where
  H := Unit
  size := 3
  cells := fun r _ => [.int .i64 r.key, .int .i64 r.value, .int .i64 r.width]
  inn := fun _ r _ => r.wf
  own := fun _ _ r _ F => r.wf ∧ F = []
  len := fun _ _ => rfl
  inn_keep := fun h _ => h
  own_inn := fun h => h.1
  own_lt := fun h y hy => by rw [h.2] at hy; cases hy
  own_stay := fun h _ => h
  own_apart := fun h => by rw [h.2]; exact List.Pairwise.nil
  own_mono := fun h _ => h
def seqRep {α : Type} (r : Rep α) : Rep (List α) where
  H := Option Addr × Nat × Nat
  size := 1
  cells := fun _ h => [.slice h.1 h.2.1 h.2.2]
  inn := fun w xs h => SeqIn r w h.1 h.2.1 xs ∧ (h.1 = none → h.2.2 = 0)
  own := fun w B xs h F => SeqOwn r w B h.1 h.2.1 xs F ∧ (h.1 = none → h.2.2 = 0)
  len := fun _ _ => rfl
  inn_keep := fun h hb => ⟨h.1.keep hb, h.2⟩
  own_inn := fun h => ⟨h.1.inn, h.2⟩
  own_lt := fun h => h.1.lt
  own_stay := fun h hs => ⟨h.1.stay hs, h.2⟩
  own_apart := fun h => h.1.apart
  own_mono := fun h hb => ⟨h.1.mono hb, h.2⟩
theorem SeqOwn.at {α : Type} {r : Rep α} {w : World} {B : Nat} {a : Option Addr} {n : Nat} {xs : List α} {F : List Reg} (h : SeqOwn r w B a n xs F) {t : Nat} {x : α} (ht : xs[t]? = some x) :
    ∃ (b o : Nat) (hd : r.H) (G : List Reg), a = some ⟨b, o, none⟩ ∧ b < w.heap.size ∧ CellsAt w b (o + t * r.size) (r.cells x hd) ∧ (∀ j, j < r.size → w.frozen? ⟨b, o + t * r.size + j, none⟩ = false) ∧ r.own w B x hd G ∧ (∀ y ∈ G, y ∈ F) ∧
      ∀ w' x', OnlyAt G w w' → r.own w' B x' hd G → r.cells x' hd = r.cells x hd → SeqOwn r w' B a n (xs.set t x') F := by
  have htl := idx_lt ht
  obtain ⟨h1, hm, ⟨h0, -⟩ | ⟨b, o, hs, Fs, rfl, hB, hlt, rfl, hp, hf, hx⟩⟩ := h
  · omega
  · have htn : t < n := by omega
    have hle := at_le (s := r.size) htn
    have hsub : ∀ y ∈ Fs t, y ∈ (⟨b, o, o + n * r.size⟩ : Reg) :: (List.range n).flatMap Fs := fun y hy => List.mem_cons_of_mem _ (List.mem_flatMap.2 ⟨t, List.mem_range.2 htn, hy⟩)
    refine ⟨b, o, hs t, Fs t, rfl, hlt, (hx t x ht).1, fun j hj => hf _ (by omega) (by omega), (hx t x ht).2, hsub, fun w' x' ho hown hce => ?_⟩
    have hhead : ∀ y ∈ Fs t, (⟨b, o, o + n * r.size⟩ : Reg).apart y := fun y hy => (List.pairwise_cons.1 hp).1 y (List.mem_flatMap.2 ⟨t, List.mem_range.2 htn, hy⟩)
    have hst : Stay [⟨b, o, o + n * r.size⟩] w w' := Stay.of_only ho (fun y hy z hz => by rw [List.mem_singleton.1 hz]; exact Reg.apart_symm (hhead y hy)) (fun z hz => by rw [List.mem_singleton.1 hz]; exact hlt)
    have hc := hst.cell ⟨b, o, o + n * r.size⟩ (List.mem_singleton.2 rfl)
    refine ⟨by rw [List.length_set]; exact h1, hm, .inr ⟨b, o, hs, Fs, rfl, hB, Nat.lt_of_lt_of_le hlt ho.size, rfl, hp, fun j ha hb => ((hc j ha hb).2).trans (hf j ha hb), fun s y hy => ?_⟩⟩
    have hsn : s < n := by have := idx_lt hy; rw [List.length_set] at this; omega
    have hles := at_le (s := r.size) hsn
    have hcell : ∀ z, xs[s]? = some z → CellsAt w' b (o + s * r.size) (r.cells z (hs s)) := fun z hz j u hj => by
      have hjl : j < r.size := by rw [← r.len z (hs s)]; exact idx_lt hj
      exact ((hc (o + s * r.size + j) (by simp only; omega) (by simp only; omega)).1).trans ((hx s z hz).1 j u hj)
    by_cases hst' : s = t
    · subst hst'
      rw [List.getElem?_set_self htl] at hy
      obtain rfl := Option.some.inj hy
      exact ⟨by rw [hce]; exact hcell x ht, hown⟩
    · rw [List.getElem?_set_ne (fun e => hst' e.symm)] at hy
      refine ⟨hcell y hy, r.own_stay (hx s y hy).2 (Stay.of_only ho (fun p hp' q hq => ?_) fun q hq => (r.own_lt (hx s y hy).2 q hq).2)⟩
      have hpw := (List.pairwise_cons.1 hp).2
      rw [List.pairwise_flatMap] at hpw
      have hr := hpw.2
      rcases Nat.lt_or_gt_of_ne hst' with h2 | h2
      · exact Reg.apart_symm ((List.pairwise_iff_getElem.1 hr) s t (by simpa using hsn) (by simpa using htn) h2 q (by simpa using hq) p (by simpa using hp'))
      · exact (List.pairwise_iff_getElem.1 hr) t s (by simpa using htn) (by simpa using hsn) h2 p (by simpa using hp') q (by simpa using hq)
end Go.Proofs.Ytfghhjcfmmhacaa
namespace Go.Proofs.Ytfghhjcfmmhacaa
open Go.RowKit
structure El {α : Type} (r : Rep α) where
  x : α
  h : r.H
  F : List Reg
def OwnAll {α : Type} (r : Rep α) (w : World) (B : Nat) (es : List (El r)) : Prop :=
  (∀ e ∈ es, r.own w B e.x e.h e.F) ∧ es.Pairwise fun e f => ∀ x ∈ e.F, ∀ y ∈ f.F, x.apart y
def InAll {α : Type} (r : Rep α) (w : World) (es : List (El r)) : Prop := ∀ e ∈ es, r.inn w e.x e.h
def cellsOf {α : Type} {r : Rep α} (es : List (El r)) : List Value := es.flatMap fun e => r.cells e.x e.h
theorem cellsOf_get {α : Type} {r : Rep α} : ∀ (es : List (El r)) (t : Nat) (e : El r), es[t]? = some e → ∀ j u, (r.cells e.x e.h)[j]? = some u → (cellsOf es)[t * r.size + j]? = some u
  | [], t, e, ht, j, u, hj => by simp at ht
  | e0 :: es, 0, e, ht, j, u, hj => by
    obtain rfl : e0 = e := by simpa using ht
    have hjl := idx_lt hj
    rw [Nat.zero_mul, Nat.zero_add]
    show (r.cells e0.x e0.h ++ cellsOf es)[j]? = _
    rw [List.getElem?_append_left hjl]
    exact hj
  | e0 :: es, t + 1, e, ht, j, u, hj => by
    have ht' : es[t]? = some e := by simpa using ht
    have := cellsOf_get es t e ht' j u hj
    show (r.cells e0.x e0.h ++ cellsOf es)[(t + 1) * r.size + j]? = _
    have hl := r.len e0.x e0.h
    have e1 : (t + 1) * r.size = t * r.size + r.size := by rw [Nat.add_mul, Nat.one_mul]
    rw [List.getElem?_append_right (by omega), hl, show (t + 1) * r.size + j - r.size = t * r.size + j by omega]
    exact this
theorem OwnAll.nil {α : Type} (r : Rep α) (w : World) (B : Nat) : OwnAll r w B [] := ⟨fun e he => (by cases he), List.Pairwise.nil⟩
theorem InAll.nil {α : Type} (r : Rep α) (w : World) : InAll r w [] := fun e he => (by cases he)
theorem OwnAll.inn {α : Type} {r : Rep α} {w : World} {B : Nat} {es : List (El r)} (h : OwnAll r w B es) : InAll r w es := fun e he => r.own_inn (h.1 e he)
theorem OwnAll.stay {α : Type} {r : Rep α} {w w' : World} {B : Nat} {es : List (El r)} (h : OwnAll r w B es) (hs : ∀ e ∈ es, Stay e.F w w') : OwnAll r w' B es := ⟨fun e he => r.own_stay (h.1 e he) (hs e he), h.2⟩
theorem OwnAll.keep {α : Type} {r : Rep α} {w w' : World} {B : Nat} {es : List (El r)} (h : OwnAll r w B es) (hb : Below w.heap.size w w') : OwnAll r w' B es :=
  h.stay fun e he => Stay.of_below hb fun y hy => (r.own_lt (h.1 e he) y hy).2
theorem InAll.keep {α : Type} {r : Rep α} {w w' : World} {es : List (El r)} (h : InAll r w es) (hb : Below w.heap.size w w') : InAll r w' es := fun e he => r.inn_keep (h e he) hb
theorem OwnAll.only {α : Type} {r : Rep α} {w w' : World} {B : Nat} {es : List (El r)} {G : List Reg} (h : OwnAll r w B es) (ho : OnlyAt G w w') (hne : ∀ e ∈ es, ∀ y ∈ e.F, ∀ x ∈ G, x.b ≠ y.b) : OwnAll r w' B es :=
  h.stay fun e he => Stay.of_only ho (fun x hx y hy => .inl (hne e he y hy x hx)) fun y hy => (r.own_lt (h.1 e he) y hy).2
theorem OwnAll.push {α : Type} {r : Rep α} {w w' : World} {B B' : Nat} {es : List (El r)} (h : OwnAll r w B es) (hb : Below w.heap.size w w') {e : El r} (he : r.own w' B' e.x e.h e.F) (hB : B ≤ B') (hn : w.heap.size ≤ B') : OwnAll r w' B (es ++ [e]) := by
  have hk := h.keep hb
  refine ⟨fun f hf => ?_, ?_⟩
  · rcases List.mem_append.1 hf with hf | hf
    · exact hk.1 f hf
    · rw [List.mem_singleton.1 hf]; exact r.own_mono he hB
  · rw [List.pairwise_append]
    refine ⟨hk.2, List.pairwise_singleton _ _, fun f hf g hg => ?_⟩
    rw [List.mem_singleton.1 hg]
    intro x hx y hy
    have h1 := (r.own_lt (h.1 f hf) x hx).2
    have h2 := (r.own_lt he y hy).1
    exact .inl (by omega)
theorem InAll.push {α : Type} {r : Rep α} {w : World} {es : List (El r)} (h : InAll r w es) {e : El r} (he : r.inn w e.x e.h) : InAll r w (es ++ [e]) := fun f hf => by
  rcases List.mem_append.1 hf with hf | hf
  · exact h f hf
  · rw [List.mem_singleton.1 hf]; exact he
theorem OwnAll.mono {α : Type} {r : Rep α} {w : World} {B B' : Nat} {es : List (El r)} (h : OwnAll r w B es) (hb : B' ≤ B) : OwnAll r w B' es := ⟨fun e he => r.own_mono (h.1 e he) hb, h.2⟩
theorem OwnAll.done {α : Type} {r : Rep α} {w : World} {B g : Nat} {es : List (El r)} (h : OwnAll r w B es) (hg : B ≤ g) (hl : g < w.heap.size) (hf : ∀ j, w.frozen? ⟨g, j, none⟩ = false) (hc : ∀ j u, (cellsOf es)[j]? = some u → w.cell? ⟨g, j, none⟩ = some u)
    (hne : ∀ e ∈ es, ∀ y ∈ e.F, y.b ≠ g) (hm : es.length ≤ maxLen) : ∃ F, SeqOwn r w B (some ⟨g, 0, none⟩) es.length (es.map El.x) F := by
  rcases Nat.eq_zero_or_pos es.length with h0 | h0
  · exact ⟨[], by simp, hm, .inl ⟨h0, rfl⟩⟩
  · obtain ⟨e0, -⟩ : ∃ e0, es[0]? = some e0 := ⟨es[0], by simp [h0]⟩
    refine ⟨_, by simp, hm, .inr ⟨g, 0, fun t => (es.getD t e0).h, fun t => (es.getD t e0).F, rfl, hg, hl, rfl, ?_, fun j _ _ => hf j, fun t x ht => ?_⟩⟩
    · rw [List.pairwise_cons]
      refine ⟨fun y hy => ?_, ?_⟩
      · obtain ⟨t, ht, hy⟩ := List.mem_flatMap.1 hy
        have htl : t < es.length := List.mem_range.1 ht
        have hgd : es.getD t e0 = es[t] := by simp [List.getD, htl]
        rw [hgd] at hy
        exact .inl fun e => hne es[t] (List.getElem_mem htl) y hy e.symm
      · rw [List.pairwise_flatMap]
        refine ⟨fun t ht => ?_, ?_⟩
        · have htl : t < es.length := List.mem_range.1 ht
          have hgd : es.getD t e0 = es[t] := by simp [List.getD, htl]
          rw [hgd]
          exact r.own_apart (h.1 es[t] (List.getElem_mem htl))
        · rw [List.pairwise_iff_getElem]
          intro i j hi hj hij x hx y hy
          simp only [List.getElem_range] at hx hy
          have hil : i < es.length := by simpa using hi
          have hjl : j < es.length := by simpa using hj
          have h1 : es.getD i e0 = es[i] := by simp [List.getD, hil]
          have h2 : es.getD j e0 = es[j] := by simp [List.getD, hjl]
          rw [h1] at hx
          rw [h2] at hy
          exact (List.pairwise_iff_getElem.1 h.2) i j hil hjl hij x hx y hy
    · have htl : t < es.length := by have := idx_lt ht; simpa using this
      have hgd : es.getD t e0 = es[t] := by simp [List.getD, htl]
      obtain rfl : es[t].x = x := by simpa [htl] using ht
      simp only []
      rw [hgd]
      refine ⟨fun j u hj => ?_, h.1 es[t] (List.getElem_mem htl)⟩
      rw [Nat.zero_add]
      exact hc _ _ (cellsOf_get es t es[t] (by simp [htl]) j u hj)
theorem InAll.done {α : Type} {r : Rep α} {w : World} {g o : Nat} {es : List (El r)} (h : InAll r w es) (hl : g < w.heap.size) (hc : ∀ j u, (cellsOf es)[j]? = some u → w.cell? ⟨g, o + j, none⟩ = some u) (hm : es.length ≤ maxLen) :
    SeqIn r w (some ⟨g, o, none⟩) es.length (es.map El.x) := by
  rcases Nat.eq_zero_or_pos es.length with h0 | h0
  · exact ⟨by simp, hm, .inl h0⟩
  · obtain ⟨e0, -⟩ : ∃ e0, es[0]? = some e0 := ⟨es[0], by simp [h0]⟩
    refine ⟨by simp, hm, .inr ⟨g, o, rfl, hl, fun t => (es.getD t e0).h, fun t x ht => ?_⟩⟩
    have htl : t < es.length := by have := idx_lt ht; simpa using this
    have hgd : es.getD t e0 = es[t] := by simp [List.getD, htl]
    obtain rfl : es[t].x = x := by simpa [htl] using ht
    simp only []
    rw [hgd]
    refine ⟨fun j u hj => ?_, h es[t] (List.getElem_mem htl)⟩
    rw [Nat.add_assoc]
    exact hc _ _ (cellsOf_get es t es[t] (by simp [htl]) j u hj)
theorem SeqIn.at {α : Type} {r : Rep α} {w : World} {a : Option Addr} {n : Nat} {xs : List (List α)} (h : SeqIn (seqRep r) w a n xs) {t : Nat} {x : List α} (ht : xs[t]? = some x) :
    ∃ (b o : Nat) (c : Option Addr) (k m : Nat), a = some ⟨b, o, none⟩ ∧ b < w.heap.size ∧ w.cell? ⟨b, o + t, none⟩ = some (.slice c k m) ∧ SeqIn r w c k x ∧ (c = none → m = 0) := by
  have htl := idx_lt ht
  obtain ⟨h1, -, h0 | ⟨b, o, rfl, hlt, hs, hx⟩⟩ := h
  · omega
  · obtain ⟨hc, hi⟩ := hx t x ht
    have := hc 0 _ rfl
    simp only [seqRep, Nat.mul_one, Nat.add_zero] at this
    exact ⟨b, o, _, _, _, rfl, hlt, this, hi.1, hi.2⟩
end Go.Proofs.Ytfghhjcfmmhacaa
namespace Go.Proofs.Ytfghhjcfmmhacaa
open Go.RowKit
theorem IsRows.tail {w : World} {g o n : Nat} {x : R} {Y : List R} (h : IsRows w (some ⟨g, o, none⟩) (n + 1) (x :: Y)) (hn : 0 < n) : IsRows w (some ⟨g, o + 3, none⟩) n Y := by
  obtain ⟨h1, h2, h0 | ⟨b, o', e, hlt, hc⟩⟩ := h
  · omega
  · injection e with e
    injection e with e1 e2 _
    subst e1 e2
    refine ⟨by simpa using h1, fun r hr => h2 r (List.mem_cons_of_mem _ hr), .inr ⟨g, o + 3, rfl, hlt, fun t ht => ?_⟩⟩
    have := hc (t + 1) (by omega)
    rw [show o + (t + 1) * 3 = o + 3 + t * 3 by omega] at this
    simpa using this
theorem IsRows.at {w : World} {a : Option Addr} {len : Nat} {L : List R} (h : IsRows w a len L) {t : Nat} (ht : t < len) : ∃ b o : Nat, a = some ⟨b, o, none⟩ ∧ b < w.heap.size ∧ RowAt w b (o + t * 3) (L.getD t R.zero) := by
  obtain ⟨-, -, h0 | ⟨b, o, e, hb, hc⟩⟩ := h
  · omega
  · exact ⟨b, o, e, hb, hc t ht⟩
end Go.Proofs.Ytfghhjcfmmhacaa
/- Shapes of records: their leaves one behind the other (numbers, truth values, slices); an element of a slice, and what a change of it leaves; no function of program or reference is walked here. -/
namespace Go.Proofs.Ytfghhjcfmmhacaa
open Go.RowKit
def I64 (x : Int) : Prop := -9223372036854775808 ≤ x ∧ x ≤ 9223372036854775807
def endRep : Rep Unit where
  H := Unit
  size := 0
  cells := fun _ _ => []
  inn := fun _ _ _ => True
  own := fun _ _ _ _ F => F = []
  len := fun _ _ => rfl
  inn_keep := fun h _ => h
  own_inn := fun _ => trivial
  own_lt := fun h y hy => by rw [h] at hy; cases hy
  own_stay := fun h _ => h
  own_apart := fun h => by rw [h]; exact List.Pairwise.nil
  own_mono := fun h _ => h
def intAnd {β : Type} (s : Rep β) : Rep (Int × β) where
  H := s.H
  size := s.size + 1
  cells := fun x h => .int .i64 x.1 :: s.cells x.2 h
  inn := fun w x h => I64 x.1 ∧ s.inn w x.2 h
  own := fun w B x h F => I64 x.1 ∧ s.own w B x.2 h F
  len := fun x h => by rw [List.length_cons, s.len]
  inn_keep := fun h hb => ⟨h.1, s.inn_keep h.2 hb⟩
  own_inn := fun h => ⟨h.1, s.own_inn h.2⟩
  own_lt := fun h => s.own_lt h.2
  own_stay := fun h hs => ⟨h.1, s.own_stay h.2 hs⟩
  own_apart := fun h => s.own_apart h.2
  own_mono := fun h hb => ⟨h.1, s.own_mono h.2 hb⟩
def boolAnd {β : Type} (s : Rep β) : Rep (Bool × β) where
  H := s.H
  size := s.size + 1
  cells := fun x h => .bool x.1 :: s.cells x.2 h
  inn := fun w x h => s.inn w x.2 h
  own := fun w B x h F => s.own w B x.2 h F
  len := fun x h => by rw [List.length_cons, s.len]
  inn_keep := fun h hb => s.inn_keep h hb
  own_inn := fun h => s.own_inn h
  own_lt := fun h => s.own_lt h
  own_stay := fun h hs => s.own_stay h hs
  own_apart := fun h => s.own_apart h
  own_mono := fun h hb => s.own_mono h hb
def seqAnd {α β : Type} (r : Rep α) (s : Rep β) : Rep (List α × β) where
  H := (Option Addr × Nat × Nat) × s.H
  size := s.size + 1
  cells := fun x h => .slice h.1.1 h.1.2.1 h.1.2.2 :: s.cells x.2 h.2
  inn := fun w x h => (seqRep r).inn w x.1 h.1 ∧ s.inn w x.2 h.2
  own := fun w B x h F => ∃ F1 F2, F = F1 ++ F2 ∧ (seqRep r).own w B x.1 h.1 F1 ∧ s.own w B x.2 h.2 F2 ∧ ∀ a ∈ F1, ∀ b ∈ F2, a.apart b
  len := fun x h => by rw [List.length_cons, s.len]
  inn_keep := fun h hb => ⟨(seqRep r).inn_keep h.1 hb, s.inn_keep h.2 hb⟩
  own_inn := fun ⟨_, _, _, h1, h2, _⟩ => ⟨(seqRep r).own_inn h1, s.own_inn h2⟩
  own_lt := fun ⟨_, _, e, h1, h2, _⟩ y hy => by
    rw [e] at hy
    exact (List.mem_append.1 hy).elim ((seqRep r).own_lt h1 y) (s.own_lt h2 y)
  own_stay := fun ⟨F1, F2, e, h1, h2, h3⟩ hs => by
    subst e
    exact ⟨F1, F2, rfl, (seqRep r).own_stay h1 (hs.sub fun y hy => List.mem_append_left _ hy), s.own_stay h2 (hs.sub fun y hy => List.mem_append_right _ hy), h3⟩
  own_apart := fun ⟨F1, F2, e, h1, h2, h3⟩ => by
    subst e
    exact List.pairwise_append.2 ⟨(seqRep r).own_apart h1, s.own_apart h2, h3⟩
  own_mono := fun ⟨F1, F2, e, h1, h2, h3⟩ hb => ⟨F1, F2, e, (seqRep r).own_mono h1 hb, s.own_mono h2 hb, h3⟩
def viaRep {α β : Type} (f : α → β) (r : Rep β) : Rep α where
  H := r.H
  size := r.size
  cells := fun x h => r.cells (f x) h
  inn := fun w x h => r.inn w (f x) h
  own := fun w B x h F => r.own w B (f x) h F
  len := fun x h => r.len (f x) h
  inn_keep := fun h hb => r.inn_keep h hb
  own_inn := fun h => r.own_inn h
  own_lt := fun h => r.own_lt h
  own_stay := fun h hs => r.own_stay h hs
  own_apart := fun h => r.own_apart h
  own_mono := fun h hb => r.own_mono h hb
theorem OnlyAt.within {F G : List Reg} {a b : World} (h : OnlyAt F a b) (hs : ∀ r ∈ F, ∃ s ∈ G, s.b = r.b ∧ s.lo ≤ r.lo ∧ r.hi ≤ s.hi) : OnlyAt G a b :=
  ⟨h.os, h.tape, h.output, h.size,
    fun i hi hne => h.block i hi fun r hr e => by obtain ⟨s, hs, e1, -, -⟩ := hs r hr; exact hne s hs (e1.trans e),
    fun i j hi hne => h.cell i j hi fun r hr e => by
      obtain ⟨s, hs, e1, h1, h2⟩ := hs r hr
      rcases hne s hs (e1.trans e) with h3 | h3
      · left; omega
      · right; omega,
    h.frozen⟩
theorem Reg.apart_within {x y z : Reg} (h : x.apart y) (hb : z.b = x.b) (h1 : x.lo ≤ z.lo) (h2 : z.hi ≤ x.hi) : z.apart y := by
  rcases h with h | h | h
  · exact .inl fun e => h (hb.symm.trans e)
  · exact .inr (.inl (by omega))
  · exact .inr (.inr (by omega))
theorem SeqOwn.el {α : Type} {r : Rep α} {w : World} {B : Nat} {a : Option Addr} {n : Nat} {xs : List α} {F : List Reg} (h : SeqOwn r w B a n xs F) {t : Nat} {x : α} (ht : xs[t]? = some x) :
    ∃ (b o : Nat) (hd : r.H) (G : List Reg), a = some ⟨b, o, none⟩ ∧ B ≤ b ∧ b < w.heap.size ∧ CellsAt w b (o + t * r.size) (r.cells x hd) ∧ (∀ j, j < r.size → w.frozen? ⟨b, o + t * r.size + j, none⟩ = false) ∧ r.own w B x hd G ∧
      (∀ y ∈ G, Reg.apart ⟨b, o + t * r.size, o + t * r.size + r.size⟩ y) ∧
      ∀ w' x', OnlyAt (⟨b, o + t * r.size, o + t * r.size + r.size⟩ :: G) w w' → CellsAt w' b (o + t * r.size) (r.cells x' hd) → r.own w' B x' hd G → SeqOwn r w' B a n (xs.set t x') F ∧ ∀ w0, OnlyAt F w0 w → OnlyAt F w0 w' := by
  have htl := idx_lt ht
  obtain ⟨h1, hm, ⟨h0, -⟩ | ⟨b, o, hs, Fs, rfl, hB, hlt, rfl, hp, hf, hx⟩⟩ := h
  · omega
  · have htn : t < n := by omega
    have hle := at_le (s := r.size) htn
    have hsub : ∀ y ∈ Fs t, y ∈ (⟨b, o, o + n * r.size⟩ : Reg) :: (List.range n).flatMap Fs := fun y hy => List.mem_cons_of_mem _ (List.mem_flatMap.2 ⟨t, List.mem_range.2 htn, hy⟩)
    have hhead : ∀ s, s < n → ∀ y ∈ Fs s, (⟨b, o, o + n * r.size⟩ : Reg).apart y := fun s hs y hy => (List.pairwise_cons.1 hp).1 y (List.mem_flatMap.2 ⟨s, List.mem_range.2 hs, hy⟩)
    refine ⟨b, o, hs t, Fs t, rfl, hB, hlt, (hx t x ht).1, fun j hj => hf _ (by omega) (by omega), (hx t x ht).2, fun y hy => Reg.apart_within (hhead t htn y hy) rfl (by simp only; omega) (by simp only; omega), fun w' x' ho hce hown => ⟨?_, fun w0 h0 => h0.trans (ho.within ?_)⟩⟩
    · refine ⟨by rw [List.length_set]; exact h1, hm, .inr ⟨b, o, hs, Fs, rfl, hB, Nat.lt_of_lt_of_le hlt ho.size, rfl, hp, fun j ha hb => (ho.frozen b j hlt).trans (hf j ha hb), fun s y hy => ?_⟩⟩
      have hsn : s < n := by have := idx_lt hy; rw [List.length_set] at this; omega
      have hles := at_le (s := r.size) hsn
      by_cases hst' : s = t
      · subst hst'
        rw [List.getElem?_set_self htl] at hy
        obtain rfl := Option.some.inj hy
        exact ⟨hce, hown⟩
      · rw [List.getElem?_set_ne (fun e => hst' e.symm)] at hy
        have hord : s * r.size + r.size ≤ t * r.size ∨ t * r.size + r.size ≤ s * r.size := by
          rcases Nat.lt_or_gt_of_ne hst' with h2 | h2
          · exact .inl (at_le h2)
          · exact .inr (at_le h2)
        refine ⟨fun j u hj => ?_, r.own_stay (hx s y hy).2 (Stay.of_only ho (fun p hp' q hq => ?_) fun q hq => (r.own_lt (hx s y hy).2 q hq).2)⟩
        · have hjl : j < r.size := by rw [← r.len y (hs s)]; exact idx_lt hj
          refine (ho.cell b (o + s * r.size + j) hlt fun z hz e => ?_).trans ((hx s y hy).1 j u hj)
          rcases List.mem_cons.1 hz with rfl | hz
          · simp only
            omega
          · have hap := hhead t htn z hz
            rcases hap with hn | hn | hn
            · exact absurd e.symm hn
            · simp only at hn; left; omega
            · simp only at hn; right; omega
        · rcases List.mem_cons.1 hp' with rfl | hp'
          · exact Reg.apart_within (hhead s hsn q hq) rfl (by simp only; omega) (by simp only; omega)
          · have hpw := (List.pairwise_cons.1 hp).2
            rw [List.pairwise_flatMap] at hpw
            have hr := hpw.2
            rcases Nat.lt_or_gt_of_ne hst' with h2 | h2
            · exact Reg.apart_symm ((List.pairwise_iff_getElem.1 hr) s t (by simpa using hsn) (by simpa using htn) h2 q (by simpa using hq) p (by simpa using hp'))
            · exact (List.pairwise_iff_getElem.1 hr) t s (by simpa using htn) (by simpa using hsn) h2 p (by simpa using hp') q (by simpa using hq)
    · intro z hz
      rcases List.mem_cons.1 hz with rfl | hz
      · exact ⟨_, List.mem_cons_self .., rfl, by simp only; omega, by simp only; omega⟩
      · exact ⟨z, hsub z hz, rfl, Nat.le_refl _, Nat.le_refl _⟩
theorem SeqIn.el {α : Type} {r : Rep α} {w : World} {a : Option Addr} {n : Nat} {xs : List α} (h : SeqIn r w a n xs) {t : Nat} {x : α} (ht : xs[t]? = some x) :
    ∃ (b o : Nat) (hd : r.H), a = some ⟨b, o, none⟩ ∧ b < w.heap.size ∧ CellsAt w b (o + t * r.size) (r.cells x hd) ∧ r.inn w x hd := by
  have htl := idx_lt ht
  obtain ⟨h1, -, h0 | ⟨b, o, rfl, hlt, hs, hx⟩⟩ := h
  · omega
  · exact ⟨b, o, hs t, rfl, hlt, (hx t x ht).1, (hx t x ht).2⟩
/-! ### The laws' counters and sizes -/
structure Mk (α : Type) where
  mark : Int → α → α
  cnt : α → Nat
  cnt_mark : ∀ q x, cnt (mark q x) = cnt x
def mkAll {α : Type} (m : Mk α) : Int → List α → List α
  | _, [] => []
  | q, x :: xs => m.mark q x :: mkAll m (q + m.cnt x) xs
def cntAll {α : Type} (m : Mk α) (xs : List α) : Nat := (xs.map m.cnt).sum
theorem cntAll_cons {α : Type} (m : Mk α) (x : α) (xs : List α) : cntAll m (x :: xs) = m.cnt x + cntAll m xs := rfl
theorem cnt_mkAll {α : Type} (m : Mk α) : ∀ (q : Int) (xs : List α), cntAll m (mkAll m q xs) = cntAll m xs
  | _, [] => rfl
  | q, x :: xs => by rw [mkAll, cntAll_cons, cntAll_cons, m.cnt_mark, cnt_mkAll m _ xs]
def seqMk {α : Type} (m : Mk α) : Mk (List α) := ⟨mkAll m, cntAll m, cnt_mkAll m⟩
def rowsMk : Mk (List R) := ⟨fun q L => marked L.length q, fun L => 3 * L.length, fun q L => by rw [marked_length]⟩
def wtAll {α : Type} (f : α → Nat) (xs : List α) : Nat := xs.length + (xs.map f).sum
end Go.Proofs.Ytfghhjcfmmhacaa
/- States told by trees: the laws' marks, element by element; no function of program or reference is walked here. -/
namespace Go.Proofs.Ytfghhjcfmmhacaa
open Go Go.RowKit V
set_option linter.unusedVariables false
def mkL {α β : Type} (m : Mk α) (f : α → β) (q : Int) (X : List α) (t : Nat) : List β := (mkAll m q (X.take t) ++ X.drop t).map f
variable {α β : Type} {m : Mk α} {f : α → β} {q : Int} {X : List α} {t : Nat}
def rowMk : Mk R := ⟨fun q _ => ⟨q, q + 1, q + 1 + 1⟩, fun _ => 3, fun _ _ => rfl⟩
def toL {α β : Type} (f : α → β) (z : β) (X : List α) (t : Nat) : List β := (X.take t).map f ++ List.replicate (X.length - t) z
section
variable {α β : Type} {f : α → β} {z : β} {X : List α} {t : Nat}
end
end Go.Proofs.Ytfghhjcfmmhacaa
/- States told by trees: loops whose states are told by what changes (the rest stands as at the loop's beginning); calls by contracts of plain values. -/
namespace Go.Proofs.Ytfghhjcfmmhacaa.V
open Go Go.RowKit
set_option linter.unusedVariables false
variable {P : Program} {E : Env} {N nb : Nat} {σ σ' τ : VS} {o : Oper} {a : Act} {w : World} {G : Ghost} {Q : Exit → Act → World → Prop} {K : Act → World → Prop}
def VS.tree (σ : VS) (i : Nat) : T := match σ.ob i with
  | some p => p.2
  | none => .any
def VS.lf (σ : VS) (d j : Nat) : Leaf := match (σ.tm d).cs with
  | p :: _ => p.2.getD j .dead
  | [] => .dead
def VS.bl (σ : VS) (b j : Nat) : Leaf := match σ.bs[b]? with
  | some p => p.2.getD j .dead
  | none => .dead
theorem SV.loopF {c : Go.Code} {X : Type} (I : VS → X → VS) (Inv : X → Prop) (μ : X → Nat) (h0 : SV E N σ fun a w => ∃ x, Inv x ∧ ∃ G, Rel E N (I σ x) a w G)
    (round : ∀ x, Inv x → SV E N (I σ x) (c.wp P (Exit.then (fun a w => ∃ x', (Inv x' ∧ μ x' < μ x) ∧ ∃ G, Rel E N (I σ x') a w G) Q))) : SV E N σ ((Code.loop c).wp P Q) := SV.loop (I σ) Inv μ h0 round
theorem V.le.keep {ρ : Nat → Nat} {ag : Bool} {xs ys : List Leaf} {v v' : V} (h : v = V.flat ag xs) (h' : v' = V.flat ag ys) (l : leafs σ τ ρ xs ys) : V.le σ τ ρ v v' := .inr ⟨ag, xs, ys, h, h', l⟩
theorem SV.joinF {id : Nat} {l : List Oper} (I : VS → VS) (h : SV E N (I σ) (Q .normal)) (k : SV E N (I σ) (Q .normal) → SV E N σ ((Code.region id l.toArray true).wp P Q)) : SV E N σ ((Code.region id l.toArray true).wp P Q) := k h
theorem SV.sub {ρ : Nat → Nat} (hp : E.nl ≤ τ.nx ∧ (∀ i, i < E.nl → ρ i = i) ∧ ∀ c, E.pin = some c → 0 < τ.bs.length) (l : VS.le σ τ ρ) (k : SV E N τ K) : SV E N σ K := fun a w G h => by
  obtain ⟨G', h'⟩ := h.weaken hp l
  exact k a w G' h'
theorem SV.nlsc {s kk n : Nat} {ty : TypeId} (hk : σ.nx = kk) (hs : σ.tm s = V.one (.sc (.slice none 0 0))) (hp : 0 < n) (hz : Sz ty n) (hN : s < N) (k : SV E N ((σ.new (.seq ty [])).put s (V.one (.hd kk))) K) : SV E N σ K := fun a w G h => by
  subst hk
  have h1 := h.tmps s
  rw [hs, vone] at h1
  have h2 : a.tmps.getD s undef = .slice none 0 0 := h1.1
  obtain ⟨G', k1, k2, -, -⟩ := h.newnil hp hz
  have k3 := k1.put (d := s) (v := V.one (.hd σ.nx)) (u := a.tmps.getD s undef) hN (vone.2 ⟨⟨Nat.lt_succ_self _, by rw [h2, k2]⟩, .inr (by rw [h2]; rfl)⟩)
  have e : a.put (some s) (a.tmps.getD s undef) = a := by
    have hs' : s < a.tmps.size := by rw [h.nsz]; exact hN
    cases a with
    | mk tmps defers =>
      have : tmps.setIfInBounds s (tmps.getD s undef) = tmps := by
        apply Array.ext_getElem?
        intro i
        rw [Array.getElem?_setIfInBounds]
        split
        · rename_i hi; subst hi
          simp at hs'
          simp [hs']
        · rfl
      show Act.mk _ _ = _
      rw [this]
  rw [e] at k3
  exact k a w G' k3
def isLit : T → Bool
  | .lit _ => true
  | _ => false
theorem flat_of {α : Type} {f : α → List T} (h : ∀ x, (f x).all isLit = true) (X : List α) : Flat (X.map f) := fun k e j t h1 h2 => by
  rw [List.getElem?_map] at h1
  obtain ⟨x, -, rfl⟩ := Option.map_eq_some_iff.1 h1
  have := List.all_eq_true.1 (h x) t (get_mem h2)
  cases t with
  | lit u => exact ⟨u, rfl⟩
  | any => cases this
  | seq ty es => cases this
/-! ### A literal of scalars -/
def VS.scs (σ : VS) : List Operand → List Value → Prop
  | [], [] => True
  | x :: xs, u :: us => σ.ev x = V.one (.sc u) ∧ σ.scs xs us
  | _, _ => False
theorem Rel.scs (h : Rel E N σ a w G) : ∀ {xs : List Operand} {us : List Value}, σ.scs xs us → xs.map a.eval = us ∧ ∀ u ∈ us, u.oneCell' = true
  | [], [], _ => ⟨rfl, fun u hu => by cases hu⟩
  | x :: xs, u :: us, hx => by
    obtain ⟨h1, h2⟩ := h.scs hx.2
    have h3 := h.ev x
    rw [hx.1, vone] at h3
    have h4 : a.eval x = u := h3.1
    refine ⟨by rw [List.map_cons, h1, h4], fun v hv => ?_⟩
    rcases List.mem_cons.1 hv with rfl | hv
    · rcases h3.2 with h5 | h5
      · cases h5
      · rwa [h4] at h5
    · exact h2 v hv
theorem parts_eval {xs : List Operand} : ∀ (i : Nat), ((xs.zipIdx i).map fun x => (x.2, x.1)).map (fun (i, x) => (i, a.eval x)) = ((xs.map a.eval).zipIdx i).map fun x => (x.2, x.1) := by
  induction xs with
  | nil => intro i; rfl
  | cons x xs ih => intro i; simp only [List.zipIdx_cons, List.map_cons, ih]
theorem ok_litS {d m : Nat} {t ty : TypeId} {bytes : Nat} {z : Value} {xs : List Operand} {us : List Value} {ps : Array (Nat × Operand)} (I : ElT t ty 1 z bytes) {kk : Nat} (hk : σ.nx = kk) (ho : o.op = .buildSlice t m ps) (hps : ps = ((xs.zipIdx 0).map fun x => (x.2, x.1)).toArray) (hm : us.length = m) (hm0 : 0 < m) (hm1 : m ≤ 1000) (hx : σ.scs xs us) (hd : o.dst = some d) (hdN : d < N) : OpMk Try.prog E N none σ o ((σ.new (.seq ty (us.map fun u => [T.lit u]))).put d (V.one (.hd kk))) :=
  fun a w G K Q h k => by
    subst hk
    obtain ⟨i0, hi, hz0, hz1, hz2⟩ := info_parts I.inf
    obtain ⟨hev, hone⟩ := h.scs hx
    have hc1 : ∀ u ∈ us, u.cells = #[u] := fun u hu => cval_cells (ag := false) (us := [u]) fun _ => ⟨rfl, fun v hv => by rw [List.mem_singleton.1 hv]; exact hone u hu⟩
    have hmap : ps.map (fun (i, x) => (i, a.eval x)) = ((us.zipIdx 0).map fun x => (x.2, x.1)).toArray := by
      rw [hps, List.map_toArray, parts_eval, hev]
    have hrun : (Instr.buildSlice t m (((us.zipIdx 0).map fun x => (x.2, x.1)).toArray)).run Try.prog w = .ok (.slice (some ⟨w.heap.size, 0, none⟩) m m) (w.alloc (.cells us.toArray ty)) := by
      refine run_buildSlice w t ty m _ us.toArray i0 z I.und hi hz0 ?_ ?_ ?_
      · rw [hz1]; omega
      · rw [hz1]; omega
      · obtain ⟨r, hr1, hr2, hr3⟩ := Great.fill_dense (s := i0.size) (by omega) us 0 ((Array.range (m * i0.size)).map (z.cells[· % z.cells.size]!)) (fun v hv => by rw [hc1 v hv, hz1]; rfl) (by simp [hm])
        have e : r = us.toArray := by
          apply Array.ext_getElem?
          intro q
          rw [hr3 q]
          rcases Nat.lt_or_ge q us.length with hq | hq
          · rw [if_pos ⟨by omega, by rw [hz1]; omega⟩]
            rw [hz1]
            simp only [Nat.div_one, Nat.sub_zero, Nat.mod_one]
            rw [List.getElem?_eq_getElem hq]
            simp only [Option.bind_some, hc1 us[q] (List.getElem_mem hq)]
            simp [hq]
          · rw [if_neg (by rw [hz1]; omega)]
            have h8 : us.toArray[q]? = none := by simp; omega
            rw [h8, Array.getElem?_eq_none (by simp [hz1]; omega)]
        rw [← e]
        simpa using hr1
    obtain ⟨G', hG', ⟨hvl, hvls, hβs⟩, -, -⟩ := h.renew [] (fun x hx => by cases hx) (w' := w.alloc (.cells us.toArray ty)) (t := .seq ty (us.map fun u => [T.lit u])) (v := .slice (some ⟨w.heap.size, 0, none⟩) m m) (F := fun b => b = w.heap.size) (fun _ => False) (.of_below ((Below.refl _ _).alloc h.low _)) (fun k hk _ => Below.heap_alloc _ _ _ hk) (fun b hb => hb.elim)
      (.seq 1 (by omega) I.sz (fun e he => by obtain ⟨u, -, rfl⟩ := List.mem_map.1 he; rfl) us ⟨by simp, .inr ⟨w.heap.size, m, us.toArray, by rw [List.length_map, hm], Nat.zero_le _, heap_alloc_new _ _, by rw [List.length_map, hm]; exact Nat.le_refl _, by unfold maxLen; omega, by simp [hm], by rw [List.length_map, Nat.mul_one]; exact List.take_of_length_le (by simp)⟩⟩ (fun _ _ => False) (fun k e j t' u hk' hj hu => by
          rw [List.getElem?_map] at hk'
          obtain ⟨u', hu', rfl⟩ := Option.map_eq_some_iff.1 hk'
          have hj0 : j = 0 := by have := get_lt hj; simpa using this
          subst hj0
          cases hj
          rw [Nat.mul_one, Nat.add_zero, hu'] at hu
          rw [← Option.some.inj hu]
          exact .lit (hone u' (get_mem hu'))) hone (fun b hb => (Option.some.inj hb).symm) (fun q b hb => hb.elim) (fun q b hb => hb.elim) fun q q' b hb => hb.elim)
      ⟨_, _, rfl⟩ fun b hb => ⟨by subst hb; exact ⟨.inl h.low, by simp⟩, .inl (h.fresh (by rw [hb]; exact Nat.le_refl _))⟩
    refine wp_value (v := .slice (some ⟨w.heap.size, 0, none⟩) m m) (w' := w.alloc (.cells us.toArray ty)) ?_ (by rw [hd]; exact k _ _ _ (hG'.put hdN (vone.2 ⟨⟨Nat.lt_succ_self _, hvl.symm⟩, .inr rfl⟩)) ⟨by simp, .of_below ((Below.refl _ _).alloc h.low _), hvls, fun b _ => by rw [hβs], fun b hb => .inl (Below.heap_alloc _ _ _ hb), fun i e1 e2 b e3 => .inl (by
      have hi : i = σ.nx := Nat.le_antisymm (Nat.le_of_lt_succ e2) e1
      rw [hi, hvl] at e3
      rw [← Option.some.inj e3]; exact Nat.le_refl _)⟩)
    simp only [execOp, ho, hmap]
    simp [hrun, Result.andThen]
/-! ### Contracts of plain values -/
theorem inn_lit {ok : Nat → Prop} {u v : Value} (h : Inn ok w (.lit u) v) : v = u := by
  cases h
  rfl
theorem args_plain {w : World} {ins : List (Bool × List Value)} {vs : List Value} (hv : ArgsIn (Env.of w) w (ins.map fun p => (p.1, p.2.map T.lit)) vs) : vs = ins.map fun p => cval p.1 p.2 := by
  obtain ⟨hl, ha⟩ := hv
  rw [List.length_map] at hl
  apply List.ext_getElem?
  intro c
  rcases Nat.lt_or_ge c ins.length with hc | hc
  · have hcv : vs[c]? = some vs[c] := List.getElem?_eq_getElem (by omega)
    obtain ⟨us, h2, h3, h4⟩ := ha c ins[c].1 (ins[c].2.map T.lit) vs[c] (by rw [List.getElem?_map, List.getElem?_eq_getElem hc]; rfl) hcv
    have h5 : us = ins[c].2 := by
      rw [List.length_map] at h3
      apply List.ext_getElem?
      intro j
      rcases Nat.lt_or_ge j us.length with hj | hj
      · have := h4 j (T.lit ins[c].2[j]) us[j] (by rw [List.getElem?_map, List.getElem?_eq_getElem (by omega)]; rfl) (List.getElem?_eq_getElem hj)
        rw [List.getElem?_eq_getElem hj, List.getElem?_eq_getElem (by omega), inn_lit this]
      · rw [List.getElem?_eq_none hj, List.getElem?_eq_none (by omega)]
    rw [hcv, List.getElem?_map, List.getElem?_eq_getElem hc, h2, h5]; rfl
  · rw [List.getElem?_eq_none (by omega), List.getElem?_eq_none (by simpa using hc)]
theorem gives_plain {w w' : World} {e : Ending} {ag : Bool} {rs : List Value} (h1 : ∀ u ∈ rs, u.oneCell' = true) (he : e = .returned (cval ag rs)) (hb : Below w.heap.size w w') : Gives (Env.of w) false [(ag, rs.map T.lit)] e w' := by
  refine ⟨[rs], fun _ _ _ => False, rfl, by rw [he]; rfl, fun c ag' ts us hc hu => ?_, fun c j c' j' b hb => hb.elim, fun c j b hb => hb.elim, .of_below hb⟩
  cases c with
  | zero =>
    cases hc; cases hu
    refine ⟨by simp, fun j t u hj hu => ?_⟩
    rw [List.getElem?_map, hu] at hj
    cases hj
    exact .lit (h1 u (get_mem hu))
  | succ c => simp at hc
theorem VC.plainAt {f : FuncId} {ins : List (Bool × List Value)} {ag : Bool} {rs : List Value} (h1 : ∀ u ∈ rs, u.oneCell' = true) {w : World} (h : Calls P f (ins.map fun p => cval p.1 p.2).toArray w fun e w' => e = .returned (cval ag rs) ∧ Below w.heap.size w w') (vs : List Value) (hv : ArgsIn (Env.of w) w (ins.map fun p => (p.1, p.2.map T.lit)) vs) : Calls P f vs.toArray w (Gives (Env.of w) false [(ag, rs.map T.lit)]) := by
  rw [args_plain hv]
  exact h.mono fun e w' ⟨he, hb⟩ => gives_plain h1 he hb
theorem VC.plain {f : FuncId} {ins : List (Bool × List Value)} {ag : Bool} {rs : List Value} (h1 : ∀ u ∈ rs, u.oneCell' = true) (h : ∀ w, Calls P f (ins.map fun p => cval p.1 p.2).toArray w fun e w' => e = .returned (cval ag rs) ∧ Below w.heap.size w w') : VC P f (ins.map fun p => (p.1, p.2.map T.lit)) false [(ag, rs.map T.lit)] := fun w => VC.plainAt h1 (h w)
/-! ### Contracts in worlds of a class -/
def VCP (Φ : World → Prop) (P : Program) (f : FuncId) (ins : List (Bool × List T)) (tup : Bool) (rs : List (Bool × List T)) : Prop := ∀ (w : World), Φ w → ∀ (vs : List Value), ArgsIn (Env.of w) w ins vs → Calls P f vs.toArray w (Gives (Env.of w) tup rs)
def Env.keeps (E : Env) (Φ : World → Prop) : Prop := Φ E.w0 ∧ (∀ b, ¬ E.ln b) ∧ ∀ w', Below E.B E.w0 w' → Φ w'
theorem Env.keeps.at {Φ : World → Prop} (h : E.keeps Φ) (hs : Same E E.w0 w) : Φ w := h.2.2 w ⟨hs.os, hs.tape, hs.output, hs.size, fun b hb => hs.block b ⟨hb, h.2.1 b⟩⟩
theorem VCP.enter {Φ : World → Prop} (hΦ : ∀ w w', Φ w → Below w.heap.size w w' → Φ w') {f : FuncId} {fn : Func} {c : Go.Code} {n : Nat} {ins rs : List (Bool × List T)} {tup : Bool} (hf : P.funcs[f]? = some fn) (hb : fn.body = some c) (hn : fn.ntmps = n) (hl : ins.length ≤ n)
    (h : ∀ E, E.plain 0 → E.keeps Φ → SV E n (VS.init (ins.map fun p => V.flat p.1 (p.2.map argLeaf))) (c.wp P (bodyPost P fn (Gives E tup rs)))) : VCP Φ P f ins tup rs := fun w hT vs hv => by
  refine calls_of_wp hf hb ?_
  obtain ⟨G, hG⟩ := init_rel (E := Env.of w) ⟨rfl, rfl⟩ (n := n) hv (by rw [hv.1]; exact hl)
  have := h (Env.of w) ⟨rfl, rfl⟩ ⟨hT, fun b hb => hb.elim, fun w' hb => hΦ w w' hT hb⟩ _ _ G hG
  rw [hn]
  have e : (Env.of w).w0 = w := rfl
  rw [e] at this
  simpa using this
theorem ok_callP {Φ : World → Prop} {d : Nat} {f : FuncId} {xs : List Operand} {ats : Array TypeId} {qs : List (Bool × List T)} {tup : Bool} {rs : List (Bool × List T)} {ls : List (Bool × List Leaf)} (hD : E.keeps Φ) (hk : ansLs σ.nx rs = ls) (ho : o.op = .call { callee := .value (.func f), args := xs.toArray, argTypes := ats }) (hb : ∃ fn c, P.funcs[f]? = some fn ∧ fn.body = some c ∧ fn.name ≠ "runtime.NumGoroutine")
    (hc : VCP Φ P f qs tup rs) (hx : σ.argss xs qs) (hd : o.dst = some d) (hdN : d < N) : OpMk P E N none σ o ((ansSs σ rs).put d ⟨tup, ls⟩) := ok_callW hk ho hb (fun w hs => hc w (hD.at hs)) hx hd hdN
theorem VCP.law {Φ : World → Prop} {f : FuncId} {ins : List (Bool × List T)} (h : VCP Φ P f ins false [(false, [.lit (.bool true)])]) {w : World} (hT : Φ w) {vs : List Value} (hv : ArgsIn (Env.of w) w ins vs) : Calls P f vs.toArray w fun e w' => e = .returned (.bool true) ∧ Below w.heap.size w w' :=
  (h w hT vs hv).mono fun e w' hg => by
    obtain ⟨he, hs⟩ := Gives.lit hg
    exact ⟨he, ⟨hs.os, hs.tape, hs.output, hs.size, fun b hb => hs.block b ⟨hb, fun h => h.elim⟩⟩⟩
end Go.Proofs.Ytfghhjcfmmhacaa.V
/- What a call gives: a slice in memory of its own; stretches that are apart; no function of program or reference is walked here. -/
namespace Go.Proofs.Ytfghhjcfmmhacaa
open Go.RowKit
theorem Stay.set {F : List Reg} {w w' : World} (h : Stay F w w') {g i : Nat} (u : Value) (hne : ∀ y ∈ F, y.b ≠ g) : Stay F w (w'.setCell ⟨g, i, none⟩ u) :=
  ⟨by simpa [World.setCell] using h.size, fun y hy j h1 h2 => ⟨(World.cell?_setCell_other _ _ _ _ (fun e => by injection e with e _ _; exact hne y hy e.symm)).trans (h.cell y hy j h1 h2).1, (World.frozen?_setCell w' _ _ _).trans (h.cell y hy j h1 h2).2⟩⟩
theorem Stay.refl (F : List Reg) (w : World) : Stay F w w := ⟨Nat.le_refl _, fun _ _ _ _ _ => ⟨rfl, rfl⟩⟩
def Gives {α : Type} (r : Rep α) (xs : List α) (w : World) (e : Ending) (w' : World) : Prop :=
  ∃ (x : Option Addr) (k m : Nat) (F : List Reg), e = .returned (.slice x k m) ∧ SeqOwn r w' w.heap.size x k xs F ∧ Below w.heap.size w w'
theorem Below.marked {α : Type} {r : Rep α} {w0 w w' : World} {B n : Nat} {a : Option Addr} {xs : List α} {F : List Reg} (h : SeqOwn r w B a n xs F) (ho : OnlyAt F w w') (hb : Below w0.heap.size w0 w) (hB : w0.heap.size ≤ B) : Below w0.heap.size w0 w' :=
  hb.trans (ho.below hb.size fun y hy => Nat.le_trans hB (h.lt y hy).1)
/-! ### What is the call's own, whatever its shape -/
theorem Rep.own.lt {α : Type} {r : Rep α} {w : World} {B : Nat} {x : α} {h : r.H} {F : List Reg} (ho : r.own w B x h F) : ∀ y ∈ F, B ≤ y.b ∧ y.b < w.heap.size := r.own_lt ho
theorem Rep.own.inn {α : Type} {r : Rep α} {w : World} {B : Nat} {x : α} {h : r.H} {F : List Reg} (ho : r.own w B x h F) : r.inn w x h := r.own_inn ho
theorem Rep.own.keep {α : Type} {r : Rep α} {w w' : World} {B : Nat} {x : α} {h : r.H} {F : List Reg} (ho : r.own w B x h F) (hb : Below w.heap.size w w') : r.own w' B x h F := r.own_stay ho (Stay.of_below hb fun y hy => (r.own_lt ho y hy).2)
theorem Rep.inn.keep {α : Type} {r : Rep α} {w w' : World} {x : α} {h : r.H} (hi : r.inn w x h) (hb : Below w.heap.size w w') : r.inn w' x h := r.inn_keep hi hb
theorem box_cell {w : World} {g : Nat} {cs : Array Value} {t : TypeId} {fr : Nat × Nat} (h : w.heap[g]? = some (.cells cs t fr)) (j : Nat) (u : Value) (hu : cs[j]? = some u) : w.cell? ⟨g, j, none⟩ = some u := by simp [World.cell?, h, hu]
end Go.Proofs.Ytfghhjcfmmhacaa
/- What changes one block alone; no function of program or reference is walked here. -/
namespace Go.Proofs.Ytfghhjcfmmhacaa
open Go.RowKit
def Only (c : Nat) (w w' : World) : Prop := w.grownBy w' (some c)
theorem Only.refl (c : Nat) (w : World) : Only c w w := World.grownBy.refl w _
theorem Only.trans {c : Nat} {a b d : World} (h : Only c a b) (k : Only c b d) : Only c a d :=
  ⟨k.os.trans h.os, k.tape.trans h.tape, k.output.trans h.output, Nat.le_trans h.size k.size, fun i hi hne => (k.block i (Nat.lt_of_lt_of_le hi h.size) hne).trans (h.block i hi hne)⟩
theorem Only.drew {c : Nat} {a w : World} (h : Only c a w) : Only c a w.drew := ⟨h.os, h.tape, h.output, h.size, h.block⟩
theorem Only.drewN {c : Nat} {a w : World} (h : Only c a w) (n : Nat) : Only c a (w.drewN n) := ⟨h.os, h.tape, h.output, h.size, h.block⟩
theorem Only.alloc {c : Nat} {a w : World} (h : Only c a w) (o : Obj) : Only c a (w.alloc o) :=
  ⟨h.os, h.tape, h.output, Nat.le_trans h.size (by simp), fun i hi hne => (Below.heap_alloc w o i (Nat.lt_of_lt_of_le hi h.size)).trans (h.block i hi hne)⟩
theorem Only.setCell {c : Nat} {a w : World} (h : Only c a w) (i : Nat) (u : Value) : Only c a (w.setCell ⟨c, i, none⟩ u) :=
  ⟨h.os, h.tape, h.output, by simpa [World.setCell] using h.size, fun k hk hne => (Below.heap_setCell w ⟨c, i, none⟩ u k (fun e => hne (by rw [e]))).trans (h.block k hk hne)⟩
theorem Only.of_below {c : Nat} {a w : World} (h : Below a.heap.size a w) : Only c a w := ⟨h.os, h.tape, h.output, h.size, fun i hi _ => h.block i hi⟩
theorem Only.step {c : Nat} {a b d : World} (h : Only c a b) (k : Below a.heap.size b d) : Only c a d :=
  ⟨k.os.trans h.os, k.tape.trans h.tape, k.output.trans h.output, Nat.le_trans h.size k.size, fun i hi hne => (k.block i hi).trans (h.block i hi hne)⟩
theorem Only.below {c B : Nat} {a b : World} (h : Only c a b) (hB : B ≤ a.heap.size) (hc : B ≤ c) : Below B a b :=
  ⟨h.os, h.tape, h.output, h.size, fun i hi => h.block i (Nat.lt_of_lt_of_le hi hB) (fun e => by injection e with e; omega)⟩
end Go.Proofs.Ytfghhjcfmmhacaa
/- The laws' copy of a row (toRow) and comparison (eqRow), by contract. -/
namespace Go.Proofs.Ytfghhjcfmmhacaa
open Go.RowKit
end Go.Proofs.Ytfghhjcfmmhacaa
/- The laws' copy of a slice of rows (toRowS), by contract. -/
namespace Go.Proofs.Ytfghhjcfmmhacaa
open Go.RowKit
end Go.Proofs.Ytfghhjcfmmhacaa
/- The laws' marks on rows of the call's own, and what they leave alone; the sizes that the laws reckon; no function of program or reference is walked here. -/
namespace Go.Proofs.Ytfghhjcfmmhacaa
open Go.RowKit
theorem apart_symm {v v' : Value} (h : ∀ k, v.ownBlock = some k → v'.ownBlock ≠ some k) : ∀ k, v'.ownBlock = some k → v.ownBlock ≠ some k := fun k hk hk' => h k hk' hk
end Go.Proofs.Ytfghhjcfmmhacaa
/- Rows among the arguments of a law: a struct by value, and a slice of them: from the reading to the mathematics and back. -/
namespace Go.Proofs.Ytfghhjcfmmhacaa
open Go Go.ChangeShapes Go.WideShapes Go.RowKit Go.Deep Go.Joins
def R.dat {H : Type} (r : R) : DataW H := .agg [.lit (.int .i64 r.key), .lit (.int .i64 r.value), .lit (.int .i64 r.width)]
section
variable {H : Type} {enc : TypeId × Value → H} {w : World} {base : Nat} {spare : Nat → Bool} {held : Bool}
end
end Go.Proofs.Ytfghhjcfmmhacaa
/- Arguments of whatever shape: from the reading to the mathematics, by the type; no function of program or reference is walked here. -/
namespace Go.Proofs.Ytfghhjcfmmhacaa
open Go Go.ChangeShapes Go.WideShapes Go.RowKit Go.Deep Go.Joins
def Opens (T : TypeId) {α : Type} (r : Rep α) : Prop :=
  ∀ (H : Type) (enc : TypeId × Value → H) (w : World) (spare : Nat → Bool) (held : Bool) (fuel : Nat) (cs : List Value) (x : DataW H × List MemPlace), DataW.trod enc Try.prog w 0 spare held fuel T cs = some x → cs.length = r.size → ∃ (y : α) (h : r.H), cs = r.cells y h ∧ r.inn w y h
set_option maxRecDepth 100000 in
theorem Opens.seq {T e : TypeId} {α : Type} {r : Rep α} (ht : Try.prog.underlying T = some (.slice e)) (hc : Try.prog.cellsOf e = r.size) (hp : 0 < r.size) (hO : Opens e r) : Opens T (seqRep r) := by
  intro H enc w spare held fuel cs x h _
  rcases open_slice ht h with ⟨rfl, -⟩ | ⟨a, len, cap, m, n, D, Pl, rfl, -, hl, hm, hmm, -, hi⟩
  · exact ⟨[], (none, 0, 0), rfl, ⟨rfl, Nat.zero_le _, .inl rfl⟩, fun _ => rfl⟩
  · have hlm : len ≤ m := by rw [hmm]; split <;> omega
    rw [hc] at hi
    rcases Nat.eq_zero_or_pos len with h0 | h0
    · subst h0
      exact ⟨[], (some a, 0, cap), rfl, ⟨rfl, Nat.zero_le _, .inl rfl⟩, fun e => by cases e⟩
    · have hone : ∀ i, i < len → ∃ (yh : α × r.H), (∀ j u, (r.cells yh.1 yh.2)[j]? = some u → w.cell? (a.add (i * r.size + j)) = some u) ∧ r.inn w yh.1 yh.2 := by
        intro i hil
        obtain ⟨cs', hcs, htr⟩ := hi i (by omega)
        obtain ⟨_, hcl, hat⟩ := World.cells?_some hcs
        obtain ⟨y, hd, rfl, hin⟩ := hO H enc w spare held n cs' _ htr hcl
        refine ⟨(y, hd), fun j u hj => ?_, hin⟩
        have hjl : j < r.size := by rw [← hcl]; exact idx_lt hj
        have := hat j hjl
        rw [add_add] at this
        rw [this]
        exact hj
      obtain ⟨yh0, -⟩ := hone 0 h0
      obtain ⟨f, hf⟩ := @choose_lt (α × r.H) ⟨yh0⟩ len _ hone
      obtain ⟨b, o, spot⟩ := a
      have hl0 : 0 < (r.cells (f 0).1 (f 0).2).length := by rw [r.len]; exact hp
      have hcell0 := (hf 0 h0).1 0 ((r.cells (f 0).1 (f 0).2)[0]) (by simp [hl0])
      have hspot : spot = none := by simpa [Addr.add] using World.cell?_spot hcell0
      subst hspot
      have hb : b < w.heap.size := by
        have := World.block_lt_of_cell? w _ hcell0
        simpa [Addr.add] using this
      refine ⟨(List.range len).map fun t => (f t).1, (some ⟨b, o, none⟩, len, cap), rfl, ⟨by simp, by show len ≤ maxLen; omega, .inr ⟨b, o, rfl, hb, fun t => (f t).2, fun t x hx => ?_⟩⟩, fun e => by cases e⟩
      have htl : t < len := by simpa using idx_lt hx
      obtain rfl : (f t).1 = x := by simpa [htl] using hx
      refine ⟨fun j u hj => ?_, (hf t htl).2⟩
      have := (hf t htl).1 j u hj
      rw [Addr.add_lit] at this
      rw [Nat.add_assoc]
      exact this
set_option maxRecDepth 100000 in
theorem Opens.one {T : TypeId} {f0 : Field} {α : Type} {r : Rep α} (hs : Try.prog.underlying T = some (.struct #[f0])) (ho : f0.offset = 0) (hc : Try.prog.cellsOf f0.type = r.size) (hO : Opens f0.type r) : Opens T r := by
  intro H enc w spare held fuel cs x h hl
  obtain ⟨y0, n, -, -, h0⟩ := trod_struct1 hs h
  rw [ho, hc, List.drop_zero, List.take_of_length_le (by omega)] at h0
  exact hO H enc w spare held n cs _ h0 hl
set_option maxRecDepth 100000 in
theorem Opens.val {T : TypeId} {fs : Array Field} {α : Type} {r : Rep α} (hO : Opens T r) (hs : Try.prog.underlying T = some (.struct fs)) (hc : Try.prog.cellsOf T = r.size)
    {H : Type} {enc : TypeId × Value → H} {w : World} {spare : Nat → Bool} {held : Bool} {q : Reach} {b0 : Nat} {v : Value} {d : DataW H} {p : List MemPlace} (hv : Value.okWide Try.prog w q b0 T v) (h : DataW.Trod enc Try.prog w 0 spare held T v d p) :
    ∃ (y : α) (hd : r.H), v = .agg (r.cells y hd).toArray ∧ r.inn w y hd := by
  obtain ⟨cs, rfl, hsz⟩ := okWide_struct hs hv
  obtain ⟨fuel, hf⟩ := h
  obtain ⟨y, hd, e, hi⟩ := hO H enc w spare held fuel _ _ hf (by simpa [Value.cells] using hsz.trans hc)
  refine ⟨y, hd, ?_, hi⟩
  simp only [Value.cells] at e
  rw [← e]
set_option maxRecDepth 100000 in
theorem Opens.arg {T : TypeId} {α : Type} {r : Rep α} (hO : Opens T (seqRep r)) {H : Type} {enc : TypeId × Value → H} {w : World} {spare : Nat → Bool} {held : Bool} {a : Option Addr} {len cap : Nat} {d : DataW H} {p : List MemPlace}
    (h : DataW.Trod enc Try.prog w 0 spare held T (.slice a len cap) d p) : ∃ xs : List α, SeqIn r w a len xs := by
  obtain ⟨fuel, hf⟩ := h
  obtain ⟨y, ⟨a', n', c'⟩, e, hi⟩ := hO H enc w spare held fuel _ _ hf (by simp [Value.cells, seqRep])
  simp [Value.cells, seqRep] at e
  obtain ⟨rfl, rfl, rfl⟩ := e
  exact ⟨y, hi.1⟩
end Go.Proofs.Ytfghhjcfmmhacaa
/- The laws' marks on rows that lie in a stretch of a block; sizes; copies as owned slices; no function of program or reference is walked here. -/
namespace Go.Proofs.Ytfghhjcfmmhacaa
open Go.RowKit
theorem set3_cells {w : World} {b o : Nat} {x y z : Value} (h0 : w.cell? ⟨b, o, none⟩ = some x) (h1 : w.cell? ⟨b, o + 1, none⟩ = some y) (h2 : w.cell? ⟨b, o + 2, none⟩ = some z) (r : R) :
    RowAt (((w.setCell ⟨b, o, none⟩ (.int .i64 r.key)).setCell ⟨b, o + 1, none⟩ (.int .i64 r.value)).setCell ⟨b, o + 2, none⟩ (.int .i64 r.width)) b o r := by
  have n01 : (⟨b, o, none⟩ : Addr) ≠ ⟨b, o + 1, none⟩ := by intro e; injection e with _ e _; omega
  have n02 : (⟨b, o, none⟩ : Addr) ≠ ⟨b, o + 2, none⟩ := by intro e; injection e with _ e _; omega
  have n12 : (⟨b, o + 1, none⟩ : Addr) ≠ ⟨b, o + 2, none⟩ := by intro e; injection e with _ e _; omega
  refine ⟨?_, ?_, ?_⟩
  · rw [World.cell?_setCell_other _ _ _ _ n02.symm, World.cell?_setCell_other _ _ _ _ n01.symm]
    exact World.cell?_setCell_same _ _ _ h0
  · rw [World.cell?_setCell_other _ _ _ _ n12.symm]
    refine World.cell?_setCell_same _ _ _ (u := y) ?_
    rw [World.cell?_setCell_other _ _ _ _ n01]
    exact h1
  · refine World.cell?_setCell_same _ _ _ (u := z) ?_
    rw [World.cell?_setCell_other _ _ _ _ n12, World.cell?_setCell_other _ _ _ _ n02]
    exact h2
theorem SeqOwn.row {w : World} {B n : Nat} {a : Option Addr} {L : List R} {F : List Reg} (h : SeqOwn rowRep w B a n L F) {k : Nat} (hk : k < n) :
    ∃ b o : Nat, a = some ⟨b, o, none⟩ ∧ b < w.heap.size ∧ RowAt w b (o + k * 3) (L.getD k R.zero) ∧ (∀ j, j < 3 → w.frozen? ⟨b, o + k * 3 + j, none⟩ = false) ∧
      ∀ r : R, r.wf → SeqOwn rowRep (((w.setCell ⟨b, o + k * 3, none⟩ (.int .i64 r.key)).setCell ⟨b, o + k * 3 + 1, none⟩ (.int .i64 r.value)).setCell ⟨b, o + k * 3 + 2, none⟩ (.int .i64 r.width)) B a n (L.set k r) F ∧
        ∀ w0, OnlyAt F w0 w → OnlyAt F w0 (((w.setCell ⟨b, o + k * 3, none⟩ (.int .i64 r.key)).setCell ⟨b, o + k * 3 + 1, none⟩ (.int .i64 r.value)).setCell ⟨b, o + k * 3 + 2, none⟩ (.int .i64 r.width)) := by
  obtain ⟨h1, hm, ⟨h0, -⟩ | ⟨b, o, hs, Fs, rfl, hB, hlt, rfl, hp, hf, hx⟩⟩ := h
  · omega
  · have hkl : k < L.length := by omega
    have hg : L.getD k R.zero = L[k] := by simp [List.getD, hkl]
    have hle : k * 3 + 3 ≤ n * 3 := by omega
    obtain ⟨hc, -⟩ := hx k L[k] (by simp [hkl])
    have c0 := hc 0 _ rfl
    have c1 := hc 1 _ rfl
    have c2 := hc 2 _ rfl
    have hhead : (⟨b, o, o + n * rowRep.size⟩ : Reg) ∈ (⟨b, o, o + n * rowRep.size⟩ : Reg) :: (List.range n).flatMap Fs := List.mem_cons_self ..
    refine ⟨b, o, rfl, hlt, by rw [hg]; exact ⟨c0, c1, c2⟩, fun j hj => hf _ (by omega) (by show _ < o + n * 3; omega), fun r hr => ⟨?_, fun w0 h0 => ?_⟩⟩
    · refine ⟨by rw [List.length_set]; exact h1, hm, .inr ⟨b, o, hs, Fs, rfl, hB, by simpa [World.setCell] using hlt, rfl, hp, fun j ha hb => ?_, fun t x ht => ?_⟩⟩
      · rw [World.frozen?_setCell, World.frozen?_setCell, World.frozen?_setCell]
        exact hf j ha hb
      · have htl : t < L.length := by have := idx_lt ht; rwa [List.length_set] at this
        by_cases htk : t = k
        · subst htk
          rw [List.getElem?_set_self htl] at ht
          obtain rfl := Option.some.inj ht
          refine ⟨fun j u hj => ?_, hr, (hx t L[t] (by simp [htl])).2.2⟩
          have e0 : w.cell? ⟨b, o + t * 3, none⟩ = some (.int .i64 (L[t]).key) := c0
          have e1 : w.cell? ⟨b, o + t * 3 + 1, none⟩ = some (.int .i64 (L[t]).value) := c1
          have e2 : w.cell? ⟨b, o + t * 3 + 2, none⟩ = some (.int .i64 (L[t]).width) := c2
          have hq := set3_cells e0 e1 e2 r
          match j, hj with
          | 0, hj => obtain rfl := Option.some.inj hj; exact hq.1
          | 1, hj => obtain rfl := Option.some.inj hj; exact hq.2.1
          | 2, hj => obtain rfl := Option.some.inj hj; exact hq.2.2
        · rw [List.getElem?_set_ne (fun e => htk e.symm)] at ht
          obtain ⟨hc', ho'⟩ := hx t x ht
          refine ⟨fun j u hj => ?_, ho'⟩
          have hj3 : j < 3 := idx_lt hj
          have hcj := hc' j u hj
          have hoff : ∀ i, i < 3 → (⟨b, o + k * 3 + i, none⟩ : Addr) ≠ ⟨b, o + t * rowRep.size + j, none⟩ := by
            intro i hi e
            injection e with _ e _
            have : o + k * 3 + i = o + t * 3 + j := e
            omega
          rw [World.cell?_setCell_other _ _ _ _ (hoff 2 (by omega)), World.cell?_setCell_other _ _ _ _ (hoff 1 (by omega)), World.cell?_setCell_other _ _ _ _ (show (⟨b, o + k * 3, none⟩ : Addr) ≠ _ from hoff 0 (by omega))]
          exact hcj
    · refine (((h0.set hhead rfl ?_ ?_ _).set hhead rfl ?_ ?_ _).set hhead rfl ?_ ?_ _)
      all_goals first | (show o ≤ _; omega) | (show _ < o + n * 3; omega)
def szR (left : Int) (n : Nat) : Int := if left < n then -1 else left - n
end Go.Proofs.Ytfghhjcfmmhacaa
/- What the texts of the laws' types share; no function of program or reference is walked here. -/
namespace Go.Proofs.Ytfghhjcfmmhacaa
open Go.RowKit
set_option linter.unusedVariables false
theorem cell_put {w : World} {b i : Nat} {u v : Value} (h : w.cell? ⟨b, i, none⟩ = some u) : (w.setCell ⟨b, i, none⟩ v).cell? ⟨b, i, none⟩ = some v := World.cell?_setCell_same _ _ _ h
theorem cell_far {w : World} {b i j : Nat} {u v : Value} (h : w.cell? ⟨b, j, none⟩ = some u) (hn : i ≠ j) : (w.setCell ⟨b, i, none⟩ v).cell? ⟨b, j, none⟩ = some u :=
  (World.cell?_setCell_other _ _ _ _ (fun e => by injection e with _ e _; exact hn e)).trans h
theorem OnlyAt.put {w : World} {b lo hi j : Nat} (w0 : World) (h : OnlyAt [⟨b, lo, hi⟩] w0 w) (h1 : lo ≤ j) (h2 : j < hi) (u : Value) : OnlyAt [⟨b, lo, hi⟩] w0 (w.setCell ⟨b, j, none⟩ u) := h.set (List.mem_singleton.2 rfl) rfl h1 h2 u
theorem Calls.named {P : Program} {f : FuncId} {a : Array Value} {w : World} {Q : Ending → World → Prop} (h : ∀ V, V = w → Calls P f a V Q) : Calls P f a w Q := h w rfl
def putCells : World → Nat → Nat → List Value → World
  | w, _, _, [] => w
  | w, g, o, v :: vs => putCells (w.setCell ⟨g, o, none⟩ v) g (o + 1) vs
theorem put_far {g j : Nat} : ∀ (vs : List Value) (w : World) (o : Nat), j < o ∨ o + vs.length ≤ j → (putCells w g o vs).cell? ⟨g, j, none⟩ = w.cell? ⟨g, j, none⟩
  | [], _, _, _ => rfl
  | v :: vs, w, o, h => by
    rw [List.length_cons] at h
    rw [putCells, put_far vs _ (o + 1) (by omega)]
    exact World.cell?_setCell_other _ _ _ _ (fun e => by injection e with _ e _; omega)
theorem put_at {g : Nat} : ∀ (vs : List Value) (w : World) (o : Nat), (∀ j, j < vs.length → ∃ u, w.cell? ⟨g, o + j, none⟩ = some u) → ∀ j u, vs[j]? = some u → (putCells w g o vs).cell? ⟨g, o + j, none⟩ = some u
  | [], _, _, _, j, u, hj => by simp at hj
  | v :: vs, w, o, h, j, u, hj => by
    rw [putCells]
    match j, hj with
    | 0, hj =>
      obtain rfl := Option.some.inj hj
      obtain ⟨u0, h0⟩ := h 0 (by simp)
      rw [put_far vs _ (o + 1) (by omega)]
      exact cell_put h0
    | j + 1, hj =>
      have := put_at vs (w.setCell ⟨g, o, none⟩ v) (o + 1) (fun k hk => by
        obtain ⟨u1, h1⟩ := h (k + 1) (by rw [List.length_cons]; omega)
        rw [show o + 1 + k = o + (k + 1) by omega]
        exact ⟨u1, cell_far h1 (by omega)⟩) j u (by simpa using hj)
      rwa [show o + (j + 1) = o + 1 + j by omega]
end Go.Proofs.Ytfghhjcfmmhacaa
/- Client: the datum, its shape, the laws' marks over it, its weight; no function of program or reference is walked here. -/
namespace Go.Proofs.Ytfghhjcfmmhacaa
open Go.RowKit
set_option linter.unusedVariables false
structure ClientD where
  fID : Int
  fRequested : Int
  fPriority : Int
deriving DecidableEq
def clientRep : Rep ClientD := viaRep (fun x => (x.fID, x.fRequested, x.fPriority, ())) (intAnd (intAnd (intAnd endRep)))
def clientMk : Mk ClientD := ⟨fun q x => ⟨q, q + 1, q + 1 + 1⟩, fun x => 1 + 1 + 1, fun q x => by first | rfl | simp [Mk.cnt_mark]⟩
def clientsMk : Mk (List ClientD) := seqMk clientMk
def wtClient (_ : ClientD) : Nat := 0
def wtClients (X : List ClientD) : Nat := wtAll wtClient X
end Go.Proofs.Ytfghhjcfmmhacaa
/- Broker: the datum, its shape, the laws' marks over it, its weight; no function of program or reference is walked here. -/
namespace Go.Proofs.Ytfghhjcfmmhacaa
open Go.RowKit
set_option linter.unusedVariables false
structure BrokerD where
  fPool : Int
  fNextID : Int
  fActive : List ClientD
  fWaiting : List ClientD
deriving DecidableEq
def brokerRep : Rep BrokerD := viaRep (fun x => (x.fPool, x.fNextID, x.fActive, x.fWaiting, ())) (intAnd (intAnd (seqAnd clientRep (seqAnd clientRep endRep))))
def brokerMk : Mk BrokerD := ⟨fun q x => ⟨q, q + 1, clientsMk.mark (q + 1 + 1) x.fActive, clientsMk.mark (q + 1 + 1 + (clientsMk.cnt x.fActive : Nat)) x.fWaiting⟩, fun x => 1 + 1 + clientsMk.cnt x.fActive + clientsMk.cnt x.fWaiting, fun q x => by first | rfl | simp [Mk.cnt_mark]⟩
def brokersMk : Mk (List BrokerD) := seqMk brokerMk
def brokerMkV : Mk BrokerD := ⟨fun q x => ⟨x.fPool, x.fNextID, clientsMk.mark (q) x.fActive, clientsMk.mark (q + (clientsMk.cnt x.fActive : Nat)) x.fWaiting⟩, fun x => clientsMk.cnt x.fActive + clientsMk.cnt x.fWaiting, fun q x => by first | rfl | simp [Mk.cnt_mark]⟩
def wtBroker (x : BrokerD) : Nat := wtClients x.fActive + wtClients x.fWaiting
def wtBrokers (X : List BrokerD) : Nat := wtAll wtBroker X
end Go.Proofs.Ytfghhjcfmmhacaa
/- Numbers as elements: the laws' marks over them, their weight; no function of program or reference is walked here. -/
namespace Go.Proofs.Ytfghhjcfmmhacaa
open Go.RowKit
set_option linter.unusedVariables false
def intMk : Mk Int := ⟨fun q _ => q, fun _ => 1, fun _ _ => rfl⟩
def intsMk : Mk (List Int) := seqMk intMk
def wtInt (_ : Int) : Nat := 0
def wtInts (X : List Int) : Nat := wtAll wtInt X
end Go.Proofs.Ytfghhjcfmmhacaa
/- States told by trees: the trees of the types; no function of program or reference is walked here. -/
namespace Go.Proofs.Ytfghhjcfmmhacaa
open Go Go.RowKit V
set_option linter.unusedVariables false
def tClient (x : ClientD) : List T := [.lit (.int .i64 x.fID), .lit (.int .i64 x.fRequested), .lit (.int .i64 x.fPriority)]
def uClient (x : ClientD) : List T := [.lit (.int .i64 x.fID), .lit (.int .i64 x.fRequested), .lit (.int .i64 x.fPriority)]
def zClient : List T := [.lit (.int .i64 0), .lit (.int .i64 0), .lit (.int .i64 0)]
theorem flat_impl_Client (X : List ClientD) : Flat (X.map tClient) := flat_of (fun _ => rfl) X
theorem neq_impl_Client (x y : ClientD) (ρ : Operand → Value) (a b : Operand) (o : Oper) (w : World) (ho : o.op = .binOp .neq 35 a b 35) (h1 : ρ a = .agg #[.int .i64 x.fID, .int .i64 x.fRequested, .int .i64 x.fPriority]) (h2 : ρ b = .agg #[.int .i64 y.fID, .int .i64 y.fRequested, .int .i64 y.fPriority]) : (execOp ρ o).run Try.prog w = .ok (.value (.bool (decide (x ≠ y)))) w := by
  obtain ⟨x_0, x_1, x_2⟩ := x
  obtain ⟨y_0, y_1, y_2⟩ := y
  simp only [execOp, ho, h1, h2]
  go_simp
  try simp only [ne_eq, ClientD.mk.injEq]
  (repeat' split) <;> simp_all
def tBroker (x : BrokerD) : List T := [.lit (.int .i64 x.fPool), .lit (.int .i64 x.fNextID), .seq 35 (x.fActive.map tClient), .seq 35 (x.fWaiting.map tClient)]
def uBroker (x : BrokerD) : List T := [.lit (.int .i64 x.fPool), .lit (.int .i64 x.fNextID), .seq 98 (x.fActive.map uClient), .seq 98 (x.fWaiting.map uClient)]
def zBroker : List T := [.lit (.int .i64 0), .lit (.int .i64 0), .seq 35 [], .seq 35 []]
def tInt (x : Int) : List T := [.lit (.int .i64 x)]
def uInt (x : Int) : List T := [.lit (.int .i64 x)]
def zInt : List T := [.lit (.int .i64 0)]
end Go.Proofs.Ytfghhjcfmmhacaa
/- Small lemmas about rows of bytes that a call made itself: what is appended, what string(b) reads; no function of the program is walked here. -/
namespace Go.Proofs.Ytfghhjcfmmhacaa
open Go.RowKit
def b8 (l : List UInt8) : List Value := l.map fun b => Value.int .u8 (b.toNat : Int)
end Go.Proofs.Ytfghhjcfmmhacaa
/- What '&', '|' and '<<' of the program's integers are on numbers that are not below zero; no function of the program. -/
namespace Go.Proofs.Ytfghhjcfmmhacaa
open Go.RowKit
theorem toNat_bv (a : Nat) (ha : a < 9223372036854775808) : (BitVec.ofInt 64 (a : Int)).toNat = a := by
  rw [BitVec.ofInt_natCast, BitVec.toNat_ofNat]; omega
theorem and64 (a b : Nat) (ha : a < 9223372036854775808) (hb : b < 9223372036854775808) : bits .and .i64 (a : Int) (b : Int) = ((a &&& b : Nat) : Int) := by
  have hx : a &&& b < 2 ^ 63 := Nat.and_lt_two_pow _ (by omega)
  show IntKind.i64.wrap ((BitVec.ofInt 64 (a : Int) &&& BitVec.ofInt 64 (b : Int)).toNat : Int) = _
  rw [BitVec.toNat_and, toNat_bv a ha, toNat_bv b hb, IntKind.wrap_i64]; omega
end Go.Proofs.Ytfghhjcfmmhacaa
/- The reader of the drawn code (l1New, l1Byte, l1Below): what it answers and what it leaves alone. -/
namespace Go.Proofs.Ytfghhjcfmmhacaa
open Go.RowKit
def IsRow (k : IntKind) (w : World) (a : Option Addr) (len cap : Nat) (zs : List Int) : Prop :=
  (a = none ∧ len = 0 ∧ cap = 0 ∧ zs = []) ∨
  ∃ x, a = some x ∧ len ≤ cap ∧ cap ≤ maxLen ∧ zs.length = cap ∧ (∀ i, i < zs.length → w.cell? (x.add i) = some (.int k (zs.getD i 0))) ∧ ∀ n ∈ zs, (Lit.int k n).wf = true
structure Cur (a : Option Addr) (len cap : Nat) (zs : List Int) (σ : Int × Int) (w : World) (c : Nat) : Prop where
  row : IsRow .u8 w a len cap zs
  apart : ∀ x, a = some x → 0 < cap → x.block ≠ c
  low : 0 ≤ σ.1
  high : σ.1 ≤ len
  cell : w.heap[c]? = some (.cells #[.slice a len cap, .int .i64 σ.1, .int .i64 σ.2] 85 (0, 0))
theorem IsRow.keep {k : IntKind} {w w' : World} {a : Option Addr} {len cap : Nat} {zs : List Int} (h : IsRow k w a len cap zs) (hk : ∀ x, a = some x → 0 < cap → x.block < w.heap.size → w'.heap[x.block]? = w.heap[x.block]?) : IsRow k w' a len cap zs := by
  rcases h with h | ⟨x, rfl, h1, h2, h3, h4, h5⟩
  · exact .inl h
  · refine .inr ⟨x, rfl, h1, h2, h3, fun i hi => ?_, h5⟩
    have hc := h4 i hi
    have hb : (x.add i).block = x.block := by by_cases h0 : i = 0 <;> simp [Addr.add, h0]
    rw [← hc]
    have hlt : x.block < w.heap.size := by rw [← hb]; exact World.block_lt_of_cell? w _ hc
    exact World.cell?_of_block (by rw [hb]; exact hk x rfl (by omega) hlt)
theorem Cur.lt {a : Option Addr} {len cap : Nat} {zs : List Int} {σ : Int × Int} {w : World} {c : Nat} (h : Cur a len cap zs σ w c) : c < w.heap.size := by
  have hb := h.cell
  rcases Nat.lt_or_ge c w.heap.size with hlt | hge
  · exact hlt
  · rw [Array.getElem?_eq_none hge] at hb; cases hb
theorem Cur.below {a : Option Addr} {len cap : Nat} {zs : List Int} {σ : Int × Int} {w w' : World} {c B : Nat} (h : Cur a len cap zs σ w c) (hb : Below B w w') (hc : c < B) (ha : ∀ x, a = some x → 0 < cap → x.block < B) : Cur a len cap zs σ w' c :=
  ⟨h.row.keep fun x hx hp _ => hb.block x.block (ha x hx hp), h.apart, h.low, h.high, (hb.block c hc).trans h.cell⟩
theorem Cur.same {a : Option Addr} {len cap : Nat} {zs : List Int} {σ : Int × Int} {w w' : World} {c : Nat} (h : Cur a len cap zs σ w c) (hh : w'.heap = w.heap) : Cur a len cap zs σ w' c :=
  ⟨h.row.keep fun x _ _ _ => by rw [hh], h.apart, h.low, h.high, by rw [hh]; exact h.cell⟩
theorem Cur.alloc {a : Option Addr} {len cap : Nat} {zs : List Int} {σ : Int × Int} {w : World} {c : Nat} (h : Cur a len cap zs σ w c) (o : Obj) : Cur a len cap zs σ (w.alloc o) c :=
  ⟨h.row.keep fun x _ _ hlt => Below.heap_alloc w o x.block hlt, h.apart, h.low, h.high, (Below.heap_alloc w o c h.lt).trans h.cell⟩
theorem Cur.only {a : Option Addr} {len cap : Nat} {zs : List Int} {σ : Int × Int} {w w' : World} {c : Nat} (h : Cur a len cap zs σ w c) (ho : Only c w w') (τ : Int × Int) (h1 : 0 ≤ τ.1) (h2 : τ.1 ≤ len)
    (hb : w'.heap[c]? = some (.cells #[.slice a len cap, .int .i64 τ.1, .int .i64 τ.2] 85 (0, 0))) : Cur a len cap zs τ w' c :=
  ⟨h.row.keep fun x hx hp hlt => ho.block x.block hlt (fun e => h.apart x hx hp (by injection e)), h.apart, h1, h2, hb⟩
theorem and255 (y : Int) : 0 ≤ bits .and .i64 y 255 ∧ bits .and .i64 y 255 ≤ 255 := by
  show 0 ≤ IntKind.i64.wrap ((BitVec.ofInt 64 y &&& BitVec.ofInt 64 255).toNat : Int) ∧ IntKind.i64.wrap ((BitVec.ofInt 64 y &&& BitVec.ofInt 64 255).toNat : Int) ≤ 255
  have h : (BitVec.ofInt 64 y &&& BitVec.ofInt 64 255).toNat ≤ 255 := by
    rw [BitVec.toNat_and]
    exact Nat.le_trans Nat.and_le_right (by decide)
  rw [IntKind.wrap_i64]
  omega
end Go.Proofs.Ytfghhjcfmmhacaa
/- l1Byte: a number from 0 to 255; the cursor is moved on; nothing else changes. -/
namespace Go.Proofs.Ytfghhjcfmmhacaa
open Go.RowKit
def nextH (h : Int) : Int := wrap64 (wrap64 (h * 6364136223846793005) + 1442695040888963407)
def mixed (q : Int) : Int := bits BinOp.and IntKind.i64 (bits BinOp.xor IntKind.i64 (q / 8589934592) (q / 35184372088832)) 255
def byteS (zs : List Int) (len : Nat) (σ : Int × Int) : Int × (Int × Int) :=
  if σ.1 < len then (bits BinOp.and IntKind.i64 (wrap64 (mixed (nextH σ.2) + zs.getD σ.1.toNat 0)) 255, (σ.1 + 1, nextH σ.2)) else (mixed (nextH σ.2), (σ.1, nextH σ.2))
theorem byteS_range {zs : List Int} {len : Nat} {σ τ : Int × Int} {x : Int} (h : byteS zs len σ = (x, τ)) : 0 ≤ x ∧ x ≤ 255 := by
  have hx : x = (byteS zs len σ).1 := by rw [h]
  rw [hx]; unfold byteS mixed
  split <;> exact and255 _
def Drawn (F : Int × Int → Int × (Int × Int)) (a : Option Addr) (len cap : Nat) (zs : List Int) (σ : Int × Int) (c : Nat) (w : World) (e : Ending) (w' : World) : Prop :=
  ∃ (x : Int) (τ : Int × Int), F σ = (x, τ) ∧ e = .returned (.int .i64 x) ∧ Cur a len cap zs τ w' c ∧ Only c w w'
set_option maxRecDepth 100000 in
theorem byte_end (a : Option Addr) (len cap : Nat) (zs : List Int) (c : Nat) (w : World) (i h : Int) (hc : Cur a len cap zs (i, h) w c) (hi0 : 0 ≤ i) (hlast : ¬ i < len) (hil : i ≤ len)
    (hb : w.heap[c]? = some (.cells #[.slice a len cap, .int .i64 i, .int .i64 h] 85 (0, 0))) :
    Calls Try.prog 85 #[.pointer (some ⟨c, 0, none⟩)] w (Drawn (byteS zs len) a len cap zs (i, h) c w) := by
  have c0 : w.cell? ⟨c, 0, none⟩ = some (.slice a len cap) := by simp [World.cell?, hb]
  have c1 : w.cell? ⟨c, 1, none⟩ = some (.int .i64 i) := by simp [World.cell?, hb]
  have c2 : w.cell? ⟨c, 2, none⟩ = some (.int .i64 h) := by simp [World.cell?, hb]
  have f2 : w.frozen? ⟨c, 2, none⟩ = false := by simp [World.frozen?, hb]
  have HB := Lib.hid hb
  have HC := Lib.hid hc
  clear hb hc
  go_enter Try.func85, Try.ntmps85
  go_wp2_with fail
  obtain ⟨q, hq⟩ : ∃ q, q = wrap64 (wrap64 (h * 6364136223846793005) + 1442695040888963407) := ⟨_, rfl⟩
  rw [← hq]
  have HQ : Hid (q = nextH h) := hq
  clear hq
  go_quiet (fail)
  go_wp2_with fail
  go_quiet (fail)
  go_wp2_with fail
  go_ret
  have ho : Only c w ((w.setCell ⟨c, 2, none⟩ (.int .i64 q)).drewN 0) := ((Only.refl c w).setCell 2 _).drewN _
  have hheap := heap_setCell_same w c 2 _ _ (.int .i64 q) HB.out
  refine ⟨_, (i, q), ?_, rfl, HC.out.only ?_ (i, q) hi0 hil ?_, ?_⟩
  · unfold byteS
    rw [if_neg (by exact Int.not_lt.2 hlast), HQ.out]
    rfl
  · exact ⟨ho.os, ho.tape, ho.output, ho.size, ho.block⟩
  · exact hheap.trans (by simp)
  · exact ⟨ho.os, ho.tape, ho.output, ho.size, ho.block⟩
set_option maxRecDepth 100000 in
theorem byte_more (b off : Nat) (len cap : Nat) (zs : List Int) (c : Nat) (w : World) (t : Nat) (h : Int) (hc : Cur (some ⟨b, off, none⟩) len cap zs ((t : Int), h) w c) (hlt : t < len) (hl63 : len ≤ 9223372036854775807) (z : Int) (hzz : z = zs.getD t 0) (hz0 : 0 ≤ z) (hz1 : z ≤ 255)
    (hcell : w.cell? ⟨b, off + t, none⟩ = some (.int .u8 z)) (hbc : ¬ b = c)
    (hb : w.heap[c]? = some (.cells #[.slice (some ⟨b, off, none⟩) len cap, .int .i64 (t : Int), .int .i64 h] 85 (0, 0))) :
    Calls Try.prog 85 #[.pointer (some ⟨c, 0, none⟩)] w (Drawn (byteS zs len) (some ⟨b, off, none⟩) len cap zs ((t : Int), h) c w) := by
  have HZ := Lib.hid hzz
  clear hzz
  have c0 : w.cell? ⟨c, 0, none⟩ = some (.slice (some ⟨b, off, none⟩) len cap) := by simp [World.cell?, hb]
  have c1 : w.cell? ⟨c, 1, none⟩ = some (.int .i64 (t : Int)) := by simp [World.cell?, hb]
  have c2 : w.cell? ⟨c, 2, none⟩ = some (.int .i64 h) := by simp [World.cell?, hb]
  have f2 : w.frozen? ⟨c, 2, none⟩ = false := by simp [World.frozen?, hb]
  have f1 : w.frozen? ⟨c, 1, none⟩ = false := by simp [World.frozen?, hb]
  have hti : (t : Int) < len := by omega
  have ht0 : (0 : Int) ≤ t := by omega
  have HB := Lib.hid hb
  have HC := Lib.hid hc
  clear hb hc
  go_enter Try.func85, Try.ntmps85
  go_wp2_with fail
  obtain ⟨q, hq⟩ : ∃ q, q = wrap64 (wrap64 (h * 6364136223846793005) + 1442695040888963407) := ⟨_, rfl⟩
  rw [← hq]
  have HQ : Hid (q = nextH h) := hq
  clear hq
  go_quiet (fail)
  go_wp2_with fail
  obtain ⟨y, hy⟩ : ∃ y, y = bits BinOp.and IntKind.i64 (bits BinOp.xor IntKind.i64 (q / 8589934592) (q / 35184372088832)) 255 := ⟨_, rfl⟩
  rw [← hy]
  have HY : Hid (y = mixed q) := hy
  clear hy
  go_quiet (fail)
  go_wp2_with fail
  go_quiet (fail)
  go_wp2_with fail
  go_ret
  have hheap := heap_setCell_same w c 2 _ _ (.int .i64 q) HB.out
  refine ⟨_, ((t : Int) + 1, q), ?_, rfl, ?_, (((Only.refl c w).setCell 2 _).drewN _).setCell 1 _⟩
  · unfold byteS
    rw [if_pos hti, ← HQ.out, ← HY.out, Int.toNat_natCast, ← HZ.out]
  refine HC.out.only ((((Only.refl c w).setCell 2 _).drewN _).setCell 1 _) ((t : Int) + 1, q) (by show 0 ≤ (t : Int) + 1; omega) (by show (t : Int) + 1 ≤ len; omega) ?_
  exact (heap_setCell_same _ c 1 _ _ (.int .i64 ((t : Int) + 1)) (by simpa using hheap)).trans (by simp)
theorem byte_any (a : Option Addr) (len cap : Nat) (zs : List Int) (σ : Int × Int) (c : Nat) (w : World) (hc : Cur a len cap zs σ w c) :
    Calls Try.prog 85 #[.pointer (some ⟨c, 0, none⟩)] w (Drawn (byteS zs len) a len cap zs σ c w) := by
  obtain ⟨i, h⟩ := σ
  have hi0 : 0 ≤ i := hc.low
  have hil : i ≤ len := hc.high
  have hb := hc.cell
  by_cases hlt : i < len
  · rcases hc.row with ⟨rfl, rfl, rfl, rfl⟩ | ⟨x, rfl, hlc, hm, hz, hcell, hwz⟩
    · omega
    · obtain ⟨t, rfl⟩ : ∃ t : Nat, i = (t : Int) := ⟨i.toNat, by omega⟩
      have hct := hcell t (by omega)
      obtain ⟨b, off, spot⟩ := x
      have hspot : spot = none := by simpa [Addr.add] using World.cell?_spot (hcell 0 (by omega))
      subst hspot
      have hct' : w.cell? ⟨b, off + t, none⟩ = some (.int .u8 (zs.getD t 0)) := by
        by_cases h0 : t = 0
        · subst h0; simpa [Addr.add] using hct
        · simpa [Addr.add, h0] using hct
      have hbd := bounds_u8 (hwz (zs.getD t 0) (by
        rw [List.getD_eq_getElem?_getD, List.getElem?_eq_getElem (by omega)]
        exact List.getElem_mem _))
      unfold maxLen at hm
      exact byte_more b off len cap zs c w t h hc (by omega) (by omega) _ rfl hbd.1 hbd.2 hct' (hc.apart _ rfl (by omega)) hb
  · exact byte_end a len cap zs c w i h hc hi0 hlt hil hb
end Go.Proofs.Ytfghhjcfmmhacaa
/- l1Below, l1Once, l1New: numbers below a bound; a new cursor over the code that came in. -/
namespace Go.Proofs.Ytfghhjcfmmhacaa
open Go.RowKit
theorem emod_small (x n : Int) (hn : 0 < n) : 0 ≤ x % n ∧ x % n < n := ⟨Int.emod_nonneg _ (by omega), Int.emod_lt_of_pos _ hn⟩
def belowS (zs : List Int) (len : Nat) (n : Int) (σ : Int × Int) : Int × (Int × Int) :=
  if n ≤ 256 then ((byteS zs len σ).1 % n, (byteS zs len σ).2)
  else
    (((byteS zs len σ).1 * 16777216 + (byteS zs len (byteS zs len σ).2).1 * 65536 + (byteS zs len (byteS zs len (byteS zs len σ).2).2).1 * 256 + (byteS zs len (byteS zs len (byteS zs len (byteS zs len σ).2).2).2).1) % n,
      (byteS zs len (byteS zs len (byteS zs len (byteS zs len σ).2).2).2).2)
theorem belowS_range {zs : List Int} {len : Nat} {n : Int} {σ τ : Int × Int} {x : Int} (hn : 1 ≤ n) (h : belowS zs len n σ = (x, τ)) : 0 ≤ x ∧ x < n := by
  have hx : x = (belowS zs len n σ).1 := by rw [h]
  rw [hx]; unfold belowS
  split <;> exact emod_small _ n (by omega)
set_option maxRecDepth 100000 in
theorem below_small (a : Option Addr) (len cap : Nat) (zs : List Int) (σ : Int × Int) (c : Nat) (w : World) (hc : Cur a len cap zs σ w c) (n : Int) (h1 : 1 ≤ n) (h2 : n ≤ 256) :
    Calls Try.prog 65 #[.pointer (some ⟨c, 0, none⟩), .int .i64 n] w (Drawn (belowS zs len n) a len cap zs σ c w) := by
  have HC := Lib.hid hc
  clear hc
  go_enter Try.func65, Try.ntmps65
  go_wp2_with fail
  refine (byte_any a len cap zs _ c _ HC.out).mono ?_
  rintro e w1 ⟨x, τ, hx, rfl, hc1, ho1⟩
  obtain ⟨hx0, hx1⟩ := byteS_range hx
  have H1 := Lib.hid hc1
  have HO := Lib.hid ho1
  have HX := Lib.hid hx
  clear hc1 ho1 hx
  go_wp2_with fail
  go_ret
  exact ⟨_, τ, by unfold belowS; rw [if_pos h2, HX.out], rfl, H1.out, HO.out⟩
set_option maxRecDepth 100000 in
theorem below_big (a : Option Addr) (len cap : Nat) (zs : List Int) (σ : Int × Int) (c : Nat) (w : World) (hc : Cur a len cap zs σ w c) (n : Int) (h1 : 256 < n) (h2 : n ≤ 1000000000) :
    Calls Try.prog 65 #[.pointer (some ⟨c, 0, none⟩), .int .i64 n] w (Drawn (belowS zs len n) a len cap zs σ c w) := by
  have HC := Lib.hid hc
  clear hc
  go_enter Try.func65, Try.ntmps65
  go_wp2_with fail
  refine (byte_any a len cap zs _ c _ HC.out).mono ?_
  rintro e w1 ⟨x1, τ1, hf1, rfl, hc1, ho1⟩
  obtain ⟨hx0, hx1⟩ := byteS_range hf1
  have F1 := Lib.hid hf1
  clear hf1
  have H1 := Lib.hid hc1
  have O1 := Lib.hid ho1
  clear hc1 ho1
  go_wp2_with fail
  refine (byte_any a len cap zs _ c _ H1.out).mono ?_
  rintro e w2 ⟨x2, τ2, hf2, rfl, hc2, ho2⟩
  obtain ⟨hy0, hy1⟩ := byteS_range hf2
  have F2 := Lib.hid hf2
  clear hf2
  have H2 := Lib.hid hc2
  have O2 := Lib.hid (O1.out.trans ho2)
  clear hc2 ho2
  go_wp2_with fail
  refine (byte_any a len cap zs _ c _ H2.out).mono ?_
  rintro e w3 ⟨x3, τ3, hf3, rfl, hc3, ho3⟩
  obtain ⟨hz0, hz1⟩ := byteS_range hf3
  have F3 := Lib.hid hf3
  clear hf3
  have H3 := Lib.hid hc3
  have O3 := Lib.hid (O2.out.trans ho3)
  clear hc3 ho3
  go_wp2_with fail
  refine (byte_any a len cap zs _ c _ H3.out).mono ?_
  rintro e w4 ⟨x4, τ4, hf4, rfl, hc4, ho4⟩
  obtain ⟨hv0, hv1⟩ := byteS_range hf4
  have F4 := Lib.hid hf4
  clear hf4
  have H4 := Lib.hid hc4
  have O4 := Lib.hid (O3.out.trans ho4)
  clear hc4 ho4
  go_wp2_with fail
  go_ret
  exact ⟨_, τ4, by unfold belowS; rw [if_neg (by omega), F1.out]; simp only []; rw [F2.out]; simp only []; rw [F3.out]; simp only []; rw [F4.out], rfl, H4.out, O4.out⟩
theorem below_any (a : Option Addr) (len cap : Nat) (zs : List Int) (σ : Int × Int) (c : Nat) (w : World) (hc : Cur a len cap zs σ w c) (n : Int) (h1 : 1 ≤ n) (h2 : n ≤ 1000000000) :
    Calls Try.prog 65 #[.pointer (some ⟨c, 0, none⟩), .int .i64 n] w (Drawn (belowS zs len n) a len cap zs σ c w) := by
  by_cases h : n ≤ 256
  · exact below_small a len cap zs σ c w hc n h1 h
  · exact below_big a len cap zs σ c w hc n (by omega) h2
end Go.Proofs.Ytfghhjcfmmhacaa
/- l1New: a new cursor over the code that came in. -/
namespace Go.Proofs.Ytfghhjcfmmhacaa
open Go.RowKit
theorem low30 (m : Int) (h0 : 0 ≤ m) (h1 : m < 9223372036854775808) : bits .and .i64 m 1073741823 = m % 1073741824 := by
  obtain ⟨n, rfl⟩ : ∃ n : Nat, m = (n : Int) := ⟨m.toNat, by omega⟩
  have := and64 n 1073741823 (by omega) (by omega)
  rw [show ((1073741823 : Nat) : Int) = 1073741823 from rfl] at this
  rw [this, show (1073741823 : Nat) = 2 ^ 30 - 1 from rfl, Nat.and_two_pow_sub_one_eq_mod]
  omega
def mixH (zs : List Int) (len : Nat) : Nat → Int
  | 0 => 10101 + len
  | t + 1 => (mixH zs len t * 131 + zs.getD t 0 + 7) % 1073741824
def newH (zs : List Int) (len : Nat) : Int := mixH zs len (min len 4000)
def Fresh (a : Option Addr) (len cap : Nat) (zs : List Int) (w : World) (e : Ending) (w' : World) : Prop :=
  ∃ c : Nat, e = .returned (.pointer (some ⟨c, 0, none⟩)) ∧ Cur a len cap zs (0, newH zs len) w' c ∧ w.heap.size ≤ c ∧ Below w.heap.size w w'
theorem IsRow.cells {w : World} {a : Option Addr} {len cap : Nat} {zs : List Int} (h : IsRow .u8 w a len cap zs) : len = 0 ∨ ∃ b off : Nat, a = some ⟨b, off, none⟩ ∧ ∀ t, t < len → w.cell? ⟨b, off + t, none⟩ = some (.int .u8 (zs.getD t 0)) ∧ 0 ≤ zs.getD t 0 ∧ zs.getD t 0 ≤ 255 := by
  by_cases h0 : len = 0
  · exact .inl h0
  · rcases h with ⟨_, hl, _, _⟩ | ⟨x, rfl, hlc, hm, hz, hcell, hwz⟩
    · exact absurd hl h0
    · obtain ⟨b, off, spot⟩ := x
      have hspot : spot = none := by simpa [Addr.add] using World.cell?_spot (hcell 0 (by omega))
      subst hspot
      refine .inr ⟨b, off, rfl, fun t ht => ?_⟩
      have hct := hcell t (by omega)
      have hbd := bounds_u8 (hwz (zs.getD t 0) (by
        rw [List.getD_eq_getElem?_getD, List.getElem?_eq_getElem (by omega)]
        exact List.getElem_mem _))
      refine ⟨?_, hbd⟩
      by_cases h1 : t = 0
      · subst h1; simpa [Addr.add] using hct
      · simpa [Addr.add, h1] using hct
theorem IsRow.lt {w : World} {a : Option Addr} {len cap : Nat} {zs : List Int} (h : IsRow .u8 w a len cap zs) (hp : 0 < len) : ∀ x, a = some x → x.block < w.heap.size := by
  intro x hx
  rcases h with ⟨_, hl, _, _⟩ | ⟨y, rfl, hlc, hm, hz, hcell, hwz⟩
  · omega
  · obtain rfl := Option.some.inj hx
    have := World.block_lt_of_cell? w _ (hcell 0 (by omega))
    simpa [Addr.add] using this
theorem fresh_of {a : Option Addr} {len cap : Nat} {zs : List Int} {w : World} (hr : IsRow .u8 w a len cap zs) (ha : ∀ x, a = some x → 0 < cap → x.block < w.heap.size) (q : Int) (hq : q = newH zs len) :
    Fresh a len cap zs w (.returned (.pointer (some ⟨w.heap.size, 0, none⟩))) (w.alloc (.cells #[.slice a len cap, .int .i64 0, .int .i64 q] 85)) := by
  have hb : Below w.heap.size w (w.alloc (.cells #[.slice a len cap, .int .i64 0, .int .i64 q] 85)) := (Below.refl _ _).alloc (Nat.le_refl _) _
  exact ⟨w.heap.size, rfl, ⟨hr.keep fun x hx hp _ => hb.block x.block (ha x hx hp), fun x hx hp e => absurd (ha x hx hp) (by rw [e]; exact Nat.lt_irrefl _), Int.le_refl 0, by show (0 : Int) ≤ len; omega, by rw [← hq]; exact heap_alloc_new w _⟩, Nat.le_refl _, hb⟩
set_option maxRecDepth 100000 in
theorem new_any (a : Option Addr) (len cap : Nat) (zs : List Int) (w : World) (hr : IsRow .u8 w a len cap zs) (hl : len ≤ 1048576) (halt : ∀ x, a = some x → 0 < cap → x.block < w.heap.size) :
    Calls Try.prog 49 #[.slice a len cap] w (Fresh a len cap zs w) := by
  have HR := Lib.hid hr
  have HA := Lib.hid halt
  have hcs := Lib.hid hr.cells
  clear hr halt
  go_enter Try.func49, Try.ntmps49
  go_wp2_with fail
  go_loop [3, 4] (fun h i => ∃ (q : Int) (t : Nat), h = .int .i64 q ∧ i = .int .i64 t ∧ 0 ≤ q ∧ q < 2147483648 ∧ t ≤ len ∧ t ≤ 4000 ∧ Hid (q = mixH zs len t)) (fun _ i => len - (intOf i).toNat)
  case atStart => exact ⟨_, 0, rfl, rfl, by omega, by omega, by omega, by omega, rfl⟩
  case round =>
    obtain ⟨q, t, rfl, rfl, hq0, hq1, ht, ht4, hQ⟩ := hrel
    by_cases hlt : t < len
    · by_cases h4 : (t : Int) < 4000
      · rcases hcs.out with h0 | ⟨b, off, ha, hcell⟩
        · exfalso; omega
        · obtain ⟨hct, hz0, hz1⟩ := hcell t hlt
          clear hcell
          obtain ⟨z, hz⟩ : ∃ z, z = zs.getD t 0 := ⟨_, rfl⟩
          rw [← hz] at hct hz0 hz1
          have HZ := Lib.hid hz
          clear hz
          subst ha
          have hm := low30 (q * 131 + z + 7) (by omega) (by omega)
          go_wp2_with fail
          go_round
          case rel => exact ⟨_, t + 1, rfl, by go_num, by omega, by omega, by omega, by omega, by show _ = _; rw [mixH, ← hQ.out, ← HZ.out]⟩
          case measure => simp [intOf]; omega
      · have h4' : decide ((t : Int) < 4000) = false := by simpa using h4
        go_wp2_with fail
        go_ret
        exact fresh_of HR.out HA.out q (by unfold newH; rw [show min len 4000 = t by omega]; exact hQ.out)
    · go_wp2_with fail
      go_ret
      exact fresh_of HR.out HA.out q (by unfold newH; rw [show min len 4000 = t by omega]; exact hQ.out)
end Go.Proofs.Ytfghhjcfmmhacaa
/- l1PickInt: one of a row of integers, as a function of the cursor's state. -/
namespace Go.Proofs.Ytfghhjcfmmhacaa
open Go.RowKit
theorem belowS_fst (zs : List Int) (len : Nat) (n : Int) (σ : Int × Int) (hn : 1 ≤ n) : 0 ≤ (belowS zs len n σ).1 ∧ (belowS zs len n σ).1 < n :=
  belowS_range (x := (belowS zs len n σ).1) (τ := (belowS zs len n σ).2) hn rfl
def AnInt (x : Int) : Prop := (Lit.int .i64 x).wf = true
def Ints (w : World) (g : Nat) (L : List Int) : Prop := ∀ t, t < L.length → w.cell? ⟨g, t, none⟩ = some (.int .i64 (L.getD t 0))
def pickS (zs : List Int) (len : Nat) (L : List Int) (σ : Int × Int) : Int × (Int × Int) := (L.getD (belowS zs len (L.length : Nat) σ).1.toNat 0, (belowS zs len (L.length : Nat) σ).2)
end Go.Proofs.Ytfghhjcfmmhacaa
/- The code that a law draws from, as the walks take it. -/
namespace Go.Proofs.Ytfghhjcfmmhacaa
open Go.RowKit
structure Code (a : Option Addr) (len cap : Nat) (zs : List Int) (w : World) : Prop where
  row : IsRow .u8 w a len cap zs
  small : len ≤ 1048576
  old : ∀ x, a = some x → 0 < cap → x.block < w.heap.size
theorem Code.below {a : Option Addr} {len cap : Nat} {zs : List Int} {w w' : World} (h : Code a len cap zs w) (hb : Below w.heap.size w w') : Code a len cap zs w' :=
  ⟨h.row.keep fun x hx hp _ => hb.block x.block (h.old x hx hp), h.small, fun x hx hp => Nat.lt_of_lt_of_le (h.old x hx hp) hb.size⟩
theorem big_no (a : Option Addr) (len cap : Nat) (w : World) (h : len ≤ 1048576) : Calls Try.prog 14 #[.slice a len cap] w fun e w' => e = .returned (.bool false) ∧ w = w' := by
  have hd : decide ((1048576 : Int) < len) = false := by simp; omega
  go_enter Try.func14, Try.ntmps14
  go_wp2
  go_ret
  exact ⟨rfl, rfl⟩
theorem big_yes (a : Option Addr) (len cap : Nat) (w : World) (h : 1048576 < len) : Calls Try.prog 14 #[.slice a len cap] w fun e w' => e = .returned (.bool true) ∧ w = w' := by
  have hd : decide ((1048576 : Int) < len) = true := by simp; omega
  go_enter Try.func14, Try.ntmps14
  go_wp2
  go_ret
  exact ⟨rfl, rfl⟩
end Go.Proofs.Ytfghhjcfmmhacaa
/- A variable of three numbers in a block of its own, behind calls and stores; no function of the program. -/
namespace Go.Proofs.Ytfghhjcfmmhacaa
open Go.RowKit
end Go.Proofs.Ytfghhjcfmmhacaa
/- l2Row, l2Any: the row that is drawn, as a function of the cursor's state. -/
namespace Go.Proofs.Ytfghhjcfmmhacaa
open Go.RowKit
def Rowed (F : Int × Int → R × (Int × Int)) (a : Option Addr) (len cap : Nat) (zs : List Int) (σ : Int × Int) (c : Nat) (w : World) (e : Ending) (w' : World) : Prop :=
  ∃ (r : R) (τ : Int × Int), F σ = (r, τ) ∧ e = .returned (.agg #[.int .i64 r.key, .int .i64 r.value, .int .i64 r.width]) ∧ Cur a len cap zs τ w' c ∧ Only c w w'
def widths : List Int := [0, 0, 1, 2, 3]
def rowS (zs : List Int) (len : Nat) (keys : Int) (σ : Int × Int) : R × (Int × Int) :=
  let x := belowS zs len keys σ
  let y := belowS zs len 100 x.2
  let z := pickS zs len widths y.2
  (⟨x.1, y.1, z.1⟩, z.2)
theorem pickS_mem (zs : List Int) (len : Nat) (L : List Int) (σ : Int × Int) (hL : 1 ≤ L.length) : (pickS zs len L σ).1 ∈ L := by
  unfold pickS
  simp only []
  have h := belowS_fst zs len (L.length : Nat) σ (by omega)
  rw [List.getD_eq_getElem?_getD, List.getElem?_eq_getElem (by omega)]
  exact List.getElem_mem _
def anyS (zs : List Int) (len : Nat) (σ : Int × Int) : R × (Int × Int) :=
  let r := rowS zs len 10 σ
  let v := belowS zs len 8 r.2
  if v.1 = 0 then (⟨(pickS zs len [-1, 10] v.2).1, r.1.value, r.1.width⟩, (pickS zs len [-1, 10] v.2).2)
  else if v.1 = 1 then (⟨r.1.key, (pickS zs len [-1, 100, 99] v.2).1, r.1.width⟩, (pickS zs len [-1, 100, 99] v.2).2)
  else if v.1 = 2 then (⟨r.1.key, r.1.value, (pickS zs len [-1, 4] v.2).1⟩, (pickS zs len [-1, 4] v.2).2)
  else (r.1, v.2)
end Go.Proofs.Ytfghhjcfmmhacaa
/- l2Rows, l2Bent: the rows that are drawn, as functions of the cursor's state. -/
namespace Go.Proofs.Ytfghhjcfmmhacaa
open Go.RowKit
def keysL : List Int := [1, 2, 4, 10]
def rowsLoop (zs : List Int) (len : Nat) (keys : Int) : Nat → List R → Int × Int → List R × (Int × Int)
  | 0, l, σ => (l, σ)
  | n + 1, l, σ => rowsLoop zs len keys n (l ++ [(rowS zs len keys σ).1]) (rowS zs len keys σ).2
def rowsS (zs : List Int) (len : Nat) (most : Int) (σ : Int × Int) : List R × (Int × Int) :=
  let k := pickS zs len keysL σ
  let n := belowS zs len (most + 1) k.2
  rowsLoop zs len k.1 n.1.toNat [] n.2
def bentS (zs : List Int) (len : Nat) (most : Int) (σ : Int × Int) : List R × (Int × Int) :=
  let l := rowsS zs len most σ
  let v := belowS zs len 14 l.2
  if v.1 = 0 then (l.1 ++ [(anyS zs len v.2).1], (anyS zs len v.2).2) else (l.1, v.2)
end Go.Proofs.Ytfghhjcfmmhacaa
/- One slice of rows, as a law's draw gives it. -/
namespace Go.Proofs.Ytfghhjcfmmhacaa
open Go.RowKit
def OneRows (w : World) (e : Ending) (w' : World) : Prop := ∃ (x : Option Addr) (n m : Nat) (L : List R), e = .returned (.slice x n m) ∧ n ≤ 1000 ∧ (∀ r ∈ L, r.wf) ∧ IsRows w' x n L ∧ Below w.heap.size w w'
end Go.Proofs.Ytfghhjcfmmhacaa
/- DrawReferenceJoin: what it gives. -/
namespace Go.Proofs.Ytfghhjcfmmhacaa
open Go.RowKit
end Go.Proofs.Ytfghhjcfmmhacaa
/- States told by trees: calls whose answer is one of several, rows that are drawn, a law's bytes. -/
namespace Go.Proofs.Ytfghhjcfmmhacaa.V
open Go Go.RowKit
set_option linter.unusedVariables false
variable {P : Program} {E : Env} {N nb : Nat} {σ σ' τ : VS} {o : Oper} {a : Act} {w : World} {G : Ghost} {Q : Exit → Act → World → Prop} {K : Act → World → Prop}
def VCE {Y : Type} (Φ : World → Prop) (Pr : Y → Prop) (P : Program) (f : FuncId) (ins : List (Bool × List T)) (tup : Bool) (rs : Y → List (Bool × List T)) : Prop := ∀ (w : World), Φ w → ∀ (vs : List Value), ArgsIn (Env.of w) w ins vs → Calls P f vs.toArray w fun e w' => ∃ y, Pr y ∧ Gives (Env.of w) tup (rs y) e w'
theorem SV.callE {Y : Type} {Φ : World → Prop} {Pr : Y → Prop} (hD : E.keeps Φ) {d : Nat} {f : FuncId} {xs : List Operand} {ats : Array TypeId} {qs : List (Bool × List T)} {tup : Bool} {rs : Y → List (Bool × List T)} {rest : List Oper} {ops : Array Oper} (ho : o.op = .call { callee := .value (.func f), args := xs.toArray, argTypes := ats }) (hb : ∃ fn c, P.funcs[f]? = some fn ∧ fn.body = some c ∧ fn.name ≠ "runtime.NumGoroutine")
    (hc : VCE Φ Pr P f qs tup rs) (hx : σ.argss xs qs) (hd : o.dst = some d) (hdN : d < N) (hg : o.guard = none) (k : ∀ y, Pr y → SV E N ((ansSs σ (rs y)).put d ⟨tup, ansLs σ.nx (rs y)⟩) (wpList P ops Q rest)) : SV E N σ (wpList P ops Q (o :: rest)) := fun a w G h => by
  refine wpList_step fun K hK => ?_
  rw [if_pos (by simp [Region.wanted, hg])]
  obtain ⟨fn, c, h1, h2, h2'⟩ := hb
  have hcall := hc w (hD.at h.below) (xs.map a.eval) (h.args hx)
  have hrun : (execOp a.eval o).run P w = .ok (.enter f (xs.map a.eval).toArray) w := by
    simp [execOp, ho, resolve, Act.eval, Deferred.ofValue, invoke, callFunc, h1, h2, h2', Result.andThen]
  unfold Oper.wp
  rw [hrun]
  refine hcall.mono fun e w' ⟨y0, hy0, uss, F, h3, h4, h5, h6, h6', h7'⟩ => ?_
  have h7 : Below w.heap.size w w' := ⟨h7'.os, h7'.tape, h7'.output, h7'.size, fun k hk => h7'.block k (Env.of_old.2 hk)⟩
  subst h4
  have h' := h.ext h7
  obtain ⟨G', k1, k2, k3, k4, k5, k6, k7, k8⟩ := h'.addAlls (rs y0) uss F h3 (fun c ag ts us hc hu => ⟨(h5 c ag ts us hc hu).1, fun j t u hj hu' => (h5 c ag ts us hc hu).2 j t u hj hu'⟩) (fun c j b hb => by
    have hbw : w.heap.size ≤ b := (h6' c j b hb).1.elim id fun h => h.elim
    exact ⟨⟨fun i hi hf => by have := (h.ftlt i b hi hf).2; omega, (h.fresh hbw).2⟩, .inl (Nat.le_trans h.low hbw), (h6' c j b hb).2⟩) h6
  rw [hd]
  refine hK _ _ (k y0 hy0 _ _ _ (k1.put hdN ⟨uss, h3.trans k3.symm, ?_, fun c ag xs us hc hu => ⟨(k4 c ag xs us hc hu).1, (k4 c ag xs us hc hu).2.2⟩⟩))
  congr 1
  apply List.ext_getElem?
  intro c
  rw [List.getElem?_zipWith, List.getElem?_zipWith]
  cases hq : (ansLs σ.nx (rs y0))[c]? with
  | none =>
    have : (rs y0)[c]? = none := by rw [List.getElem?_eq_none_iff] at hq ⊢; omega
    rw [this]
  | some q =>
    obtain ⟨ag, xs'⟩ := q
    have hcl : c < uss.length := by have := get_lt hq; omega
    obtain ⟨-, ⟨ts, hts⟩, -⟩ := k4 c ag xs' uss[c] hq (List.getElem?_eq_getElem hcl)
    rw [hts, List.getElem?_eq_getElem hcl]
end Go.Proofs.Ytfghhjcfmmhacaa.V
/- States told by trees: functions that draw from a cursor: a pinned box holds it. -/
namespace Go.Proofs.Ytfghhjcfmmhacaa.V
open Go Go.RowKit
set_option linter.unusedVariables false
variable {P : Program} {E : Env} {N nb : Nat} {σ σ' τ : VS} {o : Oper} {a : Act} {w : World} {G : Ghost} {Q : Exit → Act → World → Prop} {K : Act → World → Prop} {ad : Option Addr} {len cap : Nat} {zs : List Int}
def Env.code (E : Env) (ad : Option Addr) (len cap : Nat) (zs : List Int) : Prop := Code ad len cap zs E.w0 ∧ ∀ x, ad = some x → 0 < cap → ¬ E.ln x.block
theorem Env.code.at (h : E.code ad len cap zs) (hs : Same E E.w0 w) : Code ad len cap zs w :=
  ⟨h.1.row.keep fun x hx hp _ => hs.block x.block ⟨h.1.old x hx hp, h.2 x hx hp⟩, h.1.small, fun x hx hp => Nat.lt_of_lt_of_le (h.1.old x hx hp) hs.size⟩
def curL (ad : Option Addr) (len cap : Nat) (p h : Int) : List Leaf := [.sc (.slice ad len cap), .sc (.int .i64 p), .sc (.int .i64 h)]
def GivesC (w : World) (c : Nat) (tup : Bool) (rs : List (Bool × List T)) (e : Ending) (w' : World) : Prop :=
  ∃ (uss : List (List Value)) (F : Nat → Nat → Nat → Prop), uss.length = rs.length ∧ e = .returned (vval tup (List.zipWith (fun r us => cval r.1 us) rs uss)) ∧
    (∀ (c' : Nat) (ag : Bool) (ts : List T) (us : List Value), rs[c']? = some (ag, ts) → uss[c']? = some us → us.length = ts.length ∧ ∀ (j : Nat) (t : T) (u : Value), ts[j]? = some t → us[j]? = some u → Own w' 0 t u (F c' j)) ∧
    (∀ c1 j c2 j' b, F c1 j b → F c2 j' b → c1 = c2 ∧ j = j') ∧ (∀ c1 j b, F c1 j b → w.heap.size ≤ b ∧ b < w'.heap.size) ∧ Only c w w'
def VK {Y : Type} (ad : Option Addr) (len cap : Nat) (zs : List Int) (Pr : Y → Prop) (P : Program) (f : FuncId) (xs : List Value) (tup : Bool) (rs : Y → List (Bool × List T)) : Prop :=
  ∀ (w : World) (c : Nat) (σ : Int × Int), Code ad len cap zs w → Cur ad len cap zs σ w c → Calls P f (Value.pointer (some ⟨c, 0, none⟩) :: xs).toArray w fun e w' => ∃ y τ, Pr y ∧ Cur ad len cap zs τ w' c ∧ GivesC w c tup (rs y) e w'
theorem givesC_lit {c : Nat} {w' : World} {v : Value} (h1 : v.oneCell' = true) (h : Only c w w') : GivesC w c false [(false, [.lit v])] (.returned v) w' :=
  ⟨[[v]], fun _ _ _ => False, rfl, rfl, fun c' ag ts us hc hu => by
    match c', hc, hu with
    | 0, hc, hu => cases hc; cases hu; exact ⟨rfl, fun j t u h2 h3 => by match j, h2, h3 with | 0, h2, h3 => cases h2; cases h3; exact .lit h1⟩, fun _ _ _ _ _ h => h.elim, fun _ _ _ h => h.elim, h⟩
theorem vk_below (n : Int) (h1 : 1 ≤ n) (h2 : n ≤ 1000000000) : VK ad len cap zs (fun x : Int => 0 ≤ x ∧ x < n) Try.prog 65 [.int .i64 n] false fun x => [(false, [.lit (.int .i64 x)])] := fun w c σ hC hc =>
  (below_any ad len cap zs σ c w hc n h1 h2).mono fun e w' ⟨x, τ, hf, he, hc', ho⟩ => ⟨x, τ, belowS_range h1 hf, hc', by rw [he]; exact givesC_lit rfl ho⟩
theorem Rel.answer (h : Rel E N σ a w G) {fn : Func} {rs : List ResultVar} {ps : List (Bool × List Leaf)} {tup : Bool} {qs : List (Bool × List T)} (hf : fn.results = rs.toArray) (hr : ResAll P σ rs ps) (ho : σ.outss ps qs) (ht : (!(Nat.beq qs.length 1)) = tup) (h2 : (ps.flatMap (·.2)).Pairwise two) : a.defers = [] ∧ ∃ v, (results fn a.tmps).run P w = .ok v w ∧ ∃ (uss : List (List Value)) (F : Nat → Nat → Nat → Prop), uss.length = qs.length ∧ Ending.returned v = .returned (vval tup (List.zipWith (fun (r : Bool × List T) us => cval r.1 us) qs uss)) ∧
    (∀ (c : Nat) (ag : Bool) (ts : List T) (us : List Value), qs[c]? = some (ag, ts) → uss[c]? = some us → us.length = ts.length ∧ ∀ (j : Nat) (t : T) (u : Value), ts[j]? = some t → us[j]? = some u → Own w 0 t u (F c j)) ∧
    (∀ c j c' j' b, F c j b → F c' j' b → c = c' ∧ j = j') ∧ ∀ c j b, F c j b → ∃ i, σ.ob i ≠ none ∧ G.ft i b := by
  obtain ⟨uss, h3, h4, h5⟩ := h.resAll hr
  obtain ⟨h6, h7⟩ := outss_get ho
  have hrun := results_run hf h4
  have hlen : (List.zipWith (fun (p : Bool × List Leaf) us => cval p.1 us) ps uss).length = qs.length := by simp [h3, h6]
  have hag : ∀ c ag ts, qs[c]? = some (ag, ts) → ∃ xs, ps[c]? = some (ag, xs) ∧ σ.outs xs ts := h7
  have hzip : List.zipWith (fun (p : Bool × List Leaf) us => cval p.1 us) ps uss = List.zipWith (fun (q : Bool × List T) us => cval q.1 us) qs uss := by
    apply List.ext_getElem?
    intro c
    rw [List.getElem?_zipWith, List.getElem?_zipWith]
    cases hq : qs[c]? with
    | none =>
      have : ps[c]? = none := by rw [List.getElem?_eq_none_iff] at hq ⊢; omega
      rw [this]
    | some q =>
      obtain ⟨ag, ts⟩ := q
      obtain ⟨xs, hp, -⟩ := hag c ag ts hq
      rw [hp]
      cases uss[c]? <;> rfl
  rw [hlen, ht, hzip] at hrun
  refine ⟨h.dfr, _, hrun, uss, (fun c j b => ∃ ag xs x, ps[c]? = some (ag, xs) ∧ xs[j]? = some x ∧ x.foot G b), h3.trans h6, rfl, fun c ag ts us hq hu => ?_, ?_, ?_⟩
  · obtain ⟨xs, hp, hx⟩ := hag c ag ts hq
    obtain ⟨h8, h9⟩ := outs_get hx
    obtain ⟨h10, h11⟩ := h5 c ag xs us hp hu
    refine ⟨h10.trans h8, fun j t u hj hu' => ?_⟩
    obtain ⟨x, hx1, hx2⟩ := h9 j t hj
    exact (h.out (h11 j x u hx1 hu') hx2).mono fun b hb => ⟨ag, xs, x, hp, hx1, hb⟩
  · rintro c j c' j' b ⟨ag, xs, x, h8, h9, h10⟩ ⟨ag', xs', x', h8', h9', h10'⟩
    have key : ∀ {x x' : Leaf}, x.foot G b → x'.foot G b → (∃ t, σ.out x = some t) → (∃ t, σ.out x' = some t) → ¬ two x x' := fun {x x'} k1 k2 k3 k4 k5 => by
      cases x with
      | hd i =>
        cases x' with
        | hd i' =>
          by_cases hii : i = i'
          · exact k5 i rfl (by rw [hii])
          · obtain ⟨t, k3⟩ := k3
            obtain ⟨t', k4⟩ := k4
            obtain ⟨p, e1, -⟩ := Option.map_eq_some_iff.1 k3
            obtain ⟨p', e2, -⟩ := Option.map_eq_some_iff.1 k4
            exact h.disj i i' b (by rw [e1]; simp) (by rw [e2]; simp) hii k1 k2
        | _ => exact k2
      | _ => exact k1
    have hout : ∀ {c j ag xs x}, ps[c]? = some (ag, xs) → xs[j]? = some x → ∃ t, σ.out x = some t := fun {c j ag xs x} k1 k2 => by
      have hc : c < qs.length := by rw [← h6]; exact get_lt k1
      obtain ⟨xs', k3, k4⟩ := hag c qs[c].1 qs[c].2 (by rw [List.getElem?_eq_getElem hc])
      rw [k1] at k3
      cases k3
      obtain ⟨k5, k6⟩ := outs_get k4
      have hj : j < qs[c].2.length := by rw [← k5]; exact get_lt k2
      obtain ⟨y, k7, k8⟩ := k6 j qs[c].2[j] (List.getElem?_eq_getElem hj)
      rw [k2] at k7
      cases k7
      exact ⟨_, k8⟩
    rw [List.pairwise_flatMap] at h2
    have o1 := hout h8 h9
    have o2 := hout h8' h9'
    have hc1 := get_lt h8
    have hc2 := get_lt h8'
    have g1 : ps[c] = (ag, xs) := by rw [List.getElem?_eq_getElem hc1] at h8; exact Option.some.inj h8
    have g2 : ps[c'] = (ag', xs') := by rw [List.getElem?_eq_getElem hc2] at h8'; exact Option.some.inj h8'
    have m1 := get_mem h9
    have m2 := get_mem h9'
    rcases Nat.lt_trichotomy c c' with hcc | hcc | hcc
    · have := (List.pairwise_iff_getElem.1 h2.2) c c' hc1 hc2 hcc x (by rw [g1]; exact m1) x' (by rw [g2]; exact m2)
      exact absurd this (key h10 h10' o1 o2)
    · subst hcc
      rw [h8] at h8'
      cases h8'
      refine ⟨rfl, ?_⟩
      have hp := h2.1 _ (get_mem h8)
      have hj1 := get_lt h9
      have hj2 := get_lt h9'
      have x1 : xs[j] = x := by rw [List.getElem?_eq_getElem hj1] at h9; exact Option.some.inj h9
      have x2 : xs[j'] = x' := by rw [List.getElem?_eq_getElem hj2] at h9'; exact Option.some.inj h9'
      rcases Nat.lt_trichotomy j j' with hjj | hjj | hjj
      · have := (List.pairwise_iff_getElem.1 hp) j j' hj1 hj2 hjj
        rw [x1, x2] at this
        exact absurd this (key h10 h10' o1 o2)
      · exact hjj
      · have := (List.pairwise_iff_getElem.1 hp) j' j hj2 hj1 hjj
        rw [x1, x2] at this
        exact absurd this (key h10' h10 o2 o1)
    · have := (List.pairwise_iff_getElem.1 h2.2) c' c hc2 hc1 hcc x' (by rw [g2]; exact m2) x (by rw [g1]; exact m1)
      exact absurd this (key h10' h10 o2 o1)
  · rintro c j b ⟨ag, xs, x, h8, h9, h10⟩
    have hc : c < qs.length := by rw [← h6]; exact get_lt h8
    obtain ⟨xs', k3, k4⟩ := hag c qs[c].1 qs[c].2 (by rw [List.getElem?_eq_getElem hc])
    rw [h8] at k3
    cases k3
    obtain ⟨k5, k6⟩ := outs_get k4
    have hj : j < qs[c].2.length := by rw [← k5]; exact get_lt h9
    obtain ⟨y, k7, k8⟩ := k6 j qs[c].2[j] (List.getElem?_eq_getElem hj)
    rw [h9] at k7
    cases k7
    cases x with
    | hd i =>
      obtain ⟨p, e1, -⟩ := Option.map_eq_some_iff.1 k8
      exact ⟨i, by rw [e1]; simp, h10⟩
    | _ => exact h10.elim
theorem Rel.newbox (h : Rel E N σ a w G) {w' : World} {c : Nat} (hb : Below w.heap.size w w') (hge : w.heap.size ≤ c) {ty : TypeId} {us : List Value} {xs : List Leaf} (hnew : w'.heap[c]? = some (.cells us.toArray ty (0, 0))) (hl : us.length = xs.length) (hx : ∀ (j : Nat) (x : Leaf) (u : Value), xs[j]? = some x → us[j]? = some u → Holds G σ E w x u ∧ u.oneCell' = true) :
    ∃ G', Rel E N { σ with bs := σ.bs ++ [(ty, xs)] } a w' G' ∧ G'.β σ.bs.length = c ∧ G'.vl = G.vl ∧ ∀ b, b < σ.bs.length → G'.β b = G.β b := by
  have h' := h.ext hb
  have hlt : ∀ b ty xs, σ.bs[b]? = some (ty, xs) → G.β b < w.heap.size := fun b ty xs hb => by
    obtain ⟨-, us, h2, -⟩ := h.boxes b ty xs hb
    exact lt_of_block h2
  have hlt' : ∀ b, b < σ.bs.length → G.β b < w.heap.size := fun b hb => hlt b _ _ (List.getElem?_eq_getElem hb)
  obtain ⟨G', hG'⟩ : ∃ G' : Ghost, G' = { G with β := fun b => if b = σ.bs.length then c else G.β b } := ⟨_, rfl⟩
  have hβ : ∀ b, b < σ.bs.length → G'.β b = G.β b := fun b hb => by rw [hG']; exact if_neg (by omega)
  have hβ' : G'.β σ.bs.length = c := by rw [hG']; exact if_pos rfl
  have hvl : G'.vl = G.vl := by rw [hG']
  have hft : G'.ft = G.ft := by rw [hG']
  have s : Step E σ { σ with bs := σ.bs ++ [(ty, xs)] } w' w' G G' := ⟨Nat.le_refl _, fun b hb' => rfl, Nat.le_refl _, by simp, fun i _ => by rw [hvl], hβ,
    fun i v' t' hi hv => ⟨v', t', hv, Nat.le_refl _, fun _ => ⟨rfl, fun b hb' => (h'.ftlt i b (by rw [show σ.ob i = some (v', t') from hv]; simp) hb').2, fun b hb' => ⟨by rw [hft]; exact hb', rfl⟩⟩⟩⟩
  refine ⟨G', ⟨h'.below, h.dfr, h.nsz, fun k => (h'.tmps k).step fun x u hx => h'.leaf s hx, fun b ty' xs' hb' => ?_, fun b b' hb1 hb2 e => ?_, fun b i hb1 hi hb2 => ?_, fun i v t hi => ?_, ?_, ?_, ⟨h.lent.1, fun i hi => by rw [hvl]; exact h.lent.2.1 i hi, fun c' hc => ⟨by simp, (hβ 0 (h.lent.2.2 c' hc).1).trans (h.lent.2.2 c' hc).2⟩⟩⟩, hβ', hvl, hβ⟩
  · rcases Nat.lt_or_ge b σ.bs.length with hbl | hbl
    · have hb2 : σ.bs[b]? = some (ty', xs') := by rw [List.getElem?_append_left hbl] at hb'; exact hb'
      obtain ⟨h1, us', h2, h3, h4⟩ := h'.boxes b ty' xs' hb2
      rw [hβ b hbl]
      exact ⟨h1, us', h2, h3, fun j x u hx' hu => ⟨h'.leaf s (h4 j x u hx' hu).1, (h4 j x u hx' hu).2⟩⟩
    · have hbe : b = σ.bs.length := by have := get_lt hb'; simp at this; omega
      subst hbe
      have he : (ty, xs) = (ty', xs') := by simpa using hb'
      injection he with e1 e2
      subst e1 e2
      rw [hβ']
      refine ⟨.inl (Nat.le_trans h.low hge), us, hnew, hl, fun j x u hx' hu => ⟨?_, (hx j x u hx' hu).2⟩⟩
      have s0 : Step E σ σ w w' G G := ⟨hb.size, fun b hb' => hb.block b (Nat.lt_of_lt_of_le hb'.1 h.low), Nat.le_refl _, Nat.le_refl _, fun _ _ => rfl, fun _ _ => rfl,
        fun i v' t' hi hv => ⟨v', t', hv, Nat.le_refl _, fun _ => ⟨rfl, fun b hb' => (h.ftlt i b (by rw [hv]; simp) hb').2, fun b hb' => ⟨hb', hb.block b (h.ftlt i b (by rw [hv]; simp) hb').2⟩⟩⟩⟩
      exact h'.leaf s (h.leaf s0 (hx j x u hx' hu).1)
  · have hb1' : b ≤ σ.bs.length := by simpa [Nat.lt_succ_iff] using hb1
    have hb2' : b' ≤ σ.bs.length := by simpa [Nat.lt_succ_iff] using hb2
    rcases Nat.lt_or_ge b σ.bs.length with hbl | hbl <;> rcases Nat.lt_or_ge b' σ.bs.length with hbl' | hbl'
    · rw [hβ b hbl, hβ b' hbl'] at e
      exact h.inj b b' hbl hbl' e
    · rw [hβ b hbl, show b' = σ.bs.length by omega, hβ'] at e
      have := hlt' b hbl
      omega
    · rw [hβ b' hbl', show b = σ.bs.length by omega, hβ'] at e
      have := hlt' b' hbl'
      omega
    · omega
  · have hb1' : b ≤ σ.bs.length := by simpa [Nat.lt_succ_iff] using hb1
    rw [hft] at hb2
    rcases Nat.lt_or_ge b σ.bs.length with hbl | hbl
    · rw [hβ b hbl] at hb2
      exact h.boxft b i hbl hi hb2
    · rw [show b = σ.bs.length by omega, hβ'] at hb2
      have := (h.ftlt i _ hi hb2).2
      omega
  · rw [hvl, hft]; exact h'.objs i v t hi
  · rw [hft]; exact h'.disj
  · rw [hft]; exact h'.ftlt
theorem wanted0 {f : Nat → Option Bool} (hg : o.guard = none) : Region.wanted o f = true := by simp [Region.wanted, hg]
theorem callK_core {Y : Type} {Pr : Y → Prop} (hC : E.code ad len cap zs) {d b : Nat} {f : FuncId} {x0 : Operand} {xs : List Operand} {us : List Value} {ats : Array TypeId} {tup : Bool} {rs : Y → List (Bool × List T)} {p h0 : Int} (ho : o.op = .call { callee := .value (.func f), args := (x0 :: xs).toArray, argTypes := ats }) (hb : ∃ fn c, P.funcs[f]? = some fn ∧ fn.body = some c ∧ fn.name ≠ "runtime.NumGoroutine")
    (hc : VK ad len cap zs Pr P f us tup rs) (hx0 : σ.ev x0 = V.one (.bp b 0)) (hx : σ.scs xs us) (hbx : σ.bs[b]? = some (85, curL ad len cap p h0)) (hp : 0 ≤ p ∧ p ≤ len) (hd : o.dst = some d) (hdN : d < N) {a : Act} {w : World} {G : Ghost} (h : Rel E N σ a w G) {K : Act → World → Prop} (hK : ∀ (y : Y) (p' h' : Int) (a' : Act) (w' : World) (G' : Ghost), Pr y → 0 ≤ p' ∧ p' ≤ len → Rel E N ((ansSs (σ.setb b 85 (curL ad len cap p' h')) (rs y)).put d ⟨tup, ansLs σ.nx (rs y)⟩) a' w' G' → Only (G.β b) w w' → (∀ i, i < σ.nx → G'.vl i = G.vl i) → G'.β = G.β → σ.nx ≤ (ansSs (σ.setb b 85 (curL ad len cap p' h')) (rs y)).nx → K a' w') : o.wp P a w K Q := by
  obtain ⟨fn, c, h1, h2, h2'⟩ := hb
  obtain ⟨hB, us0, b1, b2, b3⟩ := h.boxes b _ _ hbx
  have hus0 : us0 = [.slice ad len cap, .int .i64 p, .int .i64 h0] := by
    match us0, b2 with
    | [u, v, z], _ =>
      have e1 : u = .slice ad len cap := (b3 0 _ u rfl rfl).1.1
      have e2 : v = .int .i64 p := (b3 1 _ v rfl rfl).1.1
      have e3 : z = .int .i64 h0 := (b3 2 _ z rfl rfl).1.1
      rw [e1, e2, e3]
  subst hus0
  have hcode := hC.at h.below
  have hcur : Cur ad len cap zs (p, h0) w (G.β b) := ⟨hcode.row, fun x hx hpos e => by
    have hlt := hC.1.old x hx hpos
    rcases hB with hB | hB
    · rw [← e] at hB; exact absurd hlt (Nat.not_lt.2 hB)
    · rw [← e] at hB; exact hC.2 x hx hpos hB, hp.1, hp.2, b1⟩
  have hcall := hc w (G.β b) (p, h0) hcode hcur
  have hx0v : a.eval x0 = .pointer (some ⟨G.β b, 0, none⟩) := by
    have := h.ev x0
    rw [hx0, vone] at this
    exact this.1.2
  have hev : (x0 :: xs).map a.eval = Value.pointer (some ⟨G.β b, 0, none⟩) :: us := by rw [List.map_cons, hx0v, (h.scs hx).1]
  have hrun : (execOp a.eval o).run P w = .ok (.enter f ((x0 :: xs).map a.eval).toArray) w := by
    simp [execOp, ho, resolve, Act.eval, Deferred.ofValue, invoke, callFunc, h1, h2, h2', Result.andThen]
  unfold Oper.wp
  rw [hrun, hev]
  refine hcall.mono fun e w' ⟨y0, τ0, hy0, hcur', uss, F, h3, h4, h5, h6, h6', h7'⟩ => ?_
  subst h4
  obtain ⟨p', h'0⟩ := τ0
  have hβlt : G.β b < w.heap.size := lt_of_block b1
  obtain ⟨w1, hw1⟩ : ∃ w1 : World, w1 = { w with heap := w.heap.setIfInBounds (G.β b) (.cells #[.slice ad len cap, .int .i64 p', .int .i64 h'0] 85 (0, 0)) } := ⟨_, rfl⟩
  have hsz1 : w1.heap.size = w.heap.size := by rw [hw1]; simp
  have hfar : ∀ k, k ≠ G.β b → w1.heap[k]? = w.heap[k]? := fun k hk => by rw [hw1]; simp [Array.getElem?_setIfInBounds_ne (Ne.symm hk)]
  have hnew1 : w1.heap[G.β b]? = some (.cells #[.slice ad len cap, .int .i64 p', .int .i64 h'0] 85 (0, 0)) := by rw [hw1]; simp [hβlt]
  have hsame1 : Same E w w1 := ⟨by rw [hw1], by rw [hw1], by rw [hw1], by rw [hsz1]; exact Nat.le_refl _, fun k hk => hfar k fun e => by
    subst e
    exact hB.elim (fun hB => Nat.lt_irrefl _ (Nat.lt_of_lt_of_le hk.1 hB)) hk.2⟩
  have hr1 := h.setbox (us' := [.slice ad len cap, .int .i64 p', .int .i64 h'0]) (xs' := curL ad len cap p' h'0) (w' := w1) hbx hsame1 hfar hnew1 rfl fun j x u hj hu => by
    match j, hj, hu with
    | 0, hj, hu => cases hj; cases hu; exact ⟨⟨rfl, .inr rfl⟩, rfl⟩
    | 1, hj, hu => cases hj; cases hu; exact ⟨⟨rfl, .inr rfl⟩, rfl⟩
    | 2, hj, hu => cases hj; cases hu; exact ⟨⟨rfl, .inr rfl⟩, rfl⟩
  have h7 : Below w1.heap.size w1 w' := ⟨by rw [h7'.os, hw1], by rw [h7'.tape, hw1], by rw [h7'.output, hw1], by rw [hsz1]; exact h7'.size, fun k hk => by
    by_cases hkb : k = G.β b
    · subst hkb; exact hcur'.cell.trans hnew1.symm
    · rw [hfar k hkb]; exact h7'.block k (by rw [hsz1] at hk; exact hk) fun e => hkb (Option.some.inj e)⟩
  have h' := hr1.ext h7
  have hfresh : ∀ q, w.heap.size ≤ q → Fresh σ G q := fun q hq => h.fresh hq
  obtain ⟨G', k1, k2, k3, k4, k5, k6, k7, k8⟩ := Rel.addAlls (rs y0) uss F h' h3 (fun c ag ts us hc hu => ⟨(h5 c ag ts us hc hu).1, fun j t u hj hu' => (h5 c ag ts us hc hu).2 j t u hj hu'⟩) (fun c j b hb => by
    have hbw : w.heap.size ≤ b := (h6' c j b hb).1
    exact ⟨⟨fun i hi hf => by have := (h.ftlt i b hi hf).2; omega, fun q hq => (h.fresh hbw).2 q (by simpa using hq)⟩, .inl (Nat.le_trans h.low hbw), (h6' c j b hb).2⟩) h6
  have k3 : (ansLs σ.nx (rs y0)).length = (rs y0).length := k3
  rw [hd]
  refine hK y0 p' h'0 _ _ _ hy0 ⟨hcur'.low, hcur'.high⟩ (k1.put hdN ⟨uss, h3.trans k3.symm, ?_, fun c ag xs us hc hu => ⟨(k4 c ag xs us hc hu).1, (k4 c ag xs us hc hu).2.2⟩⟩) h7' k6 k7 k5
  congr 1
  apply List.ext_getElem?
  intro c
  rw [List.getElem?_zipWith, List.getElem?_zipWith]
  cases hq : (ansLs σ.nx (rs y0))[c]? with
  | none =>
    have : (rs y0)[c]? = none := by rw [List.getElem?_eq_none_iff] at hq ⊢; omega
    rw [this]
  | some q =>
    obtain ⟨ag, xs'⟩ := q
    have hcl : c < uss.length := by have := get_lt hq; omega
    obtain ⟨-, ⟨ts, hts⟩, -⟩ := k4 c ag xs' uss[c] hq (List.getElem?_eq_getElem hcl)
    rw [hts, List.getElem?_eq_getElem hcl]
theorem SV.callK {Y : Type} {Pr : Y → Prop} (hC : E.code ad len cap zs) {d b : Nat} {f : FuncId} {x0 : Operand} {xs : List Operand} {us : List Value} {ats : Array TypeId} {tup : Bool} {rs : Y → List (Bool × List T)} {rest : List Oper} {ops : Array Oper} {p h0 : Int} (ho : o.op = .call { callee := .value (.func f), args := (x0 :: xs).toArray, argTypes := ats }) (hb : ∃ fn c, P.funcs[f]? = some fn ∧ fn.body = some c ∧ fn.name ≠ "runtime.NumGoroutine")
    (hc : VK ad len cap zs Pr P f us tup rs) (hx0 : σ.ev x0 = V.one (.bp b 0)) (hx : σ.scs xs us) (hbx : σ.bs[b]? = some (85, curL ad len cap p h0)) (hp : 0 ≤ p ∧ p ≤ len) (hd : o.dst = some d) (hdN : d < N) (hw : ∀ {a w G}, Rel E N σ a w G → Region.wanted o (yielded ops a.tmps) = true)
    (k : ∀ (y : Y) (p' h' : Int), Pr y → 0 ≤ p' ∧ p' ≤ len → SV E N ((ansSs (σ.setb b 85 (curL ad len cap p' h')) (rs y)).put d ⟨tup, ansLs σ.nx (rs y)⟩) (wpList P ops Q rest)) : SV E N σ (wpList P ops Q (o :: rest)) := fun a w G h => by
  refine wpList_step fun K hK => ?_
  rw [if_pos (hw h)]
  exact callK_core hC ho hb hc hx0 hx hbx hp hd hdN h fun y p' h' a' w' G' hy hp' hr _ _ _ _ => hK _ _ (k y p' h' hy hp' _ _ _ hr)
theorem SV.callNew (hC : E.code ad len cap zs) {d kk : Nat} {x0 : Operand} {ats : Array TypeId} {rest : List Oper} {ops : Array Oper} (hk : σ.bs.length = kk) (hb0 : ∃ fn c, Try.prog.funcs[49]? = some fn ∧ fn.body = some c ∧ fn.name ≠ "runtime.NumGoroutine") (ho : o.op = .call { callee := .value (.func 49), args := #[x0], argTypes := ats }) (hx0 : σ.ev x0 = V.one (.sc (.slice ad len cap))) (hd : o.dst = some d) (hdN : d < N) (hg : o.guard = none)
    (k : ∀ h0 : Int, SV E N (({ σ with bs := σ.bs ++ [(85, curL ad len cap 0 h0)] } : VS).put d (V.one (.bp kk 0))) (wpList Try.prog ops Q rest)) : SV E N σ (wpList Try.prog ops Q (o :: rest)) := fun a w G h => by
  subst hk
  refine wpList_step fun K hK => ?_
  rw [if_pos (by simp [Region.wanted, hg])]
  have hcode := hC.at h.below
  have hx0v : a.eval x0 = .slice ad len cap := h.sc hx0
  have hrun : (execOp a.eval o).run Try.prog w = .ok (.enter 49 #[.slice ad len cap]) w := by
    obtain ⟨fn, c, h1, h2, h2'⟩ := hb0
    have e0 : a.eval (.func 49) = .func (.func 49) #[] #[] := rfl
    simp [execOp, ho, hx0v, e0, resolve, Deferred.ofValue, invoke, callFunc, h1, h2, h2', Result.andThen]
  unfold Oper.wp
  rw [hrun]
  refine (new_any ad len cap zs w hcode.row hcode.small hcode.old).mono fun e w' ⟨c, he, hcur, hge, hb⟩ => ?_
  subst he
  obtain ⟨G', k1, k2, k3, k4⟩ := h.newbox (us := [.slice ad len cap, .int .i64 0, .int .i64 (newH zs len)]) (xs := curL ad len cap 0 (newH zs len)) hb hge hcur.cell rfl fun j x u hj hu => by
    match j, hj, hu with
    | 0, hj, hu => cases hj; cases hu; exact ⟨⟨rfl, .inr rfl⟩, rfl⟩
    | 1, hj, hu => cases hj; cases hu; exact ⟨⟨rfl, .inr rfl⟩, rfl⟩
    | 2, hj, hu => cases hj; cases hu; exact ⟨⟨rfl, .inr rfl⟩, rfl⟩
  rw [hd]
  exact hK _ _ (k (newH zs len) _ _ _ (k1.put hdN (vone.2 ⟨⟨by simp, by rw [k2]⟩, .inr rfl⟩)))
theorem SV.doneE {Y : Type} {Pr : Y → Prop} {fn : Func} {rvs : List ResultVar} {ps : List (Bool × List Leaf)} {tup : Bool} {rs : Y → List (Bool × List T)} (y : Y) (hy : Pr y) (hf : fn.results = rvs.toArray) (hr : ResAll P σ rvs ps) (ho : σ.outss ps (rs y)) (ht : (!(Nat.beq (rs y).length 1)) = tup) (h2 : (ps.flatMap (·.2)).Pairwise two) {e : Exit} (he : e = .ret ∨ e = .normal) : SV E N σ (bodyPost P fn (fun e w' => ∃ y, Pr y ∧ Gives E tup (rs y) e w') e) := fun a w G h => by
  have h1 := SV.done (P := P) (E := E) (N := N) (σ := σ) hf hr ho ht h2 he a w G h
  rcases he with rfl | rfl
  all_goals
    obtain ⟨h3, v, h4, h5⟩ := h1
    exact ⟨h3, v, h4, y, hy, h5⟩
theorem SV.doneK {Y : Type} {Pr : Y → Prop} {fn : Func} {rvs : List ResultVar} {ps : List (Bool × List Leaf)} {tup : Bool} {rs : Y → List (Bool × List T)} {c : Nat} {p h0 : Int} (hC : E.code ad len cap zs) (hpin : E.pin = some c ∧ ∀ b, E.ln b → b = c) (y : Y) (hy : Pr y) (hbx : σ.bs[0]? = some (85, curL ad len cap p h0)) (hp : 0 ≤ p ∧ p ≤ len) (hf : fn.results = rvs.toArray) (hr : ResAll P σ rvs ps) (ho : σ.outss ps (rs y)) (ht : (!(Nat.beq (rs y).length 1)) = tup) (h2 : (ps.flatMap (·.2)).Pairwise two) {e : Exit} (he : e = .ret ∨ e = .normal) :
    SV E N σ (bodyPost P fn (fun e w' => ∃ y τ, Pr y ∧ Cur ad len cap zs τ w' c ∧ GivesC E.w0 c tup (rs y) e w') e) := fun a w G h => by
  obtain ⟨g1, v, g2, uss, F, g3, g4, g5, g6, g7⟩ := h.answer hf hr ho ht h2
  obtain ⟨hB, us0, b1, b2, b3⟩ := h.boxes 0 _ _ hbx
  obtain ⟨-, hβ⟩ := h.lent.2.2 c hpin.1
  have hus0 : us0 = [.slice ad len cap, .int .i64 p, .int .i64 h0] := by
    match us0, b2 with
    | [u, v, z], _ =>
      have e1 : u = .slice ad len cap := (b3 0 _ u rfl rfl).1.1
      have e2 : v = .int .i64 p := (b3 1 _ v rfl rfl).1.1
      have e3 : z = .int .i64 h0 := (b3 2 _ z rfl rfl).1.1
      rw [e1, e2, e3]
  subst hus0
  rw [hβ] at hB b1
  have hcur : Cur ad len cap zs (p, h0) w c := ⟨(hC.at h.below).row, fun x hx hpos e => by
    have hlt := hC.1.old x hx hpos
    rcases hB with hB | hB
    · rw [← e] at hB; exact absurd hlt (Nat.not_lt.2 hB)
    · rw [← e] at hB; exact hC.2 x hx hpos hB, hp.1, hp.2, b1⟩
  have hpost : a.defers = [] ∧ ∃ v, (results fn a.tmps).run P w = .ok v w ∧ ∃ y τ, Pr y ∧ Cur ad len cap zs τ w c ∧ GivesC E.w0 c tup (rs y) (.returned v) w :=
    ⟨g1, v, g2, y, (p, h0), hy, hcur, uss, F, g3, g4, g5, g6, fun c1 j b hb => by
      obtain ⟨i, hi, hft⟩ := g7 c1 j b hb
      obtain ⟨m1, m2⟩ := h.ftlt i b hi hft
      refine ⟨m1.elim id fun hl => ?_, m2⟩
      have := hpin.2 b hl
      subst this
      rw [← hβ] at hft
      exact absurd hft (h.boxft 0 i (get_lt hbx) hi), ⟨h.below.os, h.below.tape, h.below.output, h.below.size, fun k hk hne => h.below.block k ⟨hk, fun hl => hne (by rw [hpin.2 k hl])⟩⟩⟩
  rcases he with rfl | rfl <;> exact hpost
theorem VK.enter {Y : Type} {Pr : Y → Prop} {f : FuncId} {fn : Func} {c0 : Go.Code} {n : Nat} {us : List Value} {tup : Bool} {rs : Y → List (Bool × List T)} (hf : P.funcs[f]? = some fn) (hb : fn.body = some c0) (hn : fn.ntmps = n) (hl : us.length + 1 ≤ n) (hone : ∀ u ∈ us, u.oneCell' = true)
    (h : ∀ (E : Env) (c : Nat) (p h0 : Int), E.nl = 0 → E.code ad len cap zs → (E.pin = some c ∧ ∀ b, E.ln b → b = c) → 0 ≤ p ∧ p ≤ len → SV E n ⟨fun s => (V.one (.bp 0 0) :: us.map fun u => V.one (.sc u)).getD s (V.one .dead), [(85, curL ad len cap p h0)], fun _ => none, 0⟩ (c0.wp P (bodyPost P fn fun e w' => ∃ y τ, Pr y ∧ Cur ad len cap zs τ w' c ∧ GivesC E.w0 c tup (rs y) e w'))) : VK ad len cap zs Pr P f us tup rs := fun w c σ hcode hcur => by
  refine calls_of_wp hf hb ?_
  obtain ⟨p, h0⟩ := σ
  obtain ⟨E, hE⟩ : ∃ E : Env, E = ⟨w, fun b => b = c, fun b hb => by rw [hb]; exact hcur.lt, fun _ => undef, 0, some c⟩ := ⟨_, rfl⟩
  have hEC : E.code ad len cap zs := by subst hE; exact ⟨hcode, fun x hx hp e => hcur.apart x hx hp e⟩
  have h1 := h E c p h0 (by rw [hE]) hEC (by subst hE; exact ⟨rfl, fun b hb => hb⟩) ⟨hcur.low, hcur.high⟩ { tmps := (Value.pointer (some ⟨c, 0, none⟩) :: us).toArray ++ Array.replicate (n - (us.length + 1)) undef, defers := [] } w ⟨fun _ => c, fun _ => undef, fun _ _ => False⟩ (by
    subst hE
    refine ⟨Same.refl _ _, rfl, by simp; omega, fun s => ?_, fun b ty xs hb => ?_, fun b b' hb hb' _ => (by simp at hb hb'; omega), fun b i hb hi => absurd rfl hi, fun i v t hi => (by cases hi), fun i j b hi => absurd rfl hi, fun i b hi => absurd rfl hi, ⟨Nat.le_refl _, fun i hi => absurd hi (Nat.not_lt_zero i), fun c' hc' => ⟨by simp, Option.some.inj hc'⟩⟩⟩
    · rcases Nat.lt_or_ge s (us.length + 1) with hs | hs
      · have e2 : ((Value.pointer (some ⟨c, 0, none⟩) :: us).toArray ++ Array.replicate (n - (us.length + 1)) undef).getD s undef = (Value.pointer (some ⟨c, 0, none⟩) :: us).getD s undef := by
          simp only [Array.getD_eq_getD_getElem?]
          rw [Array.getElem?_append_left (by simpa using hs)]
          simp [List.getD]
        show VHolds _ _ _ _ ((V.one (.bp 0 0) :: us.map fun u => V.one (.sc u)).getD s (V.one .dead)) _
        rw [e2]
        cases s with
        | zero => exact vone.2 ⟨⟨by simp, rfl⟩, .inr rfl⟩
        | succ s =>
          have hs' : s < us.length := by omega
          have e3 : (V.one (.bp 0 0) :: us.map fun u => V.one (.sc u)).getD (s + 1) (V.one .dead) = V.one (.sc us[s]) := by simp [List.getD, hs']
          have e4 : (Value.pointer (some ⟨c, 0, none⟩) :: us).getD (s + 1) undef = us[s] := by simp [List.getD, hs']
          rw [e3, e4]
          exact vone.2 ⟨rfl, .inr (hone _ (List.getElem_mem hs'))⟩
      · have e3 : (V.one (.bp 0 0) :: us.map fun u => V.one (.sc u)).getD s (V.one .dead) = V.one .dead := by simp [List.getD, show us.length + 1 ≤ s by omega]
        show VHolds _ _ _ _ ((V.one (.bp 0 0) :: us.map fun u => V.one (.sc u)).getD s (V.one .dead)) _
        rw [e3]
        exact vone.2 ⟨trivial, .inl rfl⟩
    · have hb0 : b = 0 := by have := get_lt hb; simpa using this
      subst hb0
      cases hb
      refine ⟨.inr rfl, [.slice ad len cap, .int .i64 p, .int .i64 h0], hcur.cell, rfl, fun j x u hj hu => ?_⟩
      match j, hj, hu with
      | 0, hj, hu => cases hj; cases hu; exact ⟨⟨rfl, .inr rfl⟩, rfl⟩
      | 1, hj, hu => cases hj; cases hu; exact ⟨⟨rfl, .inr rfl⟩, rfl⟩
      | 2, hj, hu => cases hj; cases hu; exact ⟨⟨rfl, .inr rfl⟩, rfl⟩)
  rw [hn]
  have e0 : E.w0 = w := by rw [hE]
  rw [e0] at h1
  simpa using h1
theorem VCE.enter {Y : Type} {Pr : Y → Prop} {f : FuncId} {fn : Func} {c0 : Go.Code} {n : Nat} {tup : Bool} {rs : Y → List (Bool × List T)} (hf : P.funcs[f]? = some fn) (hb : fn.body = some c0) (hn : fn.ntmps = n) (hl : 1 ≤ n)
    (h : ∀ E, E.plain 0 → E.code ad len cap zs → SV E n (VS.init ([(false, [T.lit (.slice ad len cap)])].map fun p => V.flat p.1 (p.2.map argLeaf))) (c0.wp P (bodyPost P fn fun e w' => ∃ y, Pr y ∧ Gives E tup (rs y) e w'))) : VCE (fun w => Code ad len cap zs w) Pr P f [(false, [.lit (.slice ad len cap)])] tup rs := fun w hw vs hv => by
  refine calls_of_wp hf hb ?_
  obtain ⟨G, hG⟩ := init_rel (E := Env.of w) ⟨rfl, rfl⟩ (n := n) hv (by rw [hv.1]; exact hl)
  have := h (Env.of w) ⟨rfl, rfl⟩ ⟨hw, fun _ _ _ h => h⟩ _ _ G hG
  rw [hn]
  have e : (Env.of w).w0 = w := rfl
  rw [e] at this
  simpa using this
end Go.Proofs.Ytfghhjcfmmhacaa.V
/- States told by trees: functions that are handed a cursor and more that they read; rows and numbers that are drawn. -/
namespace Go.Proofs.Ytfghhjcfmmhacaa.V
open Go Go.RowKit
set_option linter.unusedVariables false
variable {P : Program} {E : Env} {N nb : Nat} {σ σ' τ : VS} {o : Oper} {a : Act} {w : World} {G : Ghost} {Q : Exit → Act → World → Prop} {K : Act → World → Prop} {ad : Option Addr} {len cap : Nat} {zs : List Int}
def ArgsC (w : World) (c : Nat) (ins : List (Bool × List T)) (vs : List Value) : Prop :=
  vs.length = ins.length ∧ ∀ (k : Nat) (ag : Bool) (ts : List T) (v : Value), ins[k]? = some (ag, ts) → vs[k]? = some v → ∃ us : List Value, v = cval ag us ∧ us.length = ts.length ∧ ∀ (j : Nat) (t : T) (u : Value), ts[j]? = some t → us[j]? = some u → Inn (fun b => b < w.heap.size ∧ b ≠ c) w t u
theorem Rel.okC (h : Rel E N σ a w G) {c : Nat} (hc : c < σ.bs.length) (hold : ¬ E.old (G.β c)) {x : Leaf} {t : T} (ht : σ.tr x = some t) : ∀ b, x.okIn G E b → b < w.heap.size → b < w.heap.size ∧ b ≠ G.β c := fun b hb hlt => by
  refine ⟨hlt, fun e => ?_⟩
  subst e
  have key : ∀ i, σ.ob i ≠ none → ¬ G.ft i (G.β c) := fun i hi => h.boxft c i hc hi
  cases x with
  | hd i => exact key i (fun e => by simp [VS.tr, e] at ht) hb
  | nd i ver s loc => exact key i (fun e => by simp [VS.tr, e] at ht) hb
  | _ => exact hold hb
theorem Rel.argsC (h : Rel E N σ a w G) {c : Nat} (hc : c < σ.bs.length) (hold : ¬ E.old (G.β c)) : ∀ {xs : List Operand} {qs : List (Bool × List T)}, σ.argss xs qs → ArgsC w (G.β c) qs (xs.map a.eval)
  | [], [], _ => ⟨rfl, fun c ag ts v hc => by simp at hc⟩
  | x :: xs, q :: qs, hq => by
    obtain ⟨⟨ls, h1, h2⟩, h3⟩ := hq
    obtain ⟨h4, h5⟩ := h.argsC hc hold h3
    refine ⟨by simpa using h4, fun k ag ts v hk hv => ?_⟩
    cases k with
    | zero =>
      cases hk
      cases hv
      have h6 := h.ev x
      rw [h1, vflat] at h6
      obtain ⟨us, h7, h8, h9⟩ := h6
      obtain ⟨h10, h11⟩ := args_get h2
      refine ⟨us, h7, h8.trans h10, fun j t u hj hu => ?_⟩
      obtain ⟨y, h12, h13⟩ := h11 j t hj
      have := h.tree (h9 j y u h12 hu) h13
      exact this.frame (Nat.le_refl _) fun b hb hb' => ⟨h.okC hc hold h13 b hb hb', rfl⟩
    | succ k => exact h5 k ag ts v (by simpa using hk) (by simpa using hv)
def VKT {Y : Type} (ad : Option Addr) (len cap : Nat) (zs : List Int) (Pr : Y → Prop) (P : Program) (f : FuncId) (ins : List (Bool × List T)) (tup : Bool) (rs : Y → List (Bool × List T)) : Prop :=
  ∀ (w : World) (c : Nat) (σ : Int × Int), Code ad len cap zs w → Cur ad len cap zs σ w c → ∀ vs, ArgsC w c ins vs → Calls P f (Value.pointer (some ⟨c, 0, none⟩) :: vs).toArray w fun e w' => ∃ y τ, Pr y ∧ Cur ad len cap zs τ w' c ∧ GivesC w c tup (rs y) e w'
theorem callKT_core {Y : Type} {Pr : Y → Prop} (hC : E.code ad len cap zs) {d b : Nat} {f : FuncId} {x0 : Operand} {xs : List Operand} {ins : List (Bool × List T)} {ats : Array TypeId} {tup : Bool} {rs : Y → List (Bool × List T)} {p h0 : Int} (ho : o.op = .call { callee := .value (.func f), args := (x0 :: xs).toArray, argTypes := ats }) (hb : ∃ fn c, P.funcs[f]? = some fn ∧ fn.body = some c ∧ fn.name ≠ "runtime.NumGoroutine")
    (hc : VKT ad len cap zs Pr P f ins tup rs) (hx0 : σ.ev x0 = V.one (.bp b 0)) (hx : σ.argss xs ins) (hbx : σ.bs[b]? = some (85, curL ad len cap p h0)) (hp : 0 ≤ p ∧ p ≤ len) (hd : o.dst = some d) (hdN : d < N) {a : Act} {w : World} {G : Ghost} (h : Rel E N σ a w G) {K : Act → World → Prop} (hK : ∀ (y : Y) (p' h' : Int) (a' : Act) (w' : World) (G' : Ghost), Pr y → 0 ≤ p' ∧ p' ≤ len → Rel E N ((ansSs (σ.setb b 85 (curL ad len cap p' h')) (rs y)).put d ⟨tup, ansLs σ.nx (rs y)⟩) a' w' G' → Only (G.β b) w w' → (∀ i, i < σ.nx → G'.vl i = G.vl i) → G'.β = G.β → σ.nx ≤ (ansSs (σ.setb b 85 (curL ad len cap p' h')) (rs y)).nx → K a' w') : o.wp P a w K Q := by
  obtain ⟨fn, c, h1, h2, h2'⟩ := hb
  obtain ⟨hB, us0, b1, b2, b3⟩ := h.boxes b _ _ hbx
  have hus0 : us0 = [.slice ad len cap, .int .i64 p, .int .i64 h0] := by
    match us0, b2 with
    | [u, v, z], _ =>
      have e1 : u = .slice ad len cap := (b3 0 _ u rfl rfl).1.1
      have e2 : v = .int .i64 p := (b3 1 _ v rfl rfl).1.1
      have e3 : z = .int .i64 h0 := (b3 2 _ z rfl rfl).1.1
      rw [e1, e2, e3]
  subst hus0
  have hcode := hC.at h.below
  have hcur : Cur ad len cap zs (p, h0) w (G.β b) := ⟨hcode.row, fun x hx hpos e => by
    have hlt := hC.1.old x hx hpos
    rcases hB with hB | hB
    · rw [← e] at hB; exact absurd hlt (Nat.not_lt.2 hB)
    · rw [← e] at hB; exact hC.2 x hx hpos hB, hp.1, hp.2, b1⟩
  have hcall := hc w (G.β b) (p, h0) hcode hcur (xs.map a.eval) (h.argsC (get_lt hbx) (fun hq => by rcases hB with hB | hB; exact Nat.lt_irrefl _ (Nat.lt_of_lt_of_le hq.1 hB); exact hq.2 hB) hx)
  have hx0v : a.eval x0 = .pointer (some ⟨G.β b, 0, none⟩) := by
    have := h.ev x0
    rw [hx0, vone] at this
    exact this.1.2
  have hev : (x0 :: xs).map a.eval = Value.pointer (some ⟨G.β b, 0, none⟩) :: xs.map a.eval := by rw [List.map_cons, hx0v]
  have hrun : (execOp a.eval o).run P w = .ok (.enter f ((x0 :: xs).map a.eval).toArray) w := by
    simp [execOp, ho, resolve, Act.eval, Deferred.ofValue, invoke, callFunc, h1, h2, h2', Result.andThen]
  unfold Oper.wp
  rw [hrun, hev]
  refine hcall.mono fun e w' ⟨y0, τ0, hy0, hcur', uss, F, h3, h4, h5, h6, h6', h7'⟩ => ?_
  subst h4
  obtain ⟨p', h'0⟩ := τ0
  have hβlt : G.β b < w.heap.size := lt_of_block b1
  obtain ⟨w1, hw1⟩ : ∃ w1 : World, w1 = { w with heap := w.heap.setIfInBounds (G.β b) (.cells #[.slice ad len cap, .int .i64 p', .int .i64 h'0] 85 (0, 0)) } := ⟨_, rfl⟩
  have hsz1 : w1.heap.size = w.heap.size := by rw [hw1]; simp
  have hfar : ∀ k, k ≠ G.β b → w1.heap[k]? = w.heap[k]? := fun k hk => by rw [hw1]; simp [Array.getElem?_setIfInBounds_ne (Ne.symm hk)]
  have hnew1 : w1.heap[G.β b]? = some (.cells #[.slice ad len cap, .int .i64 p', .int .i64 h'0] 85 (0, 0)) := by rw [hw1]; simp [hβlt]
  have hsame1 : Same E w w1 := ⟨by rw [hw1], by rw [hw1], by rw [hw1], by rw [hsz1]; exact Nat.le_refl _, fun k hk => hfar k fun e => by
    subst e
    exact hB.elim (fun hB => Nat.lt_irrefl _ (Nat.lt_of_lt_of_le hk.1 hB)) hk.2⟩
  have hr1 := h.setbox (us' := [.slice ad len cap, .int .i64 p', .int .i64 h'0]) (xs' := curL ad len cap p' h'0) (w' := w1) hbx hsame1 hfar hnew1 rfl fun j x u hj hu => by
    match j, hj, hu with
    | 0, hj, hu => cases hj; cases hu; exact ⟨⟨rfl, .inr rfl⟩, rfl⟩
    | 1, hj, hu => cases hj; cases hu; exact ⟨⟨rfl, .inr rfl⟩, rfl⟩
    | 2, hj, hu => cases hj; cases hu; exact ⟨⟨rfl, .inr rfl⟩, rfl⟩
  have h7 : Below w1.heap.size w1 w' := ⟨by rw [h7'.os, hw1], by rw [h7'.tape, hw1], by rw [h7'.output, hw1], by rw [hsz1]; exact h7'.size, fun k hk => by
    by_cases hkb : k = G.β b
    · subst hkb; exact hcur'.cell.trans hnew1.symm
    · rw [hfar k hkb]; exact h7'.block k (by rw [hsz1] at hk; exact hk) fun e => hkb (Option.some.inj e)⟩
  have h' := hr1.ext h7
  have hfresh : ∀ q, w.heap.size ≤ q → Fresh σ G q := fun q hq => h.fresh hq
  obtain ⟨G', k1, k2, k3, k4, k5, k6, k7, k8⟩ := Rel.addAlls (rs y0) uss F h' h3 (fun c ag ts us hc hu => ⟨(h5 c ag ts us hc hu).1, fun j t u hj hu' => (h5 c ag ts us hc hu).2 j t u hj hu'⟩) (fun c j b hb => by
    have hbw : w.heap.size ≤ b := (h6' c j b hb).1
    exact ⟨⟨fun i hi hf => by have := (h.ftlt i b hi hf).2; omega, fun q hq => (h.fresh hbw).2 q (by simpa using hq)⟩, .inl (Nat.le_trans h.low hbw), (h6' c j b hb).2⟩) h6
  have k3 : (ansLs σ.nx (rs y0)).length = (rs y0).length := k3
  rw [hd]
  refine hK y0 p' h'0 _ _ _ hy0 ⟨hcur'.low, hcur'.high⟩ (k1.put hdN ⟨uss, h3.trans k3.symm, ?_, fun c ag xs us hc hu => ⟨(k4 c ag xs us hc hu).1, (k4 c ag xs us hc hu).2.2⟩⟩) h7' k6 k7 k5
  congr 1
  apply List.ext_getElem?
  intro c
  rw [List.getElem?_zipWith, List.getElem?_zipWith]
  cases hq : (ansLs σ.nx (rs y0))[c]? with
  | none =>
    have : (rs y0)[c]? = none := by rw [List.getElem?_eq_none_iff] at hq ⊢; omega
    rw [this]
  | some q =>
    obtain ⟨ag, xs'⟩ := q
    have hcl : c < uss.length := by have := get_lt hq; omega
    obtain ⟨-, ⟨ts, hts⟩, -⟩ := k4 c ag xs' uss[c] hq (List.getElem?_eq_getElem hcl)
    rw [hts, List.getElem?_eq_getElem hcl]
theorem SV.callKT {Y : Type} {Pr : Y → Prop} (hC : E.code ad len cap zs) {d b : Nat} {f : FuncId} {x0 : Operand} {xs : List Operand} {ins : List (Bool × List T)} {ats : Array TypeId} {tup : Bool} {rs : Y → List (Bool × List T)} {rest : List Oper} {ops : Array Oper} {p h0 : Int} (ho : o.op = .call { callee := .value (.func f), args := (x0 :: xs).toArray, argTypes := ats }) (hb : ∃ fn c, P.funcs[f]? = some fn ∧ fn.body = some c ∧ fn.name ≠ "runtime.NumGoroutine")
    (hc : VKT ad len cap zs Pr P f ins tup rs) (hx0 : σ.ev x0 = V.one (.bp b 0)) (hx : σ.argss xs ins) (hbx : σ.bs[b]? = some (85, curL ad len cap p h0)) (hp : 0 ≤ p ∧ p ≤ len) (hd : o.dst = some d) (hdN : d < N) (hw : ∀ {a w G}, Rel E N σ a w G → Region.wanted o (yielded ops a.tmps) = true)
    (k : ∀ (y : Y) (p' h' : Int), Pr y → 0 ≤ p' ∧ p' ≤ len → SV E N ((ansSs (σ.setb b 85 (curL ad len cap p' h')) (rs y)).put d ⟨tup, ansLs σ.nx (rs y)⟩) (wpList P ops Q rest)) : SV E N σ (wpList P ops Q (o :: rest)) := fun a w G h => by
  refine wpList_step fun K hK => ?_
  rw [if_pos (hw h)]
  exact callKT_core hC ho hb hc hx0 hx hbx hp hd hdN h fun y p' h' a' w' G' hy hp' hr _ _ _ _ => hK _ _ (k y p' h' hy hp' _ _ _ hr)
set_option maxRecDepth 100000 in
theorem pickO_any (a : Option Addr) (len cap : Nat) (zs : List Int) (σ : Int × Int) (c : Nat) (w : World) (hc : Cur a len cap zs σ w c) (g o' n m : Nat) (L : List Int) (hg : ∀ t, t < L.length → w.cell? ⟨g, o' + t, none⟩ = some (.int .i64 (L.getD t 0))) (hgc : ¬ g = c) (hn : n = L.length) (h1 : 1 ≤ n) (h2 : n ≤ 1000000000) :
    Calls Try.prog 59 #[.pointer (some ⟨c, 0, none⟩), .slice (some ⟨g, o', none⟩) n m] w (Drawn (pickS zs len L) a len cap zs σ c w) := by
  have HC := Lib.hid hc
  have HG := Lib.hid hg
  have HN := Lib.hid hn
  clear hc hg hn
  go_enter Try.func59, Try.ntmps59
  go_wp2_with fail
  refine (below_any a len cap zs _ c _ HC.out (n : Int) (by omega) (by omega)).mono ?_
  rintro e w1 ⟨x, τ, hf1, rfl, hc1, ho1⟩
  obtain ⟨hx0, hx1⟩ := belowS_range (by omega) hf1
  have F1 := Lib.hid hf1
  clear hf1
  obtain ⟨t, rfl⟩ : ∃ t : Nat, x = (t : Int) := ⟨x.toNat, by omega⟩
  have htn : t < n := by omega
  have hcell := HG.out t (by have := HN.out; omega)
  have hlt : g < w.heap.size := World.block_lt_of_cell? w _ hcell
  have hcell1 : w1.cell? ⟨g, o' + t, none⟩ = some (.int .i64 (L.getD t 0)) := (World.cell?_of_block (ho1.block g hlt (fun e => hgc (by injection e)))).trans hcell
  clear hcell
  obtain ⟨z, hz⟩ : ∃ z, z = L.getD t 0 := ⟨_, rfl⟩
  rw [← hz] at hcell1
  have HZ := Lib.hid hz
  clear hz
  have H1 := Lib.hid hc1
  have O1 := Lib.hid ho1
  clear hc1 ho1
  go_wp2_with fail
  go_ret
  refine ⟨_, τ, ?_, rfl, H1.out, O1.out⟩
  unfold pickS
  have hn := HN.out
  rw [← hn, F1.out, HZ.out, Int.toNat_natCast]
theorem vk_pick (L : List Int) (h1 : 1 ≤ L.length) (h2 : L.length ≤ 1000000000) : VKT ad len cap zs (fun x : Int => x ∈ L) Try.prog 59 [(false, [.seq 3 (L.map fun x => [.lit (.int .i64 x)])])] false fun x => [(false, [.lit (.int .i64 x)])] := fun w c σ hC hc vs hv => by
  obtain ⟨hl, ha⟩ := hv
  match vs, hl with
  | [v], _ =>
    obtain ⟨us, e1, e2, e3⟩ := ha 0 false _ v rfl rfl
    match us, e2 with
    | [x], _ =>
      have hx := e3 0 _ x rfl rfl
      have e1' : v = x := e1
      subst e1'
      obtain ⟨a0, m, n, hv, hcm, hm, h0, hp, hz, hn, b, o, us, had, hb, hcell, hr⟩ := inn_seq hx
      have hn1 : n = 1 := hz.eq sz_int
      subst hn1
      rw [List.length_map] at hv hcm
      subst hv
      have hne : (L.map fun x => [T.lit (.int .i64 x)]) ≠ [] := fun e => by have e' := List.map_eq_nil_iff.1 e; rw [e'] at h1; simp at h1
      have ha0 : a0 = some ⟨b, o, none⟩ := by
        cases ha : a0 with
        | none => have := h0 ha; omega
        | some y => rw [had y ha hne]
      subst ha0
      have hcells : ∀ t, t < L.length → w.cell? ⟨b, o + t, none⟩ = some (.int .i64 (L.getD t 0)) := fun t ht => by
        have e : (L.map fun x => [T.lit (.int .i64 x)])[t]? = some [.lit (.int .i64 L[t])] := by rw [List.getElem?_map, List.getElem?_eq_getElem ht]; rfl
        have h4 := hcell t _ 0 _ e rfl
        rw [inn_lit (hr t _ 0 _ e rfl)] at h4
        simpa [ht] using h4
      exact (pickO_any ad len cap zs σ c w hc b o L.length m L hcells (fun e => (hb hne).1.2 e) rfl h1 h2).mono fun e w' ⟨z, τ, hf, he, hc', ho⟩ => ⟨z, τ, by have := pickS_mem zs len L σ h1; rw [hf] at this; exact this, hc', by rw [he]; exact givesC_lit rfl ho⟩
end Go.Proofs.Ytfghhjcfmmhacaa.V
/- States told by trees: a region that draws its order, with calls that are handed a cursor. -/
namespace Go.Proofs.Ytfghhjcfmmhacaa.V
open Go Go.RowKit
set_option linter.unusedVariables false
variable {P : Program} {E : Env} {N : Nat} {σ σ' τ : VS} {o : Oper} {a : Act} {w ws : World} {G Gs : Ghost} {Q : Exit → Act → World → Prop} {ad : Option Addr} {len cap : Nat} {zs0 : List Int}
structure SameC (E : Env) (τ : VS) (wl : List Nat) (G : Ghost) (ws v : World) : Prop where
  below : Same E ws v
  block : ∀ b, b < ws.heap.size → v.heap[b]? = ws.heap[b]? ∨ (∃ c, c ∈ wl ∧ c < τ.bs.length ∧ b = G.β c) ∨ ∃ (i ver : Nat) (ty : TypeId) (es : List (List T)) (n : Nat) (cs cs' : Array Value), τ.ob i = some (ver, .seq ty es) ∧ (G.vl i).ownBlock = some b ∧ Sz ty n ∧ ws.heap[b]? = some (.cells cs ty (0, 0)) ∧ v.heap[b]? = some (.cells cs' ty (0, 0)) ∧ cs'.size = cs.size ∧ cs'.toList.take (es.length * n) = cs.toList.take (es.length * n)
theorem SameC.refl (E : Env) (τ : VS) (wl : List Nat) (G : Ghost) (w : World) : SameC E τ wl G w w := ⟨Same.refl _ _, fun _ _ => .inl rfl⟩
structure LinkC (E : Env) (N : Nat) (τ : VS) (wl : List Nat) (ws : World) (Gs : Ghost) (fr : List Nat) (σ : VS) (w : World) (G : Ghost) : Prop where
  start : ∃ a, Rel E N τ a ws Gs
  same : SameC E τ wl Gs ws w
  vl : ∀ i, i < τ.nx → G.vl i = Gs.vl i
  β : ∀ b, b < τ.bs.length → G.β b = Gs.β b
  nx : τ.nx ≤ σ.nx
  bs : τ.bs.length ≤ σ.bs.length
  fresh : ∀ i ∈ fr, i < σ.nx ∧ ∀ b, (G.vl i).ownBlock = some b → ws.heap.size ≤ b
  nb : ∀ b, τ.bs.length ≤ b → b < σ.bs.length → ws.heap.size ≤ G.β b
def DC (E : Env) (N : Nat) (τ : VS) (wl : List Nat) (fr : List Nat) (σ : VS) (Ψ : World → Ghost → Act → World → Prop) : Prop := ∀ ws Gs a w G, Rel E N σ a w G → LinkC E N τ wl ws Gs fr σ w G → Ψ ws Gs a w
abbrev SC (E : Env) (τ : VS) (wl : List Nat) (ws : World) (Gs : Ghost) : World → Prop := fun v => SameC E τ wl Gs ws v
theorem SV.drawC {id : Nat} {l : List Oper} (wl : List Nat) (ps : List PStep) (zs : List Nat) (hm : P.follows .mixedOrders = true) (hB : planB .any l.toArray (Pl.of ps) zs = true) (h : DC E N τ wl [] τ fun ws Gs a w => wpPi P l.toArray Q (SC E τ wl ws Gs) zs (Pl.of ps) a w) : SV E N τ ((Code.region id l.toArray true).wp P Q) :=
  fun a w G hr => region_plan (SC E τ wl w.drew G) (Pl.of ps) zs hm hB (SameC.refl _ _ _ _ _) fun _ => h w.drew G a w.drew G hr.drew ⟨⟨a, hr.drew⟩, SameC.refl _ _ _ _ _, fun _ _ => rfl, fun _ _ => rfl, Nat.le_refl _, Nat.le_refl _, fun i hi => (by cases hi), fun b h1 h2 => absurd h2 (Nat.not_lt.2 h1)⟩
theorem SV.drawCT {id : Nat} {l : List Oper} (wl : List Nat) (ps : Pl) (zs : List Nat) (hm : P.follows .mixedOrders = true) (hB : planB .any l.toArray ps zs = true) (h : DC E N τ wl [] τ fun ws Gs a w => wpPi P l.toArray Q (SC E τ wl ws Gs) zs ps a w) : SV E N τ ((Code.region id l.toArray true).wp P Q) :=
  fun a w G hr => region_plan (SC E τ wl w.drew G) ps zs hm hB (SameC.refl _ _ _ _ _) fun _ => h w.drew G a w.drew G hr.drew ⟨⟨a, hr.drew⟩, SameC.refl _ _ _ _ _, fun _ _ => rfl, fun _ _ => rfl, Nat.le_refl _, Nat.le_refl _, fun i hi => (by cases hi), fun b h1 h2 => absurd h2 (Nat.not_lt.2 h1)⟩
variable {l : List Oper} {zs : List Nat} {ps : Pl} {i d : Nat} {fr wl : List Nat}
theorem LinkC.put (h : LinkC E N τ wl ws Gs fr σ w G) {v : V} : LinkC E N τ wl ws Gs fr (σ.put d v) w G := ⟨h.start, h.same, h.vl, h.β, h.nx, h.bs, h.fresh, h.nb⟩
theorem LinkC.lite (h : LinkC E N τ wl ws Gs fr σ w G) {v : World} (s : SameC E τ wl Gs ws v) : Lite E 0 G w v :=
  ⟨fun b hb => (s.below.block b hb).trans (h.same.below.block b hb).symm, fun c hc => absurd hc (Nat.not_lt_zero c)⟩
theorem DC.q {V' : V} (ho : nthO l i = some o) (h : OpL P E N 0 σ o V') (hg : o.guard = none) (hd : o.dst = some d) (hdN : d < N) (hQ : ∀ c (a : Act) v w, Q (.panic c) (a.put o.dst v) w → Q (.panic c) a w) (k : DC E N τ wl fr (σ.put d V') fun ws Gs a w => wpPi P l.toArray Q (SC E τ wl ws Gs) zs ps a w) :
    DC E N τ wl fr σ fun ws Gs a w => wpPi P l.toArray Q (SC E τ wl ws Gs) zs (.q i ps) a w := fun ws Gs a w G hr hl => by
  obtain ⟨u, h1, h2⟩ := h a w G hr
  refine pi_take (v := u) ho (fun c a w => hQ c a u w) (by simp [Region.wanted, hg]) (fun v hv => h1 v (hl.lite hv)) ?_
  rw [hd]
  exact k ws Gs _ w G (hr.put hdN h2) hl.put
theorem SameC.cell (h : Rel E N τ a ws Gs) {v : World} (s : SameC E τ wl Gs ws v) {j ver g k' n p : Nat} {ty : TypeId} {fs : List (List T)} {N' c : Nat} {e : List T} {u : Value} (hj : τ.ob j = some (ver, .seq ty fs)) (hv : Gs.vl j = .slice (some ⟨g, 0, none⟩) N' c) (he : fs[k']? = some e) (hen : e.length = n) (hp : p < n) (hcell : ws.cell? ⟨g, k' * n + p, none⟩ = some u) : v.cell? ⟨g, k' * n + p, none⟩ = some u := by
  have hroot : (Gs.vl j).ownBlock = some g := by rw [hv]; rfl
  have hft := root_ft h hj hroot
  rcases s.block g (lt_blk hcell) with h9 | ⟨c', -, hc', h9⟩ | ⟨i2, v2, ty2, es2, n2, cs, cs', f1, f2, f3, f4, f5, f6, f7⟩
  · exact (World.cell?_of_block h9).trans hcell
  · rw [h9] at hft
    exact absurd hft (h.boxft c' j hc' (by rw [hj]; simp))
  · have hji : j = i2 := by
      rcases Nat.decEq j i2 with hne | hne
      · exact absurd (root_ft h f1 f2) (h.disj j i2 g (by rw [hj]; simp) (by rw [f1]; simp) hne hft)
      · exact hne
    subst hji
    rw [hj] at f1
    cases f1
    obtain ⟨-, hown, -⟩ := h.objs j ver _ hj
    cases hown with
    | seq n3 hp3 hz3 hn3 xs hown3 Gs3 hr3 hone3 hF3 hG3 hne3 hd3 =>
      have hnn : n2 = n := (f3.eq hz3).trans ((hn3 e (get_mem he)).symm.trans hen)
      subst hnn
      have hlt : k' * n2 + p < fs.length * n2 := at_lt (get_lt he) hp
      rw [cell_of_row _ _ _ _ _ _ f4] at hcell
      rw [cell_of_row _ _ _ _ _ _ f5]
      have g1 : (cs'.toList.take (fs.length * n2))[k' * n2 + p]? = (cs.toList.take (fs.length * n2))[k' * n2 + p]? := by rw [f7]
      rw [List.getElem?_take, List.getElem?_take, if_pos hlt, if_pos hlt] at g1
      simpa using g1.trans (by simpa using hcell)
theorem SameC.cellB (h : Rel E N τ a ws Gs) {v : World} (s : SameC E τ wl Gs ws v) {j ver g k' n p : Nat} {ty : TypeId} {fs : List (List T)} {N' c : Nat} {e : List T} {u : Value} (hj : τ.ob j = some (ver, .seq ty fs)) (hv : Gs.vl j = .slice (some ⟨g, 0, none⟩) N' c) (he : fs[k']? = some e) (hen : e.length = n) (hp : p < n) (hcell : v.cell? ⟨g, k' * n + p, none⟩ = some u) : ws.cell? ⟨g, k' * n + p, none⟩ = some u := by
  obtain ⟨-, hown, -⟩ := h.objs j ver _ hj
  cases hown with
  | seq n3 hp3 hz3 hn3 xs hown3 Gs3 hr3 hone3 hF3 hG3 hne3 hd3 =>
    obtain ⟨a', c', e1, -, -, -, e5⟩ := own_slice hown3
    rw [hv] at e1
    injection e1 with e1 e2 e3
    obtain ⟨g', f1, f2, f3, f4, f5⟩ := e5 (Nat.lt_of_le_of_lt (Nat.zero_le _) (get_lt he))
    rw [f1] at e1
    injection e1 with e1
    injection e1 with e1
    have hn' : n3 = n := (hn3 e (get_mem he)).symm.trans hen
    subst hn' e1
    have hxl : xs.length = fs.length * n3 := hown3.1
    have hlt : k' * n3 + p < xs.length := by rw [hxl]; exact at_lt (get_lt he) hp
    have h6 := f4 (k' * n3 + p) xs[k' * n3 + p] (List.getElem?_eq_getElem hlt)
    have h7 := s.cell h hj hv he hen hp h6
    rw [hcell] at h7
    rw [h6, h7]
theorem DC.el {m : Nat} {ty : TypeId} {x : Operand} {j k' n o' : Nat} {ag : Bool} {es : List T} {ys : List Leaf} (hn : nthO l i = some o) (ho : o.op = .load ty x) (hx : σ.ev x = V.one (.ep j k' n o')) (hob : j < τ.nx ∧ σ.ob j = τ.ob j) (hc : σ.cells (.ep j k' n o') = some es) (hag : ∀ w, (isAgg ty).run Try.prog w = .ok ag w) (hm : Sz ty m) (h1 : ag = false → m = 1) (hml : m ≤ es.length)
    (hy : (List.range m).map (fun q => match es[q]? with | some t => σ.cellLeaf (.ep j k' n o') q t | none => .dead) = ys) (hg : o.guard = none) (hd : o.dst = some d) (hdN : d < N) (hQ : ∀ c (a : Act) v w, Q (.panic c) (a.put o.dst v) w → Q (.panic c) a w) (k : DC E N τ wl fr (σ.put d (V.flat ag ys)) fun ws Gs a w => wpPi Try.prog l.toArray Q (SC E τ wl ws Gs) zs ps a w) :
    DC E N τ wl fr σ fun ws Gs a w => wpPi Try.prog l.toArray Q (SC E τ wl ws Gs) zs (.q i ps) a w := fun ws Gs a w G hr hl => by
  obtain ⟨u, b, q, h2, h3, h4⟩ := load_el ho hx hc hag hm h1 hml hy hr
  refine pi_take (v := u) hn (fun c a w => hQ c a u w) (by simp [Region.wanted, hg]) (fun v hv => h3 v fun p y hp hcell => ?_) ?_
  · have h5 := hr.ev x
    rw [hx, vone] at h5
    obtain ⟨⟨-, g, M, c, h6, h7⟩, -⟩ := h5
    rw [h2] at h7
    injection h7 with h7
    injection h7 with h7
    injection h7 with h7 h8
    subst h7 h8
    obtain ⟨⟨ver, s⟩, e1, e2⟩ := Option.bind_eq_some_iff.1 hc
    obtain ⟨-, hown, ty', fs, hs⟩ := hr.objs j ver s e1
    have hs' : s = .seq ty' fs := hs
    subst hs'
    obtain ⟨e, he, e3⟩ := Option.bind_eq_some_iff.1 e2
    have hen : e.length = n := by
      cases hb : Nat.beq e.length n with
      | true => exact Nat.eq_of_beq_eq_true hb
      | false => simp only [hb] at e3; cases e3
    have hed : e.drop o' = es := by
      have hb : Nat.beq e.length n = true := by rw [hen]; exact Nat.beq_refl n
      simpa [hb] using e3
    have hlen : o' + p < n := by
      have : (e.drop o').length = es.length := by rw [hed]
      rw [List.length_drop, hen] at this
      omega
    obtain ⟨ar, hrs⟩ := hl.start
    have hj : τ.ob j = some (ver, .seq ty' fs) := by rw [← hob.2]; exact e1
    have hv0 : Gs.vl j = .slice (some ⟨b, 0, none⟩) M c := by rw [← hl.vl j hob.1]; exact h6
    have hcell' : w.cell? ⟨b, k' * n + (o' + p), none⟩ = some y := by rw [← Nat.add_assoc]; exact hcell
    have := hv.cell hrs hj hv0 he hen hlen (hl.same.cellB hrs hj hv0 he hen hlen hcell')
    rwa [← Nat.add_assoc] at this
  · rw [hd]
    exact k _ _ _ _ _ (hr.put hdN h4) hl.put
theorem ansS_bs : ∀ (ts : List T) (σ : VS), (ansS σ ts).bs = σ.bs
  | [], _ => rfl
  | .seq ty es :: ts, σ => ansS_bs ts (σ.new (.seq ty es))
  | .any :: ts, σ => ansS_bs ts σ
  | .lit u :: ts, σ => ansS_bs ts σ
theorem ansSs_bs : ∀ (qs : List (Bool × List T)) (σ : VS), (ansSs σ qs).bs = σ.bs
  | [], _ => rfl
  | (ag, ts) :: qs, σ => (ansSs_bs qs (ansS σ ts)).trans (ansS_bs ts σ)
theorem SameT.toC (wl : List Nat) {v : World} (h : SameT E τ G ws v) : SameC E τ wl G ws v := ⟨h.below, fun b hb => (h.block b hb).imp id .inr⟩
theorem DW.elm {m : Nat} {ty : TypeId} {x : Operand} {j k' n o' : Nat} {ag cl : Bool} {es : List T} {ys : List Leaf} (hn : nthO l i = some o) (ho : o.op = .load ty x) (hx : σ.ev x = V.one (.ep j k' n o')) (hob : j < τ.nx ∧ σ.ob j = τ.ob j) (hc : σ.cells (.ep j k' n o') = some es) (hag : ∀ w, (isAgg ty).run Try.prog w = .ok ag w) (hm : Sz ty m) (h1 : ag = false → m = 1) (hml : m ≤ es.length)
    (hy : (List.range m).map (fun q => match es[q]? with | some t => σ.cellLeaf (.ep j k' n o') q t | none => .dead) = ys) (hw : ∀ {a w G}, Rel E N σ a w G → Region.wanted o (yielded l.toArray a.tmps) = true) (hd : o.dst = some d) (hdN : d < N) (hQ : ∀ c (a : Act) v w, Q (.panic c) (a.put o.dst v) w → Q (.panic c) a w) (k : DW E N τ fr cl (σ.put d (V.flat ag ys)) fun ws Gs a w => wpPi Try.prog l.toArray Q (SW E τ ws Gs) zs ps a w) :
    DW E N τ fr cl σ fun ws Gs a w => wpPi Try.prog l.toArray Q (SW E τ ws Gs) zs (.q i ps) a w := fun ws Gs a w G hr hl => by
  obtain ⟨u, b, q, h2, h3, h4⟩ := load_el ho hx hc hag hm h1 hml hy hr
  refine pi_take (v := u) hn (fun c a w => hQ c a u w) (hw hr) (fun v hv => h3 v fun p y hp hcell => ?_) ?_
  · have h5 := hr.ev x
    rw [hx, vone] at h5
    obtain ⟨⟨-, g, M, c, h6, h7⟩, -⟩ := h5
    rw [h2] at h7
    injection h7 with h7
    injection h7 with h7
    injection h7 with h7 h8
    subst h7 h8
    obtain ⟨⟨ver, s⟩, e1, e2⟩ := Option.bind_eq_some_iff.1 hc
    obtain ⟨-, hown, ty', fs, hs⟩ := hr.objs j ver s e1
    have hs' : s = .seq ty' fs := hs
    subst hs'
    obtain ⟨e, he, e3⟩ := Option.bind_eq_some_iff.1 e2
    have hen : e.length = n := by
      cases hb : Nat.beq e.length n with
      | true => exact Nat.eq_of_beq_eq_true hb
      | false => simp only [hb] at e3; cases e3
    have hed : e.drop o' = es := by
      have hb : Nat.beq e.length n = true := by rw [hen]; exact Nat.beq_refl n
      simpa [hb] using e3
    have hlen : o' + p < n := by
      have : (e.drop o').length = es.length := by rw [hed]
      rw [List.length_drop, hen] at this
      omega
    obtain ⟨ar, hrs⟩ := hl.start
    have hj : τ.ob j = some (ver, .seq ty' fs) := by rw [← hob.2]; exact e1
    have hv0 : Gs.vl j = .slice (some ⟨b, 0, none⟩) M c := by rw [← hl.vl j hob.1]; exact h6
    have hcell' : w.cell? ⟨b, k' * n + (o' + p), none⟩ = some y := by rw [← Nat.add_assoc]; exact hcell
    have := (hv.toC []).cell hrs hj hv0 he hen hlen ((hl.same.toC []).cellB hrs hj hv0 he hen hlen hcell')
    rwa [← Nat.add_assoc] at this
  · rw [hd]
    exact k _ _ _ _ _ (hr.put hdN h4) hl.put
theorem DC.mK {Y : Type} {Pr : Y → Prop} (hC : E.code ad len cap zs0) {b : Nat} {f : FuncId} {x0 : Operand} {xs : List Operand} {us : List Value} {ats : Array TypeId} {tup : Bool} {rs : Y → List (Bool × List T)} {p h0 : Int} (hn : nthO l i = some o) (ho : o.op = .call { callee := .value (.func f), args := (x0 :: xs).toArray, argTypes := ats }) (hb : ∃ fn c, P.funcs[f]? = some fn ∧ fn.body = some c ∧ fn.name ≠ "runtime.NumGoroutine")
    (hc : VK ad len cap zs0 Pr P f us tup rs) (hx0 : σ.ev x0 = V.one (.bp b 0)) (hx : σ.scs xs us) (hbx : σ.bs[b]? = some (85, curL ad len cap p h0)) (hbw : b ∈ wl) (hbt : b < τ.bs.length) (hp : 0 ≤ p ∧ p ≤ len) (hd : o.dst = some d) (hdN : d < N) (hg : o.guard = none)
    (k : ∀ (y : Y) (p' h' : Int), Pr y → 0 ≤ p' ∧ p' ≤ len → DC E N τ wl fr ((ansSs (σ.setb b 85 (curL ad len cap p' h')) (rs y)).put d ⟨tup, ansLs σ.nx (rs y)⟩) fun ws Gs a w => wpPi P l.toArray Q (SC E τ wl ws Gs) zs ps a w) : DC E N τ wl fr σ fun ws Gs a w => wpPi P l.toArray Q (SC E τ wl ws Gs) zs (.m i ps) a w := fun ws Gs a w G hr hl => by
  refine pi_step hn fun K hK => ?_
  rw [if_pos (by simp [Region.wanted, hg])]
  refine callK_core hC ho hb hc hx0 hx hbx hp hd hdN hr fun y p' h' a' w' G' hy hp' hr' hon hvl hβ hnx => ?_
  have hsame : SameC E τ wl Gs ws w' := by
    refine ⟨⟨hon.os.trans hl.same.below.os, hon.tape.trans hl.same.below.tape, hon.output.trans hl.same.below.output, Nat.le_trans hl.same.below.size hon.size, fun q hq => ?_⟩, fun q hq => ?_⟩
    · obtain ⟨ar, hrs⟩ := hl.start
      have hqw : q < ws.heap.size := Nat.lt_of_lt_of_le hq.1 hrs.low
      refine (hon.block q (Nat.lt_of_lt_of_le hqw hl.same.below.size) fun e => ?_).trans (hl.same.below.block q hq)
      have e' := Option.some.inj e
      obtain ⟨hB, -⟩ := hr.boxes b _ _ hbx
      rw [← e'] at hB
      exact hB.elim (fun h => Nat.lt_irrefl _ (Nat.lt_of_lt_of_le hq.1 h)) hq.2
    · by_cases hqb : q = G.β b
      · exact .inr (.inl ⟨b, hbw, hbt, hqb.trans (hl.β b hbt)⟩)
      · have h1 := hon.block q (Nat.lt_of_lt_of_le hq hl.same.below.size) fun e => hqb (Option.some.inj e)
        rcases hl.same.block q hq with h2 | h2 | ⟨i2, v2, ty2, es2, n2, ds, ds', f1, f2, f3, f4, f5, f6, f7⟩
        · exact .inl (h1.trans h2)
        · exact .inr (.inl h2)
        · exact .inr (.inr ⟨i2, v2, ty2, es2, n2, ds, ds', f1, f2, f3, f4, h1.trans f5, f6, f7⟩)
  refine hK.out a' w' hsame fun _ => k y p' h' hy hp' ws Gs a' w' G' hr' ⟨hl.start, hsame, fun j hj => (hvl j (Nat.lt_of_lt_of_le hj hl.nx)).trans (hl.vl j hj), fun c hc => by rw [hβ]; exact hl.β c hc, Nat.le_trans hl.nx hnx, ?_, fun j hj => ⟨Nat.lt_of_lt_of_le (hl.fresh j hj).1 hnx, fun c hc => (hl.fresh j hj).2 c (by rw [← hvl j (hl.fresh j hj).1]; exact hc)⟩, fun c h1 h2 => by
    rw [hβ]
    have h3 : c < (ansSs _ _).bs.length := h2
    rw [ansSs_bs] at h3
    exact hl.nb c h1 (by simpa [VS.setb] using h3)⟩
  show τ.bs.length ≤ (ansSs _ _).bs.length
  rw [ansSs_bs]
  simpa [VS.setb] using hl.bs
theorem DC.m (ho : nthO l i = some o) (h : OpMk P E N none σ o σ') (hg : o.guard = none) (hbs : σ'.bs.length = σ.bs.length) (hnx : σ.nx ≤ σ'.nx)
    (k : DC E N τ wl fr σ' fun ws Gs a w => wpPi P l.toArray Q (SC E τ wl ws Gs) zs ps a w) : DC E N τ wl fr σ fun ws Gs a w => wpPi P l.toArray Q (SC E τ wl ws Gs) zs (.m i ps) a w := fun ws Gs a w G hr hl => by
  refine pi_step ho fun K hK => ?_
  rw [if_pos (by simp [Region.wanted, hg])]
  refine h a w G K Q hr fun a' w' G' hr' hm => ?_
  have hblk : ∀ b, b < w.heap.size → w'.heap[b]? = w.heap[b]? := fun b hb => by
    rcases hm.block b hb with h1 | ⟨j, v, ty, es, n, cs, cs', e1, -⟩
    · exact h1
    · cases e1
  have hsame : SameC E τ wl Gs ws w' := by
    refine ⟨hl.same.below.trans hm.below, fun b hb => ?_⟩
    have h1 := hblk b (Nat.lt_of_lt_of_le hb hl.same.below.size)
    rcases hl.same.block b hb with h2 | h2 | ⟨i2, v2, ty2, es2, n2, ds, ds', f1, f2, f3, f4, f5, f6, f7⟩
    · exact .inl (h1.trans h2)
    · exact .inr (.inl h2)
    · exact .inr (.inr ⟨i2, v2, ty2, es2, n2, ds, ds', f1, f2, f3, f4, h1.trans f5, f6, f7⟩)
  exact hK.out a' w' hsame fun _ => k ws Gs a' w' G' hr' ⟨hl.start, hsame, fun j hj => (hm.vl j (Nat.lt_of_lt_of_le hj hl.nx)).trans (hl.vl j hj), fun b hb => (hm.β b (Nat.lt_of_lt_of_le hb hl.bs)).trans (hl.β b hb), Nat.le_trans hl.nx hnx, by rw [hbs]; exact hl.bs, fun j hj => ⟨Nat.lt_of_lt_of_le (hl.fresh j hj).1 hnx, fun b hb => (hl.fresh j hj).2 b (by rw [← hm.vl j (hl.fresh j hj).1]; exact hb)⟩, fun b h1 h2 => by rw [hbs] at h2; rw [hm.β b h2]; exact hl.nb b h1 h2⟩
theorem LinkC.box (h : LinkC E N τ wl ws Gs fr σ w G) {v : World} (s : SameC E τ wl Gs ws v) {c : Nat} (hc : c < τ.bs.length) (hw : c ∉ wl) : v.heap[G.β c]? = w.heap[G.β c]? := by
  obtain ⟨ar, hrs⟩ := h.start
  have key : ∀ {u : World}, SameC E τ wl Gs ws u → u.heap[Gs.β c]? = ws.heap[Gs.β c]? := fun {u} t => by
    obtain ⟨-, us, h2, -⟩ := hrs.boxes c _ _ (List.getElem?_eq_getElem hc)
    rcases t.block (Gs.β c) (lt_of_block h2) with h1 | ⟨c', hc1, hc2, h1⟩ | ⟨i, ver, ty, es, n, cs, cs', e1, e2, -⟩
    · exact h1
    · exact absurd (hrs.inj c c' hc hc2 h1) (fun e => hw (e ▸ hc1))
    · exact absurd (root_ft hrs e1 e2) (hrs.boxft c i hc (by rw [e1]; simp))
  rw [h.β c hc]
  exact (key s).trans (key h.same).symm
theorem DC.lb {b i' m : Nat} {ty ty' : TypeId} {x : Operand} {ag : Bool} {xs ys : List Leaf} (ho : nthO l i = some o) (hop : o.op = .load ty x) (hx : σ.ev x = V.one (.bp b i')) (hb : σ.bs[b]? = some (ty', xs)) (hag : ∀ w, (isAgg ty).run P w = .ok ag w) (hm : ∃ inf, P.info? ty = some inf ∧ inf.size = m) (h1 : ag = false → m = 1)
    (hy : (xs.drop i').take m = ys) (hyl : ys.length = m) (hbt : b < τ.bs.length) (hw : b ∉ wl) (hg : o.guard = none) (hd : o.dst = some d) (hdN : d < N) (hQ : ∀ c (a : Act) v w, Q (.panic c) (a.put o.dst v) w → Q (.panic c) a w)
    (k : DC E N τ wl fr (σ.put d (V.flat ag ys)) fun ws Gs a w => wpPi P l.toArray Q (SC E τ wl ws Gs) zs ps a w) : DC E N τ wl fr σ fun ws Gs a w => wpPi P l.toArray Q (SC E τ wl ws Gs) zs (.q i ps) a w := fun ws Gs a w G h hl => by
  have h2 := h.ev x
  rw [hx, vone] at h2
  obtain ⟨⟨-, h3⟩, -⟩ := h2
  obtain ⟨-, us, h4, h5, h6⟩ := h.boxes b ty' xs hb
  have h7 : ((us.drop i').take m).length = m := by
    have : ((xs.drop i').take m).length = m := by rw [hy]; exact hyl
    simp only [List.length_take, List.length_drop] at this ⊢
    omega
  refine pi_take (v := cval ag ((us.drop i').take m)) ho (fun c a w => hQ c a _ w) (by simp [Region.wanted, hg]) (fun v hv => ?_) ?_
  · have hr := load_run (P := P) (w := v) (b := G.β b) (i := i') (us := (us.drop i').take m) hag hm h1 h7 fun j u hj => by
      rw [cell_of_row v _ _ _ _ _ ((hl.box hv hbt hw).trans h4)]
      simpa using cut_get hj
    simp [execOp, hop, h3, Instr.loadAt, Instr.sureAddr, hr, Result.andThen]
  · rw [hd]
    exact k ws Gs _ w G (h.put hdN (vflat.2 ⟨_, rfl, by rw [h7, hyl], fun j y u hj hu => (h6 (i' + j) y u (cut_get (by rw [hy]; exact hj)) (cut_get hu)).1⟩)) hl.put
theorem DC.store {b i' m : Nat} {ty ty' : TypeId} {x y : Operand} {ag : Bool} {xs zs1 : List Leaf} (ho : o.op = .store ty x y) (hx : σ.ev x = V.one (.bp b i')) (hy : σ.ev y = V.flat ag zs1) (hb : σ.bs[b]? = some (ty', xs)) (hm : ∃ inf, P.info? ty = some inf ∧ inf.size = m) (h1 : ag = false → m = 1)
    (hzl : zs1.length = m) (hi : i' + m ≤ xs.length) (hlv' : zs1.all Leaf.live = true) (hd : o.dst = none) {ys : List Leaf} (hk : xs.take i' ++ zs1 ++ xs.drop (i' + zs1.length) = ys) (hn : nthO l i = some o) (hbw : b ∈ wl) (hbt : b < τ.bs.length) (hg : o.guard = none) (k : DC E N τ wl fr (σ.setb b ty' ys) fun ws Gs a w => wpPi P l.toArray Q (SC E τ wl ws Gs) zs ps a w) : DC E N τ wl fr σ fun ws Gs a w => wpPi P l.toArray Q (SC E τ wl ws Gs) zs (.m i ps) a w := fun ws Gs a w G h hl => by
  refine pi_step hn fun K hK => ?_
  rw [if_pos (by simp [Region.wanted, hg])]
  subst hk
  have h2 := h.ev x
  rw [hx, vone] at h2
  obtain ⟨⟨-, h3⟩, -⟩ := h2
  have hlv : ∀ x ∈ zs1, x.live = true := List.all_eq_true.1 hlv'
  have h4 := h.ev y
  rw [hy, vflat] at h4
  obtain ⟨vs, h5, h6, h7⟩ := h4
  obtain ⟨hB, us, h8, h9, h10⟩ := h.boxes b ty' xs hb
  have hone : ∀ (j : Nat) (x : Leaf) (u : Value), zs1[j]? = some x → vs[j]? = some u → Holds G σ E w x u ∧ u.oneCell' = true := fun j x u hj hu => ⟨h7 j x u hj hu, (h7 j x u hj hu).one (hlv x (get_mem hj))⟩
  have hr := store_run (P := P) (w := w) (b := G.β b) (i := i') (us := vs) (ag := ag) hm h1 (h6.trans hzl) (fun u hu => by
    obtain ⟨j, hj, rfl⟩ := List.getElem_of_mem hu
    exact (hone j zs1[j] vs[j] (by simp [show j < zs1.length by omega]) (by simp [hj])).2) (fun k hk => by
    rw [cell_of_row w _ _ _ _ _ h8]
    simp [show i' + k < us.length by omega]) fun k hk => by simp [World.frozen?, h8]
  have hsm : SameC E τ wl Gs ws (w.setCells (G.β b) i' vs) := by
    refine ⟨⟨(setCells_below _ _ _ _ _ (Nat.le_refl (G.β b))).os.trans hl.same.below.os, (setCells_below _ _ _ _ _ (Nat.le_refl (G.β b))).tape.trans hl.same.below.tape, (setCells_below _ _ _ _ _ (Nat.le_refl (G.β b))).output.trans hl.same.below.output, Nat.le_trans hl.same.below.size (setCells_below _ _ _ _ _ (Nat.le_refl (G.β b))).size, fun q hq => (setCells_far _ _ _ _ q fun e => by subst e; exact hB.elim (fun h1 => Nat.lt_irrefl _ (Nat.lt_of_lt_of_le hq.1 h1)) hq.2).trans (hl.same.below.block q hq)⟩, fun q hq => ?_⟩
    by_cases hqb : q = G.β b
    · exact .inr (.inl ⟨b, hbw, hbt, hqb.trans (hl.β b hbt)⟩)
    · have h1 := setCells_far (G.β b) vs i' w q hqb
      rcases hl.same.block q hq with h2 | h2 | ⟨i2, v2, ty2, es2, n2, ds, ds', f1, f2, f3, f4, f5, f6, f7⟩
      · exact .inl (h1.trans h2)
      · exact .inr (.inl h2)
      · exact .inr (.inr ⟨i2, v2, ty2, es2, n2, ds, ds', f1, f2, f3, f4, h1.trans f5, f6, f7⟩)
  have hrel := h.setbox hb ⟨(setCells_below _ _ _ _ _ (Nat.le_refl (G.β b))).os, (setCells_below _ _ _ _ _ (Nat.le_refl (G.β b))).tape, (setCells_below _ _ _ _ _ (Nat.le_refl (G.β b))).output, (setCells_below _ _ _ _ _ (Nat.le_refl (G.β b))).size, fun k hk => setCells_far (G.β b) vs i' w k fun e => by subst e; exact hB.elim (fun h1 => Nat.lt_irrefl _ (Nat.lt_of_lt_of_le hk.1 h1)) hk.2⟩ (fun k hk => setCells_far (G.β b) vs i' w k hk) (setCells_heap _ _ _ _ us ty' h8 (by omega)) (by simp; omega)
        (cat_get (R := fun x u => Holds G σ E w x u ∧ u.oneCell' = true) h9 h6 (by omega) h10 hone)
  refine wp_skipped (w' := w.setCells (G.β b) i' vs) ?_ (by
    rw [hd]
    exact hK.out _ _ hsm fun _ => k ws Gs _ _ G hrel ⟨hl.start, hsm, hl.vl, hl.β, hl.nx, by simpa [VS.setb] using hl.bs, hl.fresh, fun c h1 h2 => hl.nb c h1 (by simpa [VS.setb] using h2)⟩)
  simp [execOp, ho, h3, h5, Instr.storeAt, Instr.sureAddr, hr, Result.andThen]
theorem DC.alloc {ty : TypeId} {z : Value} {xs : List Leaf} {kk : Nat} (hn : nthO l i = some o) (hk : σ.bs.length = kk) (ho : o.op = .alloc ty) (hz : ∀ w, (zeroValue ty).run P w = .ok z w) (hxs : ZL xs z.cells.toList) (hd : o.dst = some d) (hdN : d < N) (hg : o.guard = none)
    (k : DC E N τ wl fr ((σ.box ty xs).put d (V.one (.bp kk 0))) fun ws Gs a w => wpPi P l.toArray Q (SC E τ wl ws Gs) zs ps a w) : DC E N τ wl fr σ fun ws Gs a w => wpPi P l.toArray Q (SC E τ wl ws Gs) zs (.m i ps) a w := fun ws Gs a w G hr hl => by
  refine pi_step hn fun K hK => ?_
  rw [if_pos (by simp [Region.wanted, hg])]
  subst hk
  obtain ⟨G', h1, h2, h3, h4⟩ := hr.alloc (ty := ty) hxs.len hxs.holds
  have hb : Below w.heap.size w (w.alloc (.cells z.cells.toList.toArray ty)) := (Below.refl _ _).alloc (Nat.le_refl _) _
  have hsame : SameC E τ wl Gs ws (w.alloc (.cells z.cells.toList.toArray ty)) := by
    refine ⟨hl.same.below.trans (.of_below (hb.mono hr.low)), fun b hb' => ?_⟩
    have h5 := hb.block b (Nat.lt_of_lt_of_le hb' hl.same.below.size)
    rcases hl.same.block b hb' with e2 | e2 | ⟨i2, v2, ty2, es2, n2, ds, ds', f1, f2, f3, f4, f5, f6, f7⟩
    · exact .inl (h5.trans e2)
    · exact .inr (.inl e2)
    · exact .inr (.inr ⟨i2, v2, ty2, es2, n2, ds, ds', f1, f2, f3, f4, h5.trans f5, f6, f7⟩)
  refine wp_value (v := .pointer (some ⟨w.heap.size, 0, none⟩)) (w' := w.alloc (.cells z.cells.toList.toArray ty)) ?_ ?_
  · simp [execOp, ho, Instr.alloc, hz, newVar, newRow, Result.andThen]
  rw [hd]
  refine hK.out _ _ hsame fun _ => k ws Gs _ _ G' (h1.put hdN (vone.2 ⟨⟨by simp, by rw [h2]⟩, .inr rfl⟩)) ⟨hl.start, hsame, fun j hj => by rw [h3]; exact hl.vl j hj, fun b hb' => (h4 b (Nat.lt_of_lt_of_le hb' hl.bs)).trans (hl.β b hb'), hl.nx, ?_, fun j hj => ⟨(hl.fresh j hj).1, fun b hb' => (hl.fresh j hj).2 b (by rw [← h3]; exact hb')⟩, fun b h5 h6 => ?_⟩
  · show τ.bs.length ≤ (σ.bs ++ [(ty, xs)]).length
    rw [List.length_append]
    have := hl.bs
    omega
  · have h6' : b < (σ.bs ++ [(ty, xs)]).length := h6
    rw [List.length_append, List.length_singleton] at h6'
    rcases Nat.lt_or_ge b σ.bs.length with h7 | h7
    · rw [h4 b h7]; exact hl.nb b h5 h7
    · rw [show b = σ.bs.length by omega, h2]
      exact hl.same.below.size
theorem DC.alt {ps1 ps2 : Pl} {j : Nat} (h1 : DC E N τ wl fr σ fun ws Gs a w => wpPi P l.toArray Q (SC E τ wl ws Gs) zs (.m i ps1) a w) (h2 : DC E N τ wl fr σ fun ws Gs a w => wpPi P l.toArray Q (SC E τ wl ws Gs) zs (.m j ps2) a w) :
    DC E N τ wl fr σ fun ws Gs a w => wpPi P l.toArray Q (SC E τ wl ws Gs) zs (.alt i ps1 j ps2) a w := fun ws Gs a w G hr hl => ⟨h1 ws Gs a w G hr hl, h2 ws Gs a w G hr hl⟩
theorem DC.stores (h : SV E N σ (wpZ P l.toArray Q zs)) : DC E N τ wl fr σ fun ws Gs a w => wpPi P l.toArray Q (SC E τ wl ws Gs) zs .nil a w := fun ws Gs a w G hr hl => pi_end (h a w G hr)
end Go.Proofs.Ytfghhjcfmmhacaa.V
/- Brokers as plain mathematics: valid ones, clients added, removed and changed, and the grants; no function of program or reference is walked here. -/
namespace Go.Proofs.Ytfghhjcfmmhacaa
open Go.RowKit
set_option linter.unusedVariables false
namespace BrokerD
/-! ### Sums over indices -/
def sumTo (f : Nat → Int) : Nat → Int
  | 0 => 0
  | n + 1 => sumTo f n + f n
theorem sumTo_congr {f g : Nat → Int} : ∀ {n : Nat}, (∀ j, j < n → f j = g j) → sumTo f n = sumTo g n
  | 0, _ => rfl
  | n + 1, h => by
    show sumTo f n + f n = sumTo g n + g n
    rw [sumTo_congr fun j hj => h j (Nat.lt_succ_of_lt hj), h n (Nat.lt_succ_self n)]
theorem sumTo_one {f g : Nat → Int} {t : Nat} {d : Int} : ∀ {n : Nat}, t < n → (∀ j, j < n → j ≠ t → f j = g j) → f t = g t + d → sumTo f n = sumTo g n + d
  | n + 1, ht, h, hd => by
    show sumTo f n + f n = sumTo g n + g n + d
    rcases Nat.lt_or_ge t n with h1 | h1
    · rw [sumTo_one h1 (fun j hj hne => h j (Nat.lt_succ_of_lt hj) hne) hd, h n (Nat.lt_succ_self n) (by omega)]
      omega
    · have e : t = n := by omega
      subst e
      rw [sumTo_congr (g := g) fun j hj => h j (Nat.lt_succ_of_lt hj) (by omega), hd]
      omega
theorem sumTo_nonneg {f : Nat → Int} : ∀ {n : Nat}, (∀ j, j < n → 0 ≤ f j) → 0 ≤ sumTo f n
  | 0, _ => Int.le_refl 0
  | n + 1, h => by
    have h1 := sumTo_nonneg (f := f) (n := n) fun j hj => h j (Nat.lt_succ_of_lt hj)
    have h2 := h n (Nat.lt_succ_self n)
    show 0 ≤ sumTo f n + f n
    omega
theorem sumTo_mono {f g : Nat → Int} : ∀ {n : Nat}, (∀ j, j < n → f j ≤ g j) → sumTo f n ≤ sumTo g n
  | 0, _ => Int.le_refl 0
  | n + 1, h => by
    have h1 := sumTo_mono (f := f) (g := g) (n := n) fun j hj => h j (Nat.lt_succ_of_lt hj)
    have h2 := h n (Nat.lt_succ_self n)
    show sumTo f n + f n ≤ sumTo g n + g n
    omega
/-! ### Valid brokers -/
def room (p : Int) : Int := min 5 (p / 8)
def okC (n : Int) (c : ClientD) : Bool := decide (0 ≤ c.fID ∧ c.fID ≤ n - 1 ∧ 8 ≤ c.fRequested ∧ c.fRequested ≤ 60 ∧ 0 ≤ c.fPriority ∧ c.fPriority ≤ 9)
def okAt (n : Int) (l : List ClientD) (k : Nat) : Bool := match l[k]? with
  | some c => okC n c && (k == 0 || match l[k - 1]? with | some d => decide (d.fID < c.fID) | none => true)
  | none => true
def okL (n : Int) (l : List ClientD) : Bool := (List.range l.length).all (okAt n l)
def meets (l m : List ClientD) : Bool := l.any fun c => m.any fun d => c.fID == d.fID
def okN (b : BrokerD) : Bool := decide ((8 ≤ b.fPool ∧ b.fPool ≤ 120) ∧ (0 ≤ b.fNextID ∧ b.fNextID ≤ 1000) ∧ (b.fActive.length : Int) ≤ room b.fPool ∧ (b.fWaiting.length = 0 ∨ (b.fActive.length : Int) = room b.fPool) ∧ b.fWaiting.length ≤ 5)
def ok (b : BrokerD) : Bool := okN b && okL b.fNextID b.fActive && okL b.fNextID b.fWaiting && !meets b.fActive b.fWaiting
theorem okL_bad {n : Int} {l : List ClientD} {t : Nat} (ht : t < l.length) (h : okAt n l t = false) : okL n l = false := by
  unfold okL
  rw [List.all_eq_false]
  exact ⟨t, List.mem_range.2 ht, by rw [h]; simp⟩
theorem okL_all {n : Int} {l : List ClientD} (h : ∀ t, t < l.length → okAt n l t = true) : okL n l = true := List.all_eq_true.2 fun t ht => h t (List.mem_range.1 ht)
structure OkL (n : Int) (l : List ClientD) : Prop where
  each : ∀ c ∈ l, okC n c = true
  asc : l.Pairwise fun c d => c.fID < d.fID
theorem okC_iff (n : Int) (c : ClientD) : okC n c = true ↔ (0 ≤ c.fID ∧ c.fID ≤ n - 1 ∧ 8 ≤ c.fRequested ∧ c.fRequested ≤ 60 ∧ 0 ≤ c.fPriority ∧ c.fPriority ≤ 9) := by unfold okC; exact decide_eq_true_iff
theorem asc_of_steps : ∀ {l : List ClientD}, (∀ k c d, l[k]? = some c → l[k + 1]? = some d → c.fID < d.fID) → l.Pairwise fun c d => c.fID < d.fID
  | [], _ => List.Pairwise.nil
  | [c], _ => List.pairwise_singleton _ _
  | c :: d :: l, h => by
    have h1 : (d :: l).Pairwise fun c d => c.fID < d.fID := asc_of_steps fun k x y hx hy => h (k + 1) x y (by simpa using hx) (by simpa using hy)
    have h0 := h 0 c d rfl rfl
    refine List.pairwise_cons.2 ⟨fun x hx => ?_, h1⟩
    rcases List.mem_cons.1 hx with rfl | hx
    · exact h0
    · exact Int.lt_trans h0 ((List.pairwise_cons.1 h1).1 x hx)
theorem OkL.of {n : Int} {l : List ClientD} (h : okL n l = true) : OkL n l := by
  unfold okL at h
  rw [List.all_eq_true] at h
  refine ⟨fun c hc => ?_, asc_of_steps fun k c d hc hd => ?_⟩
  · obtain ⟨k, hk, rfl⟩ := List.mem_iff_getElem.1 hc
    have h1 := h k (List.mem_range.2 hk)
    unfold okAt at h1
    rw [List.getElem?_eq_getElem hk] at h1
    simp only [Bool.and_eq_true] at h1
    exact h1.1
  · have hk : k + 1 < l.length := by
      rcases Nat.lt_or_ge (k + 1) l.length with h1 | h1
      · exact h1
      · rw [List.getElem?_eq_none h1] at hd; cases hd
    have h1 := h (k + 1) (List.mem_range.2 hk)
    unfold okAt at h1
    rw [hd, Nat.add_sub_cancel, hc] at h1
    rw [Bool.and_eq_true] at h1
    simpa using h1.2
theorem OkL.yes {n : Int} {l : List ClientD} (h : OkL n l) : okL n l = true := okL_all fun t ht => by
  unfold okAt
  rw [List.getElem?_eq_getElem ht]
  simp only [Bool.and_eq_true, Bool.or_eq_true, beq_iff_eq]
  refine ⟨h.each _ (List.getElem_mem ht), ?_⟩
  rcases Nat.eq_zero_or_pos t with h0 | h0
  · exact .inl h0
  · refine .inr ?_
    have ht1 : t - 1 < l.length := by omega
    rw [List.getElem?_eq_getElem ht1]
    exact decide_eq_true (List.pairwise_iff_getElem.1 h.asc (t - 1) t ht1 ht (by omega))
structure Ok (b : BrokerD) : Prop where
  num : okN b = true
  act : OkL b.fNextID b.fActive
  wai : OkL b.fNextID b.fWaiting
  off : ∀ c ∈ b.fActive, ∀ d ∈ b.fWaiting, c.fID ≠ d.fID
theorem meets_iff {l m : List ClientD} : meets l m = true ↔ ∃ c ∈ l, ∃ d ∈ m, c.fID = d.fID := by
  unfold meets
  simp only [List.any_eq_true, beq_iff_eq]
theorem Ok.of {b : BrokerD} (h : ok b = true) : Ok b := by
  unfold ok at h
  simp only [Bool.and_eq_true, Bool.not_eq_true'] at h
  refine ⟨h.1.1.1, OkL.of h.1.1.2, OkL.of h.1.2, fun c hc d hd e => ?_⟩
  have := meets_iff.2 ⟨c, hc, d, hd, e⟩
  rw [h.2] at this
  cases this
theorem Ok.yes {b : BrokerD} (h : Ok b) : ok b = true := by
  unfold ok
  simp only [Bool.and_eq_true, Bool.not_eq_true']
  refine ⟨⟨⟨h.num, h.act.yes⟩, h.wai.yes⟩, ?_⟩
  cases hm : meets b.fActive b.fWaiting with
  | false => rfl
  | true =>
    obtain ⟨c, hc, d, hd, e⟩ := meets_iff.1 hm
    exact absurd e (h.off c hc d hd)
theorem okN_iff (b : BrokerD) : okN b = true ↔ ((8 ≤ b.fPool ∧ b.fPool ≤ 120) ∧ (0 ≤ b.fNextID ∧ b.fNextID ≤ 1000) ∧ (b.fActive.length : Int) ≤ room b.fPool ∧ (b.fWaiting.length = 0 ∨ (b.fActive.length : Int) = room b.fPool) ∧ b.fWaiting.length ≤ 5) := by unfold okN; exact decide_eq_true_iff
/-! ### Clients by ID -/
def at? (l : List ClientD) (id : Int) : Option Nat := l.findIdx? fun c => c.fID == id
def atI (l : List ClientD) (id : Int) : Int := match at? l id with | some k => k | none => -1
def put (l : List ClientD) (c : ClientD) : List ClientD := l.takeWhile (fun d => decide (d.fID < c.fID)) ++ c :: l.dropWhile fun d => decide (d.fID < c.fID)
def bestAt (l : List ClientD) : Nat → Nat
  | 0 => 0
  | t + 1 => match l[t + 1]?, l[bestAt l t]? with
    | some c, some d => if d.fPriority < c.fPriority then t + 1 else bestAt l t
    | _, _ => bestAt l t
def best (l : List ClientD) : Nat := bestAt l (l.length - 1)
/-! ### The functions -/
def isPool (p : Int) : Bool := decide (8 ≤ p ∧ p ≤ 120)
def new (p : Int) : BrokerD := if isPool p = true then ⟨p, 0, [], []⟩ else ⟨0, 0, [], []⟩
def isWant (w : Int) : Bool := decide (8 ≤ w ∧ w ≤ 60)
def canAdd (b : BrokerD) (w p : Int) : Bool := ok b && isWant w && decide (0 ≤ p ∧ p ≤ 9) && decide (b.fNextID ≠ 1000) && decide (b.fWaiting.length ≠ 5)
def added (b : BrokerD) (w p : Int) : BrokerD := if (b.fActive.length : Int) < room b.fPool then ⟨b.fPool, b.fNextID + 1, b.fActive ++ [⟨b.fNextID, w, p⟩], b.fWaiting⟩ else ⟨b.fPool, b.fNextID + 1, b.fActive, b.fWaiting ++ [⟨b.fNextID, w, p⟩]⟩
def add (b : BrokerD) (w p : Int) : BrokerD := if canAdd b w p = true then added b w p else b
def addId (b : BrokerD) (w p : Int) : Int := if canAdd b w p = true then b.fNextID else 0
def letIn (b : BrokerD) (a : List ClientD) : BrokerD := match b.fWaiting[best b.fWaiting]? with
  | some c => ⟨b.fPool, b.fNextID, put a c, b.fWaiting.eraseIdx (best b.fWaiting)⟩
  | none => ⟨b.fPool, b.fNextID, a, b.fWaiting⟩
def removed (b : BrokerD) (id : Int) : Option BrokerD := if ok b = true then (match at? b.fWaiting id with
  | some k => some ⟨b.fPool, b.fNextID, b.fActive, b.fWaiting.eraseIdx k⟩
  | none => match at? b.fActive id with
    | some k => some (letIn b (b.fActive.eraseIdx k))
    | none => none) else none
def setAt (l : List ClientD) (id w : Int) : List ClientD := match at? l id with
  | some k => l.modify k fun c => ⟨c.fID, w, c.fPriority⟩
  | none => l
def canReq (b : BrokerD) (id w : Int) : Bool := ok b && isWant w && ((at? b.fActive id).isSome || (at? b.fWaiting id).isSome)
def setReq (b : BrokerD) (id w : Int) : BrokerD := if (ok b && isWant w) = true then ⟨b.fPool, b.fNextID, setAt b.fActive id w, setAt b.fWaiting id w⟩ else b
/-! ### Grants -/
def need (A : List ClientD) (j : Nat) : Int := match A[j]? with | some c => c.fRequested - 8 | none => 0
def prio (A : List ClientD) (j : Nat) : Int := match A[j]? with | some c => c.fPriority | none => 0
def upTo (A : List ClientD) (p : Int) (t : Nat) : Int := sumTo (fun j => if p < prio A j ∨ (prio A j = p ∧ j < t) then need A j else 0) A.length
def give (r n s : Int) : Int := max 0 (min n (r - s))
def grantAt (r : Int) (A : List ClientD) (i : Nat) : Int := 8 + give r (need A i) (upTo A (prio A i) i)
def grantsOf (r : Int) (A : List ClientD) : List Int := (List.range A.length).map (grantAt r A)
def rest (b : BrokerD) : Int := b.fPool - 8 * (b.fActive.length : Int)
def grants (b : BrokerD) : List Int := if ok b = true then grantsOf (rest b) b.fActive else []
def grantAtT (r : Int) (A : List ClientD) (p : Int) (t : Nat) (i : Nat) : Int := if p < prio A i ∨ (prio A i = p ∧ i < t) then grantAt r A i else 8
def leftT (r : Int) (A : List ClientD) (p : Int) (t : Nat) : Int := max 0 (r - upTo A p t)
theorem upTo_skip {A : List ClientD} {p : Int} {t : Nat} (h : prio A t ≠ p) : upTo A p (t + 1) = upTo A p t := sumTo_congr fun j hj => by
  by_cases h1 : prio A j = p
  · have : j ≠ t := fun e => h (e ▸ h1)
    have e : (j < t + 1) = (j < t) := by apply propext; omega
    simp only [e]
  · simp [h1]
theorem upTo_take {A : List ClientD} {p : Int} {t : Nat} (ht : t < A.length) (h : prio A t = p) : upTo A p (t + 1) = upTo A p t + need A t := sumTo_one ht (fun j hj hne => by
    have e : (j < t + 1) = (j < t) := by apply propext; omega
    simp only [e]) (by simp [h])
theorem upTo_next {A : List ClientD} {p : Int} : upTo A p A.length = upTo A (p - 1) 0 := sumTo_congr fun j hj => by
  have e : (p < prio A j ∨ (prio A j = p ∧ j < A.length)) = (p - 1 < prio A j ∨ (prio A j = p - 1 ∧ j < 0)) := by apply propext; omega
  simp only [e]
theorem need_nonneg {n : Int} {A : List ClientD} (h : OkL n A) (j : Nat) : 0 ≤ need A j := by
  unfold need
  split
  · rename_i c hc
    have := (okC_iff n c).1 (h.each c (List.mem_of_getElem? hc))
    omega
  · exact Int.le_refl 0
theorem prio_range {n : Int} {A : List ClientD} (h : OkL n A) (j : Nat) : 0 ≤ prio A j ∧ prio A j ≤ 9 := by
  unfold prio
  split
  · rename_i c hc
    have := (okC_iff n c).1 (h.each c (List.mem_of_getElem? hc))
    omega
  · omega
theorem upTo_nonneg {n : Int} {A : List ClientD} (h : OkL n A) (p : Int) (t : Nat) : 0 ≤ upTo A p t := sumTo_nonneg fun j hj => by
  have := need_nonneg h j
  split <;> omega
theorem left_take {n : Int} {A : List ClientD} {r p : Int} {t : Nat} (h : OkL n A) (ht : t < A.length) (hp : prio A t = p) : leftT r A p (t + 1) = leftT r A p t - min (leftT r A p t) (need A t) ∧ 8 + min (leftT r A p t) (need A t) = grantAt r A t := by
  have h1 := need_nonneg h t
  subst hp
  unfold leftT grantAt give
  rw [upTo_take ht rfl]
  constructor <;> omega
end BrokerD
end Go.Proofs.Ytfghhjcfmmhacaa
/- Brokers as plain mathematics: what the grants keep, and what adding and removing keep; no function of program or reference is walked here. -/
namespace Go.Proofs.Ytfghhjcfmmhacaa
open Go.RowKit
set_option linter.unusedVariables false
namespace BrokerD
/-! ### Sums of grants -/
theorem upTo_start {n : Int} {A : List ClientD} (h : OkL n A) : upTo A 9 0 = 0 := by
  have : upTo A 9 0 = sumTo (fun _ => 0) A.length := sumTo_congr fun j hj => by
    have := prio_range h j
    rw [if_neg (by omega)]
  rw [this]
  have z : ∀ k, sumTo (fun _ => 0) k = 0 := fun k => by induction k with
    | zero => rfl
    | succ k ih => show sumTo (fun _ => 0) k + 0 = 0; rw [ih]; rfl
  exact z _
theorem sum_start {n r : Int} {A : List ClientD} (h : OkL n A) : ∀ k, sumTo (grantAtT r A 9 0) k = 8 * (k : Int)
  | 0 => rfl
  | k + 1 => by
    have := prio_range h k
    show sumTo (grantAtT r A 9 0) k + grantAtT r A 9 0 k = _
    rw [sum_start h k]
    unfold grantAtT
    rw [if_neg (by omega)]
    omega
theorem grantT_skip {r : Int} {A : List ClientD} {p : Int} {t : Nat} (h : prio A t ≠ p) (i : Nat) : grantAtT r A p (t + 1) i = grantAtT r A p t i := by
  unfold grantAtT
  by_cases h1 : prio A i = p
  · have : i ≠ t := fun e => h (e ▸ h1)
    have e : (i < t + 1) = (i < t) := by apply propext; omega
    simp only [e]
  · simp [h1]
theorem grantT_ne {r : Int} {A : List ClientD} {p : Int} {t : Nat} {i : Nat} (h : i ≠ t) : grantAtT r A p (t + 1) i = grantAtT r A p t i := by
  unfold grantAtT
  have e : (i < t + 1) = (i < t) := by apply propext; omega
  simp only [e]
theorem grantT_at {r : Int} {A : List ClientD} {t : Nat} : grantAtT r A (prio A t) t t = 8 ∧ grantAtT r A (prio A t) (t + 1) t = grantAt r A t := by
  unfold grantAtT
  constructor
  · rw [if_neg (by omega)]
  · rw [if_pos (by omega)]
theorem grantT_next {r : Int} {A : List ClientD} {p : Int} {i : Nat} (hi : i < A.length) : grantAtT r A p A.length i = grantAtT r A (p - 1) 0 i := by
  unfold grantAtT
  have e : (p < prio A i ∨ (prio A i = p ∧ i < A.length)) = (p - 1 < prio A i ∨ (prio A i = p - 1 ∧ i < 0)) := by apply propext; omega
  simp only [e]
theorem grantT_end {n r : Int} {A : List ClientD} (h : OkL n A) (i : Nat) : grantAtT r A (-1) 0 i = grantAt r A i := by
  have := prio_range h i
  unfold grantAtT
  rw [if_pos (by omega)]
theorem leftT_next {r : Int} {A : List ClientD} {p : Int} : leftT r A p A.length = leftT r A (p - 1) 0 := by unfold leftT; rw [upTo_next]
theorem leftT_skip {r : Int} {A : List ClientD} {p : Int} {t : Nat} (h : prio A t ≠ p) : leftT r A p (t + 1) = leftT r A p t := by unfold leftT; rw [upTo_skip h]
theorem leftT_start {n r : Int} {A : List ClientD} (h : OkL n A) (hr : 0 ≤ r) : leftT r A 9 0 = r := by unfold leftT; rw [upTo_start h]; omega
theorem sum_inv {n r : Int} {A : List ClientD} (h : OkL n A) {p : Int} {t : Nat} (ht : t < A.length) (hs : sumTo (grantAtT r A p t) A.length = 8 * (A.length : Int) + (r - leftT r A p t)) : sumTo (grantAtT r A p (t + 1)) A.length = 8 * (A.length : Int) + (r - leftT r A p (t + 1)) := by
  by_cases hp : prio A t = p
  · obtain ⟨h1, h2⟩ := left_take (r := r) h ht hp
    subst hp
    have h3 := grantT_at (r := r) (A := A) (t := t)
    rw [sumTo_one (f := grantAtT r A (prio A t) (t + 1)) (g := grantAtT r A (prio A t) t) (d := grantAt r A t - 8) ht (fun j _ hj => grantT_ne hj) (by rw [h3.1, h3.2]; omega), hs, h1]
    omega
  · rw [sumTo_congr (g := grantAtT r A p t) fun j _ => grantT_skip hp j, hs, leftT_skip hp]
theorem sum_row {n r : Int} {A : List ClientD} (h : OkL n A) {p : Int} (hs : sumTo (grantAtT r A p 0) A.length = 8 * (A.length : Int) + (r - leftT r A p 0)) : ∀ t, t ≤ A.length → sumTo (grantAtT r A p t) A.length = 8 * (A.length : Int) + (r - leftT r A p t)
  | 0, _ => hs
  | t + 1, ht => sum_inv h ht (sum_row h hs t (by omega))
theorem sum_rows {n r : Int} {A : List ClientD} (h : OkL n A) (hr : 0 ≤ r) : ∀ k : Nat, k ≤ 10 → sumTo (grantAtT r A (9 - (k : Int)) 0) A.length = 8 * (A.length : Int) + (r - leftT r A (9 - (k : Int)) 0)
  | 0, _ => by
    show sumTo (grantAtT r A 9 0) A.length = 8 * (A.length : Int) + (r - leftT r A 9 0)
    rw [sum_start h, leftT_start h hr]
    omega
  | k + 1, hk => by
    have h1 := sum_row h (sum_rows h hr k (by omega)) A.length (Nat.le_refl _)
    rw [sumTo_congr (g := grantAtT r A (9 - (k : Int) - 1) 0) fun j hj => grantT_next hj, leftT_next] at h1
    have e : (9 : Int) - ((k + 1 : Nat) : Int) = 9 - (k : Int) - 1 := by omega
    rw [e]
    exact h1
theorem sum_grants {n r : Int} {A : List ClientD} (h : OkL n A) (hr : 0 ≤ r) : sumTo (grantAt r A) A.length ≤ 8 * (A.length : Int) + r := by
  have h1 := sum_rows h hr 10 (Nat.le_refl _)
  have e : (9 : Int) - ((10 : Nat) : Int) = -1 := rfl
  rw [e, sumTo_congr (g := grantAt r A) fun j _ => grantT_end h j] at h1
  have h2 : 0 ≤ leftT r A (-1) 0 := by unfold leftT; omega
  omega
/-! ### Each grant -/
theorem grant_low (r : Int) (A : List ClientD) (i : Nat) : 8 ≤ grantAt r A i := by unfold grantAt give; omega
theorem grant_high {n r : Int} {A : List ClientD} (h : OkL n A) (i : Nat) : grantAt r A i ≤ 8 + need A i := by
  have := need_nonneg h i
  unfold grantAt give
  omega
theorem ahead {n : Int} {A : List ClientD} (h : OkL n A) {i k : Nat} (hi : i < A.length) (hp : prio A k < prio A i) : upTo A (prio A i) i + need A i ≤ upTo A (prio A k) k := by
  have h1 : sumTo (fun j => if (prio A i < prio A j ∨ (prio A j = prio A i ∧ j < i)) ∨ j = i then need A j else 0) A.length = upTo A (prio A i) i + need A i := sumTo_one hi (fun j _ hj => by simp [hj]) (by simp)
  rw [← h1]
  refine sumTo_mono fun j hj => ?_
  have h2 := need_nonneg h j
  by_cases hc : (prio A i < prio A j ∨ (prio A j = prio A i ∧ j < i)) ∨ j = i
  · have : prio A k < prio A j ∨ (prio A j = prio A k ∧ j < k) := by
      rcases hc with (hc | hc) | rfl
      · exact .inl (by omega)
      · exact .inl (by omega)
      · exact .inl hp
    rw [if_pos hc, if_pos this]
    exact Int.le_refl _
  · rw [if_neg hc]
    split <;> omega
theorem room_le {p : Int} (h : 8 ≤ p) : 1 ≤ room p ∧ room p ≤ 5 ∧ 8 * room p ≤ p := by unfold room; omega
theorem Ok.spare {b : BrokerD} (h : Ok b) : 0 ≤ rest b := by
  have h1 := (okN_iff b).1 h.num
  have h2 := room_le h1.1.1
  unfold BrokerD.rest
  omega
theorem Ok.sum {b : BrokerD} (h : Ok b) : sumTo (grantAt (rest b) b.fActive) b.fActive.length ≤ b.fPool := by
  have h1 := sum_grants h.act h.spare
  unfold BrokerD.rest at h1 ⊢
  omega
/-! ### Adding -/
theorem OkL.mono {n m : Int} {l : List ClientD} (h : OkL n l) (hm : n ≤ m) : OkL m l := ⟨fun c hc => by
  have := (okC_iff n c).1 (h.each c hc)
  exact (okC_iff m c).2 (by omega), h.asc⟩
theorem OkL.snoc {n : Int} {l : List ClientD} {w p : Int} (h : OkL n l) (hn : 0 ≤ n) (hw : 8 ≤ w ∧ w ≤ 60) (hp : 0 ≤ p ∧ p ≤ 9) : OkL (n + 1) (l ++ [⟨n, w, p⟩]) := ⟨fun c hc => by
  rcases List.mem_append.1 hc with h1 | h1
  · exact (h.mono (by omega)).each c h1
  · rw [List.mem_singleton.1 h1]
    exact (okC_iff _ _).2 (by dsimp only; omega), List.pairwise_append.2 ⟨h.asc, List.pairwise_singleton _ _, fun c hc d hd => by
  rw [List.mem_singleton.1 hd]
  have := (okC_iff n c).1 (h.each c hc)
  show c.fID < n
  omega⟩⟩
theorem canAdd_iff (b : BrokerD) (w p : Int) : canAdd b w p = true ↔ (ok b = true ∧ (8 ≤ w ∧ w ≤ 60) ∧ (0 ≤ p ∧ p ≤ 9) ∧ b.fNextID ≠ 1000 ∧ b.fWaiting.length ≠ 5) := by
  unfold canAdd isWant
  simp only [Bool.and_eq_true, decide_eq_true_eq, and_assoc]
theorem Ok.added {b : BrokerD} {w p : Int} (h : canAdd b w p = true) : Ok (added b w p) ∧ (added b w p).fActive.length + (added b w p).fWaiting.length = b.fActive.length + b.fWaiting.length + 1 := by
  obtain ⟨h0, hw, hp, hn, hl⟩ := (canAdd_iff b w p).1 h
  have ho := Ok.of h0
  have h1 := (okN_iff b).1 ho.num
  have low : ∀ l, OkL b.fNextID l → ∀ c ∈ l, c.fID ≠ b.fNextID := fun l hl c hc => by
    have := (okC_iff _ c).1 (hl.each c hc)
    omega
  unfold BrokerD.added
  split
  · rename_i hr
    refine ⟨⟨?_, ho.act.snoc h1.2.1.1 hw hp, ho.wai.mono (by show b.fNextID ≤ b.fNextID + 1; omega), fun c hc d hd => ?_⟩, by simp; omega⟩
    · rw [okN_iff]
      simp only [List.length_append, List.length_cons, List.length_nil]
      have hw0 : b.fWaiting.length = 0 := by
        rcases h1.2.2.2.1 with h2 | h2
        · exact h2
        · omega
      omega
    · rcases List.mem_append.1 hc with h2 | h2
      · exact ho.off c h2 d hd
      · rw [List.mem_singleton.1 h2]
        exact (low _ ho.wai d hd).symm
  · rename_i hr
    refine ⟨⟨?_, ho.act.mono (by show b.fNextID ≤ b.fNextID + 1; omega), ho.wai.snoc h1.2.1.1 hw hp, fun c hc d hd => ?_⟩, by simp; omega⟩
    · rw [okN_iff]
      simp only [List.length_append, List.length_cons, List.length_nil]
      omega
    · rcases List.mem_append.1 hd with h2 | h2
      · exact ho.off c hc d h2
      · rw [List.mem_singleton.1 h2]
        exact low _ ho.act c hc
end BrokerD
end Go.Proofs.Ytfghhjcfmmhacaa
