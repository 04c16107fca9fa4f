/- Texts joined: BrokerR BrokerS InT VQ BrkA BrokerV VFg Kit Bits Draw Byte Below New Pick Code Block RowDraw RowsDraw OneRows Draw7 VDr VCu VKt VDc BriA BrkB VRo VNo. -/
import Derived.Test.YtfghhjcfmmhacaaPartEb
import Derived.Test.YtfghhjcfmmhacaaProg
import Derived.WalkKit
import Derived.Below
import Derived.Lib.Hide
import Derived.OwnWalk
import Derived.Laws.IdiomStrings
import Derived.IntWalk
import Derived.Laws.OwnMore
import Derived.Laws.BitsAllLaws
import Derived.Laws.BitsLemmas
import Derived.Deep.QuietTactic
import Derived.BigQuiet
import Derived.OpenShut
import Derived.Deep.RegionWith
set_option linter.unusedSimpArgs false
set_option linter.unusedVariables false
/- Brokers as plain mathematics: removing a client, and what the grants of the others become; no function of program or reference is walked here. -/
namespace Go.Proofs.Ytfghhjcfmmhacaa
open Go.RowKit
set_option linter.unusedVariables false
namespace BrokerD
/-! ### A client by ID -/
theorem at_some {l : List ClientD} {id : Int} {t : Nat} (ht : t < l.length) (hl : l[t].fID = id) (hb : ∀ u c, u < t → l[u]? = some c → c.fID ≠ id) : at? l id = some t := by
  unfold at?
  rw [List.findIdx?_eq_some_iff_getElem]
  refine ⟨ht, by simpa using hl, fun j hj => ?_⟩
  have := hb j l[j] hj (List.getElem?_eq_getElem (Nat.lt_trans hj ht))
  simpa using this
theorem at_none {l : List ClientD} {id : Int} (hb : ∀ c ∈ l, c.fID ≠ id) : at? l id = none := by
  unfold at?
  rw [List.findIdx?_eq_none_iff]
  exact fun c hc => by simpa using hb c hc
theorem of_at {l : List ClientD} {id : Int} {k : Nat} (h : at? l id = some k) : ∃ c, l[k]? = some c ∧ c.fID = id ∧ k < l.length := by
  unfold at? at h
  rw [List.findIdx?_eq_some_iff_getElem] at h
  obtain ⟨hk, h1, -⟩ := h
  exact ⟨l[k], List.getElem?_eq_getElem hk, by simpa using h1, hk⟩
theorem of_at_none {l : List ClientD} {id : Int} (h : at? l id = none) : ∀ c ∈ l, c.fID ≠ id := by
  unfold at? at h
  rw [List.findIdx?_eq_none_iff] at h
  exact fun c hc => by simpa using h c hc
theorem atI_some {l : List ClientD} {id : Int} {k : Nat} (h : at? l id = some k) : atI l id = k := by unfold atI; rw [h]
theorem atI_none {l : List ClientD} {id : Int} (h : at? l id = none) : atI l id = -1 := by unfold atI; rw [h]
/-! ### Lists with one less, with one more -/
theorem OkL.sub {n : Int} {l m : List ClientD} (h : OkL n l) (hs : m.Sublist l) : OkL n m := ⟨fun c hc => h.each c (hs.subset hc), h.asc.sublist hs⟩
theorem OkL.erase {n : Int} {l : List ClientD} (h : OkL n l) (k : Nat) : OkL n (l.eraseIdx k) := h.sub (List.eraseIdx_sublist l k)
theorem erase_ne {n : Int} {l : List ClientD} (h : OkL n l) {k : Nat} (hk : k < l.length) : ∀ c ∈ l.eraseIdx k, c.fID ≠ l[k].fID := fun c hc => by
  obtain ⟨j, hjk, hj⟩ := List.mem_eraseIdx_iff_getElem.1 hc
  obtain ⟨hne, hl⟩ := hj
  rcases Nat.lt_or_ge j k with h1 | h1
  · rw [← hl]
    exact Int.ne_of_lt (List.pairwise_iff_getElem.1 h.asc j k hjk hk h1)
  · rw [← hl]
    exact (Int.ne_of_lt (List.pairwise_iff_getElem.1 h.asc k j hk hjk (by omega))).symm
theorem mem_put {l : List ClientD} {c d : ClientD} : d ∈ put l c ↔ d = c ∨ d ∈ l := by
  unfold put
  rw [List.mem_append, List.mem_cons]
  constructor
  · rintro (h | h | h)
    · exact .inr ((List.takeWhile_sublist _).subset h)
    · exact .inl h
    · exact .inr ((List.dropWhile_sublist _).subset h)
  · rintro (h | h)
    · exact .inr (.inl h)
    · rw [← List.takeWhile_append_dropWhile (p := fun d => decide (d.fID < c.fID)) (l := l), List.mem_append] at h
      rcases h with h | h
      · exact .inl h
      · exact .inr (.inr h)
theorem put_length (l : List ClientD) (c : ClientD) : (put l c).length = l.length + 1 := by
  unfold put
  rw [List.length_append, List.length_cons]
  have := congrArg List.length (List.takeWhile_append_dropWhile (p := fun d => decide (d.fID < c.fID)) (l := l))
  rw [List.length_append] at this
  omega
theorem takeWhile_all {p : ClientD → Bool} : ∀ {l : List ClientD}, ∀ c ∈ l.takeWhile p, p c = true
  | [], c, h => by cases h
  | a :: l, c, h => by
    rw [List.takeWhile_cons] at h
    split at h
    · rename_i hp
      rcases List.mem_cons.1 h with rfl | h
      · exact hp
      · exact takeWhile_all c h
    · cases h
theorem drop_above {c : ClientD} : ∀ {l : List ClientD}, l.Pairwise (fun a b => a.fID < b.fID) → (∀ d ∈ l, d.fID ≠ c.fID) → ∀ d ∈ l.dropWhile (fun d => decide (d.fID < c.fID)), c.fID < d.fID
  | [], _, _, d, h => by cases h
  | a :: l, hp, hn, d, h => by
    rw [List.dropWhile_cons] at h
    split at h
    · exact drop_above (List.pairwise_cons.1 hp).2 (fun d hd => hn d (List.mem_cons_of_mem _ hd)) d h
    · rename_i ha
      have h1 : c.fID < a.fID := by
        have h2 := hn a (List.mem_cons_self ..)
        have h3 : ¬ a.fID < c.fID := by simpa using ha
        omega
      rcases List.mem_cons.1 h with rfl | h
      · exact h1
      · exact Int.lt_trans h1 ((List.pairwise_cons.1 hp).1 d h)
theorem OkL.put {n : Int} {l : List ClientD} {c : ClientD} (h : OkL n l) (hc : okC n c = true) (hn : ∀ d ∈ l, d.fID ≠ c.fID) : OkL n (put l c) := ⟨fun d hd => by
  rcases mem_put.1 hd with rfl | hd
  · exact hc
  · exact h.each d hd, by
  unfold BrokerD.put
  refine List.pairwise_append.2 ⟨h.asc.sublist (List.takeWhile_sublist _), List.pairwise_cons.2 ⟨drop_above h.asc hn, h.asc.sublist (List.dropWhile_sublist _)⟩, fun a ha b hb => ?_⟩
  have h1 : a.fID < c.fID := by simpa using takeWhile_all a ha
  rcases List.mem_cons.1 hb with rfl | hb
  · exact h1
  · exact Int.lt_trans h1 (drop_above h.asc hn b hb)⟩
theorem bestAt_le (l : List ClientD) : ∀ t, bestAt l t ≤ t
  | 0 => Nat.le_refl 0
  | t + 1 => by
    unfold bestAt
    split
    · split
      · exact Nat.le_refl _
      · exact Nat.le_succ_of_le (bestAt_le l t)
    · exact Nat.le_succ_of_le (bestAt_le l t)
theorem best_lt {l : List ClientD} (h : 0 < l.length) : best l < l.length := by
  have := bestAt_le l (l.length - 1)
  unfold best
  omega
/-! ### A client removed -/
def total (b : BrokerD) : Nat := b.fActive.length + b.fWaiting.length
theorem Ok.quit {b : BrokerD} {k : Nat} (h : Ok b) (hk : k < b.fWaiting.length) : Ok ⟨b.fPool, b.fNextID, b.fActive, b.fWaiting.eraseIdx k⟩ := by
  have h1 := (okN_iff b).1 h.num
  refine ⟨?_, h.act, h.wai.erase k, fun c hc d hd => h.off c hc d ((List.eraseIdx_sublist _ _).subset hd)⟩
  rw [okN_iff]
  dsimp only
  rw [List.length_eraseIdx_of_lt hk]
  omega
theorem Ok.letIn {b : BrokerD} {k : Nat} (h : Ok b) (hk : k < b.fActive.length) : Ok (letIn b (b.fActive.eraseIdx k)) ∧ total (letIn b (b.fActive.eraseIdx k)) + 1 = total b ∧ (∀ c ∈ (letIn b (b.fActive.eraseIdx k)).fActive, c.fID ≠ b.fActive[k].fID) ∧ (∀ c ∈ (letIn b (b.fActive.eraseIdx k)).fWaiting, c.fID ≠ b.fActive[k].fID) := by
  have h1 := (okN_iff b).1 h.num
  have hoff : ∀ d ∈ b.fWaiting, d.fID ≠ b.fActive[k].fID := fun d hd => (h.off _ (List.getElem_mem hk) d hd).symm
  have hsub := (List.eraseIdx_sublist b.fActive k).subset
  unfold BrokerD.letIn total
  cases hb : b.fWaiting[best b.fWaiting]? with
  | none =>
    have hw : b.fWaiting.length = 0 := by
      rcases Nat.eq_zero_or_pos b.fWaiting.length with h2 | h2
      · exact h2
      · rw [List.getElem?_eq_getElem (best_lt h2)] at hb; cases hb
    refine ⟨⟨?_, h.act.erase k, h.wai, fun c hc d hd => h.off c (hsub hc) d hd⟩, ?_, erase_ne h.act hk, hoff⟩
    · rw [okN_iff]
      dsimp only
      rw [List.length_eraseIdx_of_lt hk]
      omega
    · dsimp only
      rw [List.length_eraseIdx_of_lt hk]
      omega
  | some c =>
    have hbl : best b.fWaiting < b.fWaiting.length := by
      rcases Nat.lt_or_ge (best b.fWaiting) b.fWaiting.length with h2 | h2
      · exact h2
      · rw [List.getElem?_eq_none h2] at hb; cases hb
    have hce : c = b.fWaiting[best b.fWaiting] := by rw [List.getElem?_eq_getElem hbl] at hb; exact (Option.some.inj hb).symm
    have hcm : c ∈ b.fWaiting := List.mem_of_getElem? hb
    refine ⟨⟨?_, (h.act.erase k).put (h.wai.each c hcm) fun d hd => h.off d (hsub hd) c hcm, h.wai.erase _, fun d hd e he => ?_⟩, ?_, fun d hd => ?_, fun d hd => hoff d ((List.eraseIdx_sublist _ _).subset hd)⟩
    · rw [okN_iff]
      dsimp only
      rw [put_length, List.length_eraseIdx_of_lt hk, List.length_eraseIdx_of_lt hbl]
      omega
    · have he' := (List.eraseIdx_sublist _ _).subset he
      rcases mem_put.1 hd with rfl | hd
      · rw [hce]
        exact (erase_ne h.wai hbl e he).symm
      · exact h.off d (hsub hd) e he'
    · dsimp only
      rw [put_length, List.length_eraseIdx_of_lt hk, List.length_eraseIdx_of_lt hbl]
      omega
    · rcases mem_put.1 hd with rfl | hd
      · exact hoff _ hcm
      · exact erase_ne h.act hk d hd
theorem removed_facts {b z : BrokerD} {id : Int} (h : removed b id = some z) : Ok b ∧ Ok z ∧ total z + 1 = total b ∧ at? z.fActive id = none := by
  unfold removed at h
  split at h
  · rename_i ho
    have ho := Ok.of ho
    split at h
    · rename_i k hk
      cases h
      obtain ⟨c, hc, hid, hl⟩ := of_at hk
      refine ⟨ho, ho.quit hl, ?_, at_none fun d hd => ?_⟩
      · unfold total
        dsimp only
        rw [List.length_eraseIdx_of_lt hl]
        omega
      · rw [← hid]
        exact ho.off d hd c (List.mem_of_getElem? hc)
    · split at h
      · rename_i k hk
        cases h
        obtain ⟨c, hc, hid, hl⟩ := of_at hk
        have hce : b.fActive[k] = c := by rw [List.getElem?_eq_getElem hl] at hc; exact Option.some.inj hc
        obtain ⟨h1, h2, h3, -⟩ := ho.letIn hl
        refine ⟨ho, h1, h2, at_none fun d hd => ?_⟩
        rw [← hid, ← hce]
        exact h3 d hd
      · cases h
  · cases h
/-! ### The grants of those who remain -/
def skip (k j : Nat) : Nat := if j < k then j else j + 1
theorem erase_get {l : List ClientD} {k : Nat} (j : Nat) : (l.eraseIdx k)[j]? = l[skip k j]? := by
  rw [List.getElem?_eraseIdx]
  unfold skip
  split <;> rfl
theorem setReq_ok {b : BrokerD} {id w : Int} (h : canReq b id w = true) : ok b = true ∧ isWant w = true := by
  unfold canReq at h
  simp only [Bool.and_eq_true] at h
  exact h.1
theorem OkL.setAt {n : Int} {l : List ClientD} {id w : Int} (h : OkL n l) (hw : isWant w = true) : OkL n (setAt l id w) ∧ (setAt l id w).map (fun c => c.fID) = l.map fun c => c.fID := by
  have hw' : 8 ≤ w ∧ w ≤ 60 := by unfold isWant at hw; exact of_decide_eq_true hw
  unfold BrokerD.setAt
  cases hk : at? l id with
  | none => exact ⟨h, rfl⟩
  | some k =>
    have hm : (l.modify k fun c => ⟨c.fID, w, c.fPriority⟩).map (fun c => c.fID) = l.map fun c => c.fID := by
      apply List.ext_getElem?
      intro i
      rw [List.getElem?_map, List.getElem?_map, List.getElem?_modify]
      cases l[i]? with
      | none => rfl
      | some c => by_cases e : k = i <;> simp [e]
    refine ⟨⟨fun c hc => ?_, ?_⟩, hm⟩
    · obtain ⟨i, hi⟩ := List.mem_iff_getElem?.1 hc
      rw [List.getElem?_modify] at hi
      cases hli : l[i]? with
      | none => rw [hli] at hi; simp at hi
      | some d =>
        rw [hli] at hi
        have hd := (okC_iff n d).1 (h.each d (List.mem_of_getElem? hli))
        by_cases e : k = i
        · simp [e] at hi
          subst hi
          exact (okC_iff n _).2 (by dsimp only; omega)
        · simp [e] at hi
          subst hi
          exact (okC_iff n _).2 hd
    · have h1 : (l.map fun c => c.fID).Pairwise (· < ·) := List.pairwise_map.2 h.asc
      rw [← hm] at h1
      exact List.pairwise_map.1 h1
theorem Ok.setReq {b : BrokerD} {id w : Int} (h : canReq b id w = true) : Ok (setReq b id w) := by
  obtain ⟨ho, hw⟩ := setReq_ok h
  have hO := Ok.of ho
  have h1 := (okN_iff b).1 hO.num
  unfold BrokerD.setReq
  rw [if_pos (by rw [ho, hw]; rfl)]
  obtain ⟨ha, hma⟩ := hO.act.setAt (id := id) hw
  obtain ⟨hv, hmv⟩ := hO.wai.setAt (id := id) hw
  have la : (setAt b.fActive id w).length = b.fActive.length := by simpa using congrArg List.length hma
  have lv : (setAt b.fWaiting id w).length = b.fWaiting.length := by simpa using congrArg List.length hmv
  refine ⟨?_, ha, hv, fun c hc d hd e => ?_⟩
  · rw [okN_iff]
    dsimp only
    rw [la, lv]
    exact h1
  · have hc' : c.fID ∈ b.fActive.map fun c => c.fID := by rw [← hma]; exact List.mem_map.2 ⟨c, hc, rfl⟩
    have hd' : d.fID ∈ b.fWaiting.map fun c => c.fID := by rw [← hmv]; exact List.mem_map.2 ⟨d, hd, rfl⟩
    obtain ⟨c', hc1, hc2⟩ := List.mem_map.1 hc'
    obtain ⟨d', hd1, hd2⟩ := List.mem_map.1 hd'
    exact hO.off c' hc1 d' hd1 (by rw [hc2, hd2, e])
end BrokerD
end Go.Proofs.Ytfghhjcfmmhacaa
/- Brokers as plain mathematics: what the loops of the reference keep; no function of program or reference is walked here. -/
namespace Go.Proofs.Ytfghhjcfmmhacaa
open Go.RowKit
set_option linter.unusedVariables false
namespace BrokerD
theorem put_at {c : ClientD} : ∀ {l : List ClientD} {k : Nat}, k ≤ l.length → (∀ u d, u < k → l[u]? = some d → d.fID < c.fID) → (∀ d, l[k]? = some d → ¬ d.fID < c.fID) → put l c = l.take k ++ c :: l.drop k
  | [], k, hk, _, _ => by
    have : k = 0 := by simpa using hk
    subst this
    rfl
  | a :: l, 0, _, _, he => by
    have := he a rfl
    unfold put
    simp [List.takeWhile_cons, List.dropWhile_cons, this]
  | a :: l, k + 1, hk, hb, he => by
    have h0 := hb 0 a (Nat.succ_pos k) rfl
    have ih := put_at (l := l) (k := k) (by simpa using hk) (fun u d hu hd => hb (u + 1) d (by omega) (by simpa using hd)) (fun d hd => he d (by simpa using hd))
    unfold put at ih ⊢
    simp only [List.takeWhile_cons, List.dropWhile_cons, h0, decide_true, if_true, List.take_succ_cons, List.drop_succ_cons, List.cons_append]
    rw [ih]
theorem erase_at (l : List ClientD) (k : Nat) : l.eraseIdx k = l.take k ++ l.drop (k + 1) := List.eraseIdx_eq_take_drop_succ l k
theorem best_step {l : List ClientD} {t : Nat} {c d : ClientD} (hc : l[t + 1]? = some c) (hd : l[bestAt l t]? = some d) : bestAt l (t + 1) = if d.fPriority < c.fPriority then t + 1 else bestAt l t := by
  rw [bestAt, hc, hd]
/-! ### Grants, list by list -/
def grantsT (r : Int) (A : List ClientD) (p : Int) (t : Nat) : List Int := (List.range A.length).map (grantAtT r A p t)
theorem grantsT_length {r : Int} {A : List ClientD} {p : Int} {t : Nat} : (grantsT r A p t).length = A.length := by simp [grantsT]
theorem grantsT_get {r : Int} {A : List ClientD} {p : Int} {t i : Nat} (hi : i < A.length) : (grantsT r A p t)[i]? = some (grantAtT r A p t i) := by simp [grantsT, hi]
theorem grantsT_start {n r : Int} {A : List ClientD} (h : OkL n A) : List.replicate A.length 8 = grantsT r A 9 0 := by
  apply List.ext_getElem?
  intro i
  rcases Nat.lt_or_ge i A.length with hi | hi
  · rw [grantsT_get hi, List.getElem?_replicate, if_pos hi]
    have := prio_range h i
    unfold grantAtT
    rw [if_neg (by omega)]
  · rw [List.getElem?_eq_none (by simpa using hi), List.getElem?_eq_none (by rw [grantsT_length]; exact hi)]
theorem grantsT_skip {r : Int} {A : List ClientD} {p : Int} {t : Nat} (h : prio A t ≠ p) : grantsT r A p (t + 1) = grantsT r A p t := List.map_congr_left fun i _ => grantT_skip h i
theorem grantsT_take {n r : Int} {A : List ClientD} {p : Int} {t : Nat} (h : OkL n A) (ht : t < A.length) (hp : prio A t = p) : grantsT r A p (t + 1) = (grantsT r A p t).set t (8 + min (leftT r A p t) (need A t)) := by
  apply List.ext_getElem?
  intro i
  rcases Nat.lt_or_ge i A.length with hi | hi
  · rw [grantsT_get hi, List.getElem?_set, grantsT_length]
    by_cases e : t = i
    · subst e
      rw [if_pos rfl, if_pos ht, (left_take h ht hp).2]
      subst hp
      rw [grantT_at.2]
    · rw [if_neg e, grantsT_get hi, grantT_ne (Ne.symm e)]
  · rw [List.getElem?_eq_none (by rw [grantsT_length]; exact hi), List.getElem?_eq_none (by rw [List.length_set, grantsT_length]; exact hi)]
theorem grantsT_at {r : Int} {A : List ClientD} {p : Int} {t : Nat} (ht : t < A.length) (hp : prio A t = p) : (grantsT r A p t)[t]? = some 8 := by
  subst hp
  rw [grantsT_get ht, grantT_at.1]
theorem grantsT_next {r : Int} {A : List ClientD} {p : Int} : grantsT r A p A.length = grantsT r A (p - 1) 0 := List.map_congr_left fun i hi => grantT_next (List.mem_range.1 hi)
theorem grantsT_end {n r : Int} {A : List ClientD} (h : OkL n A) : grantsT r A (-1) 0 = grantsOf r A := List.map_congr_left fun i _ => grantT_end h i
theorem grants_length {b : BrokerD} (h : ok b = true) : (grants b).length = b.fActive.length := by
  unfold grants
  rw [if_pos h]
  simp [grantsOf]
theorem grants_get {b : BrokerD} (h : ok b = true) {i : Nat} (hi : i < b.fActive.length) : (grants b)[i]? = some (grantAt (rest b) b.fActive i) := by
  unfold grants
  rw [if_pos h]
  simp [grantsOf, hi]
theorem grants_bad {b : BrokerD} (h : ok b = false) : grants b = [] := by
  unfold grants
  rw [if_neg (by rw [h]; decide)]
def grantFor (b : BrokerD) (id : Int) : Option Int := if ok b = true then (at? b.fActive id).map fun k => grantAt (rest b) b.fActive k else none
theorem setAt_some {l : List ClientD} {id w : Int} {k : Nat} {c : ClientD} (h : at? l id = some k) (hc : l[k]? = some c) : setAt l id w = l.set k ⟨c.fID, w, c.fPriority⟩ := by
  unfold setAt
  rw [h]
  show l.modify k _ = _
  apply List.ext_getElem?
  intro i
  rw [List.getElem?_modify, List.getElem?_set]
  by_cases e : k = i
  · subst e
    have hk : k < l.length := by
      rcases Nat.lt_or_ge k l.length with h1 | h1
      · exact h1
      · rw [List.getElem?_eq_none h1] at hc; cases hc
    have he : l[k] = c := by rw [List.getElem?_eq_getElem hk] at hc; exact Option.some.inj hc
    simp [hk, he]
  · simp [e]
theorem setAt_none {l : List ClientD} {id w : Int} (h : at? l id = none) : setAt l id w = l := by unfold setAt; rw [h]
theorem leftT_range {n r : Int} {A : List ClientD} (h : OkL n A) (hr : 0 ≤ r) (p : Int) (t : Nat) : 0 ≤ leftT r A p t ∧ leftT r A p t ≤ r := by
  have := upTo_nonneg h p t
  unfold leftT
  omega
theorem need_at {A : List ClientD} {t : Nat} {c : ClientD} (h : A[t]? = some c) : need A t = c.fRequested - 8 ∧ prio A t = c.fPriority := by
  unfold need prio
  rw [h]
  exact ⟨rfl, rfl⟩
end BrokerD
end Go.Proofs.Ytfghhjcfmmhacaa
/- Numbers within bounds: told by trees. -/
namespace Go.Proofs.Ytfghhjcfmmhacaa
open Go Go.RowKit V
set_option linter.unusedVariables false
set_option maxRecDepth 100000 in
set_option maxHeartbeats 2000000 in
theorem vin_s' (x lo hi : Int) : VC Try.prog 56 [(false, [.lit (.int .i64 (x))]), (false, [.lit (.int .i64 (lo))]), (false, [.lit (.int .i64 (hi))])] false [(false, [.lit (.bool (decide (lo ≤ x ∧ x ≤ hi)))])] := by
  refine VC.enter Try.func56 rfl Try.ntmps56 (gle rfl) fun E hE => ?_
  refine SV.seq' ?_
  refine SV.region ?_
  refine SV.op (OpL.ok (nb := 0) (ok_move (v := V.one (.sc _)) (.inr rfl) rfl) rfl (gle rfl)) rfl ?_
  refine SV.nil ?_
  refine SV.tn ?_
  refine SV.seq' ?_
  refine SV.region ?_
  refine SV.op (OpL.ok (nb := 0) (ok_move (v := V.one (.sc _)) (.inl rfl) rfl) rfl (gle rfl)) rfl ?_
  refine SV.op (OpL.ok (nb := 0) (ok_move (v := V.one (.sc _)) (.inl rfl) rfl) rfl (gle rfl)) rfl ?_
  refine SV.op (OpL.ok (nb := 0) (ok_s2 (x := .tmp 7) (x' := .tmp 8) (VScal.one rfl) (VScal.one rfl) (fun ρ h1 h2 w => by go_simp; (try go_bits); with_reducible rfl) rfl) rfl (gle rfl)) rfl ?_
  refine SV.op (OpL.ok (nb := 0) (ok_move (v := V.one (.sc _)) (.inl rfl) rfl) rfl (gle rfl)) rfl ?_
  refine SV.split (d := 10) rfl (fun hg0 => ?_) (fun hg0 => ?_)
  · skip   -- g0.T
    have h0 := hg0
    refine SV.opY (OpL.ok (nb := 0) (ok_move (v := V.one (.sc _)) (.inl rfl) rfl) rfl (gle rfl)) rfl rfl rfl (gle rfl) rfl rfl ?_
    refine SV.opY (OpL.ok (nb := 0) (ok_move (v := V.one (.sc _)) (.inl rfl) rfl) rfl (gle rfl)) rfl rfl rfl (gle rfl) rfl rfl ?_
    refine SV.opY (OpL.ok (nb := 0) (ok_s2 (x := .tmp 11) (x' := .tmp 12) (VScal.one rfl) (VScal.one rfl) (fun ρ h1 h2 w => by go_simp; (try go_bits); with_reducible rfl) rfl) rfl (gle rfl)) rfl rfl rfl (gle rfl) rfl rfl ?_
    refine SV.op (OpL.ok (nb := 0) (ok_pickT (v := V.one (.sc _)) rfl rfl rfl) rfl (gle rfl)) rfl ?_
    refine SV.op (OpL.ok (nb := 0) (ok_move (v := V.one (.sc _)) (.inr rfl) rfl) rfl (gle rfl)) rfl ?_
    refine SV.nil ?_
    refine SV.tn ?_
    refine SV.ret ?_
    apply SV.done (hf := Try.results56) (ht := rfl) (he := .inl rfl)
    case hr => exact (ResAll.cons (ResOk.tmp (ag := false) (xs := [.sc _]) rfl) ResAll.nil')
    case h2 => simp [two]
    refine ⟨rfl, ⟨?_, trivial⟩, trivial⟩ <;> (show some (T.lit (Value.bool _)) = some (T.lit (Value.bool _)); refine congrArg (fun z => some (T.lit (Value.bool z))) ?_; (simp at hg0; simp; omega))
  · skip   -- g0.F
    have h0 := hg0
    refine SV.opN rfl rfl rfl (gle rfl) rfl rfl rfl (gle rfl) ?_
    refine SV.opN rfl rfl rfl (gle rfl) rfl rfl rfl (gle rfl) ?_
    refine SV.opN rfl rfl rfl (gle rfl) rfl rfl rfl (gle rfl) ?_
    refine SV.op (OpL.ok (nb := 0) (ok_pickF (v := V.one (.sc _)) rfl rfl rfl) rfl (gle rfl)) rfl ?_
    refine SV.op (OpL.ok (nb := 0) (ok_move (v := V.one (.sc _)) (.inr rfl) rfl) rfl (gle rfl)) rfl ?_
    refine SV.nil ?_
    refine SV.tn ?_
    refine SV.ret ?_
    apply SV.done (hf := Try.results56) (ht := rfl) (he := .inl rfl)
    case hr => exact (ResAll.cons (ResOk.tmp (ag := false) (xs := [.sc _]) rfl) ResAll.nil')
    case h2 => simp [two]
    refine ⟨rfl, ⟨?_, trivial⟩, trivial⟩ <;> (show some (T.lit (Value.bool _)) = some (T.lit (Value.bool _)); refine congrArg (fun z => some (T.lit (Value.bool z))) ?_; (simp at hg0; simp; omega))
end Go.Proofs.Ytfghhjcfmmhacaa
/- States told by trees: comparisons with nil, calls that write into what they are lent and answer nothing. -/
namespace Go.Proofs.Ytfghhjcfmmhacaa.V
open Go Go.RowKit
set_option linter.unusedVariables false
variable {P : Program} {E : Env} {N nb : Nat} {σ σ' τ : VS} {o : Oper} {a : Act} {w : World} {G : Ghost} {Q : Exit → Act → World → Prop} {K : Act → World → Prop}
def VU (P : Program) (f : FuncId) (ins : List (Bool × List AC)) (ls ls' : List T) : Prop :=
  ∀ (w : World) (lv : Nat → Value) (F : Nat → Nat → Prop) (hF : ∀ i b, i < ls.length → F i b → b < w.heap.size) (vs : List Value), (∀ i t, ls[i]? = some t → Own w 0 t (lv i) (F i) ∧ ∃ ty es, t = .seq ty es) → (∀ i j b, i < ls.length → j < ls.length → i ≠ j → F i b → ¬ F j b) → ArgsM (Env.lend w lv F ls.length hF) ins vs →
    Calls P f vs.toArray w fun e w' => (∃ v, e = .returned v ∧ Same (Env.lend w lv F ls.length hF) (Env.lend w lv F ls.length hF).w0 w') ∧ Lents (Env.lend w lv F ls.length hF) ls' w'
theorem flat_sub {fs : List (List T)} (h : Flat fs) (l n : Nat) : Flat ((fs.take n).drop l) := fun k e j t h1 h2 => by
  rw [List.getElem?_drop, List.getElem?_take] at h1
  split at h1
  · exact h _ e j t h1 h2
  · cases h1
theorem flat_app {fs gs : List (List T)} (h : Flat fs) (k : Flat gs) : Flat (fs ++ gs) := fun q e j t h1 h2 => by
  rcases cat_el h1 with ⟨-, h3⟩ | ⟨-, h3⟩
  · exact h q e j t h3 h2
  · exact k _ e j t h3 h2
theorem flat_one {ts : List T} (h : ts.all isLit = true) : Flat [ts] := flat_of (f := fun _ : Unit => ts) (fun _ => h) [()]
theorem SV.isnil {d : Nat} {x y : Operand} {ty : TypeId} {es : List (List T)} {rest : List Oper} {ops : Array Oper} (hx : σ.ev x = V.one (.ro (.seq ty es))) (hy : σ.ev y = V.one (.sc (.slice none 0 0))) (hd : o.dst = some d) (hdN : d < N) (hg : o.guard = none)
    (hrun : ∀ (ρ : Operand → Value) (ad : Option Addr) (n c : Nat) (w : World), ρ x = .slice ad n c → ρ y = .slice none 0 0 → (execOp ρ o).run P w = .ok (.value (.bool ad.isNone)) w)
    (ht : es = [] → SV E N (σ.put d (V.one (.sc (.bool true)))) (wpList P ops Q rest)) (hf : SV E N (σ.put d (V.one (.sc (.bool false)))) (wpList P ops Q rest)) : SV E N σ (wpList P ops Q (o :: rest)) := fun a w G hr => by
  have h1 := hr.ev x
  rw [hx, vone] at h1
  have h2 := hr.sc hy
  have h3 : Inn E.old w (.seq ty es) (a.eval x) := h1.1
  cases hv : a.eval x with
  | slice ad n c =>
    rw [hv] at h3
    refine wpList_step fun K hK => ?_
    rw [if_pos (by simp [Region.wanted, hg])]
    refine wp_value (v := .bool ad.isNone) (w' := w) (hrun _ ad n c w hv h2) ?_
    rw [hd]
    cases ad with
    | none =>
      have he : es = [] := by
        cases h3 with
        | seq n' hp hz hn hc hm h0 => have := h0 rfl; subst this; exact List.eq_nil_of_length_eq_zero (by omega)
      exact hK _ _ (ht he _ _ G (hr.put hdN (vone.2 ⟨rfl, .inr rfl⟩)))
    | some ad => exact hK _ _ (hf _ _ G (hr.put hdN (vone.2 ⟨rfl, .inr rfl⟩)))
  | _ => rw [hv] at h3; cases h3
end Go.Proofs.Ytfghhjcfmmhacaa.V
/- Brokers' lists: copies, places: told by trees. -/
namespace Go.Proofs.Ytfghhjcfmmhacaa
open Go Go.RowKit V
set_option linter.unusedVariables false
set_option maxRecDepth 100000 in
set_option maxHeartbeats 2000000 in
theorem vroom_s (p : Int) (h0 : 0 ≤ p) (h1 : p ≤ 1000000) : VC Try.prog 57 [(false, [.lit (.int .i64 (p))])] false [(false, [.lit (.int .i64 (BrokerD.room p))])] := by
  refine VC.enter Try.func57 rfl Try.ntmps57 (gle rfl) fun E hE => ?_
  refine SV.seq' ?_
  refine SV.region ?_
  refine SV.op (OpL.ok (nb := 0) (ok_move (v := V.one (.sc _)) (.inr rfl) rfl) rfl (gle rfl)) rfl ?_
  refine SV.nil ?_
  refine SV.tn ?_
  refine SV.seq' ?_
  refine SV.region ?_
  refine SV.op (OpL.ok (nb := 0) (ok_move (v := V.one (.sc _)) (.inl rfl) rfl) rfl (gle rfl)) rfl ?_
  refine SV.op (OpL.ok (nb := 0) (ok_s2 (v := .int .i64 (p / 8)) (x := .tmp 3) (x' := .const ((Value.int IntKind.i64 8))) (VScal.one rfl) (VScal.one rfl) (fun ρ h1 h2 w => by go_simp; simp [Int.tdiv_eq_ediv_of_nonneg h0]; rw [IntWalk.i64_left, IntWalk.wrap64_in _ ⟨by omega, by omega⟩]) rfl) rfl (gle rfl)) rfl ?_
  refine SV.op (OpL.ok (nb := 0) (ok_s2 (x := .const ((Value.int IntKind.i64 5))) (x' := .tmp 4) (VScal.one rfl) (VScal.one rfl) (fun ρ h1 h2 w => by go_simp; (try go_bits); with_reducible rfl) rfl) rfl (gle rfl)) rfl ?_
  refine SV.op (OpL.ok (nb := 0) (ok_move (v := V.one (.sc _)) (.inr rfl) rfl) rfl (gle rfl)) rfl ?_
  refine SV.nil ?_
  refine SV.tn ?_
  refine SV.ret ?_
  apply SV.done (hf := Try.results57) (ht := rfl) (he := .inl rfl)
  case hr => exact (ResAll.cons (ResOk.tmp (ag := false) (xs := [.sc _]) rfl) ResAll.nil')
  case h2 => simp [two]
  refine ⟨rfl, ⟨?_, trivial⟩, trivial⟩ <;> (show some (T.lit (Value.int .i64 _)) = some (T.lit (Value.int .i64 _)); refine congrArg (fun z => some (T.lit (Value.int .i64 z))) ?_; unfold BrokerD.room; omega)
set_option maxRecDepth 100000 in
set_option maxHeartbeats 2000000 in
theorem vnewb_s (n : Int) : VC Try.prog 36 [(false, [.lit (.int .i64 (n))])] true [(true, tBroker (BrokerD.new n)), (false, [.lit (.bool (BrokerD.isPool n))])] := by
  refine VC.enter Try.func36 rfl Try.ntmps36 (gle rfl) fun E hE => ?_
  refine SV.seq' ?_
  refine SV.region ?_
  refine SV.op (OpMk.ok (ok_alloc (kk := 0) (xs := [.sc _, .sc _, .nl _, .nl _]) rfl rfl zero_impl_Broker ⟨rfl, rfl, rfl, rfl, rfl, ⟨3, by decide, sz_impl_Client⟩, rfl, ⟨3, by decide, sz_impl_Client⟩, trivial⟩ rfl (gle rfl))) rfl ?_
  refine SV.op (OpL.ok (nb := 1) (ok_move (v := V.one (.sc _)) (.inr rfl) rfl) rfl (gle rfl)) rfl ?_
  refine SV.nil ?_
  refine SV.tn ?_
  refine SV.seq' ?_
  refine SV.seq' ?_
  refine SV.region ?_
  refine SV.op (OpL.ok (nb := 1) (ok_move (v := V.one (.sc _)) (.inl rfl) rfl) rfl (gle rfl)) rfl ?_
  refine SV.op (OpMk.ok (ok_call (ls := [(false, [.sc _])]) rfl rfl ⟨_, _, Try.func56, rfl, by decide⟩ (vin_s' n 8 120) ⟨⟨[.sc _], rfl, ⟨rfl, trivial⟩⟩, ⟨[.sc _], rfl, ⟨rfl, trivial⟩⟩, ⟨[.sc _], rfl, ⟨rfl, trivial⟩⟩, trivial⟩ rfl (gle rfl))) rfl ?_
  refine SV.op (OpL.ok (nb := 1) (ok_s1 (x := .tmp 5) (VScal.one rfl) (fun ρ h1 w => by go_simp; (try go_bits); with_reducible rfl) rfl) rfl (gle rfl)) rfl ?_
  refine SV.nil ?_
  refine SV.tn ?_
  refine SV.cond rfl (fun hc0 => ?_) (fun hc0 => ?_)
  · skip   -- c0.T
    have ho : BrokerD.isPool n = false := by simp [BrokerD.isPool] at *; omega
    refine SV.seq' ?_
    refine SV.region ?_
    refine SV.op (OpL.ok (nb := 1) (ok_build (zs := [.sc _, .sc _, .nl _, .nl _]) (ys := [.sc _, .sc _, .nl _, .nl _]) (qs := []) (pl := fun i => ([(0, 1), (1, 1), (2, 1), (3, 1)] : List (Nat × Nat))[i]?) rfl zero_impl_Broker ⟨rfl, rfl, rfl, rfl, rfl, ⟨3, by decide, sz_impl_Client⟩, rfl, ⟨3, by decide, sz_impl_Client⟩, trivial⟩ trivial bld_impl_Broker rfl) rfl (gle rfl)) rfl ?_
    refine SV.op (ok_store_bp (b := 0) (i := 0) (m := 4) (ag := true) (zs := [.sc _, .sc _, .nl _, .nl _]) (ys := [.sc _, .sc _, .nl _, .nl _]) rfl rfl rfl rfl sz_impl_Broker (fun h => by cases h) rfl (gle rfl) rfl rfl rfl) rfl ?_
    refine SV.op (OpL.ok (nb := 1) (ok_move (v := V.one (.sc _)) (.inr rfl) rfl) rfl (gle rfl)) rfl ?_
    refine SV.nil ?_
    refine SV.tn ?_
    refine SV.ret ?_
    refine SV.tr ?_
    apply SV.done (hf := Try.results36) (ht := rfl) (he := .inl rfl)
    case hr => exact (ResAll.cons (ResOk.cell (b := 0) (ag := true) (xs := [.sc _, .sc _, .nl _, .nl _]) rfl rfl agg_impl_Broker sz_impl_Broker (fun h => by cases h)) (ResAll.cons (ResOk.tmp (ag := false) (xs := [.sc _]) rfl) ResAll.nil'))
    case h2 => simp [two]
    refine ⟨rfl, ⟨?_, ?_, ?_, ?_, trivial⟩, ⟨rfl, ⟨?_, trivial⟩, trivial⟩⟩ <;> first | rfl | (unfold BrokerD.new; first | (rw [if_pos ho]; rfl) | (rw [if_neg (by rw [ho]; decide)]; rfl)) | ((show some (T.lit (Value.bool _)) = some (T.lit (Value.bool _)); refine congrArg (fun z => some (T.lit (Value.bool z))) ?_; rw [ho]))
  · skip   -- c0.F
    have ho : BrokerD.isPool n = true := by simp [BrokerD.isPool] at *; omega
    refine SV.skip ?_
    refine SV.tn ?_
    refine SV.seq' ?_
    refine SV.region ?_
    refine SV.op (OpL.ok (nb := 1) (ok_move (v := V.one (.sc _)) (.inl rfl) rfl) rfl (gle rfl)) rfl ?_
    refine SV.op (OpL.ok (nb := 1) (ok_build (zs := [.sc _, .sc _, .nl _, .nl _]) (ys := [.sc _, .sc _, .nl _, .nl _]) (qs := [(0, [.sc _])]) (pl := fun i => ([(0, 1), (1, 1), (2, 1), (3, 1)] : List (Nat × Nat))[i]?) rfl zero_impl_Broker ⟨rfl, rfl, rfl, rfl, rfl, ⟨3, by decide, sz_impl_Client⟩, rfl, ⟨3, by decide, sz_impl_Client⟩, trivial⟩ ⟨⟨rfl, false, rfl, (fun _ => rfl), rfl⟩, trivial⟩ bld_impl_Broker rfl) rfl (gle rfl)) rfl ?_
    refine SV.op (ok_store_bp (b := 0) (i := 0) (m := 4) (ag := true) (zs := [.sc _, .sc _, .nl _, .nl _]) (ys := [.sc _, .sc _, .nl _, .nl _]) rfl rfl rfl rfl sz_impl_Broker (fun h => by cases h) rfl (gle rfl) rfl rfl rfl) rfl ?_
    refine SV.op (OpL.ok (nb := 1) (ok_move (v := V.one (.sc _)) (.inr rfl) rfl) rfl (gle rfl)) rfl ?_
    refine SV.nil ?_
    refine SV.tn ?_
    refine SV.ret ?_
    apply SV.done (hf := Try.results36) (ht := rfl) (he := .inl rfl)
    case hr => exact (ResAll.cons (ResOk.cell (b := 0) (ag := true) (xs := [.sc _, .sc _, .nl _, .nl _]) rfl rfl agg_impl_Broker sz_impl_Broker (fun h => by cases h)) (ResAll.cons (ResOk.tmp (ag := false) (xs := [.sc _]) rfl) ResAll.nil'))
    case h2 => simp [two]
    refine ⟨rfl, ⟨?_, ?_, ?_, ?_, trivial⟩, ⟨rfl, ⟨?_, trivial⟩, trivial⟩⟩ <;> first | rfl | (unfold BrokerD.new; first | (rw [if_pos ho]; rfl) | (rw [if_neg (by rw [ho]; decide)]; rfl)) | ((show some (T.lit (Value.bool _)) = some (T.lit (Value.bool _)); refine congrArg (fun z => some (T.lit (Value.bool z))) ?_; rw [ho]))
set_option maxRecDepth 100000 in
set_option maxHeartbeats 2000000 in
theorem vcopyb_s (b : BrokerD) (hA : b.fActive.length ≤ 1000000000) (hW : b.fWaiting.length ≤ 1000000000) : VC Try.prog 63 [(true, tBroker b)] false [(true, tBroker (b))] := by
  refine VC.enter Try.func63 rfl Try.ntmps63 (gle rfl) fun E hE => ?_
  refine SV.seq' ?_
  refine SV.region ?_
  refine SV.op (OpMk.ok (ok_box (kk := 0) (ag := true) (xs := [.sc _, .sc _, .ro _, .ro _]) rfl rfl rfl (fun h => by cases h) rfl rfl (gle rfl))) rfl ?_
  refine SV.op (OpMk.ok (ok_alloc (kk := 1) (xs := [.sc _, .sc _, .nl _, .nl _]) rfl rfl zero_impl_Broker ⟨rfl, rfl, rfl, rfl, rfl, ⟨3, by decide, sz_impl_Client⟩, rfl, ⟨3, by decide, sz_impl_Client⟩, trivial⟩ rfl (gle rfl))) rfl ?_
  refine SV.nil ?_
  refine SV.tn ?_
  refine SV.seq' ?_
  refine SV.joinF (fun (σ : VS) => (((((VS.nil.new (.seq 35 (b.fActive.map tClient))).new (.seq 35 (b.fWaiting.map tClient))).box 26 [σ.bl 0 0, σ.bl 0 1, σ.bl 0 2, σ.bl 0 3]).box 26 [.sc (.int .i64 (b.fPool)), .sc (.int .i64 (b.fNextID)), .hd 0, .hd 1]).put 2 (V.flat false [.bp 1 0]))) ?h ?k
  case k =>
    intro hjn
    refine SV.drawT (.q 0 (.q 1 (.q 2 (.q 3 (.q 5 (.q 6 (.q 9 (.q 10 (.alt 4 (.alt 7 (.m 8 (.m 11 (.q 12 .nil))) 8 (.m 7 (.m 11 (.q 12 .nil)))) 8 (.m 4 (.m 7 (.m 11 (.q 12 .nil))))))))))))) [13] (by kernel_rfl) (by kernel_rfl) ?_
    refine DW.q rfl (ok_field_bp (b := 0) (o' := 0) (off := 0) rfl rfl fld_impl_Broker_0) rfl rfl (gle rfl) (fun _ _ _ _ h => h) ?_
    refine DW.q rfl (ok_load_bp (b := 0) (i := 0) (ag := false) (m := 1) (ys := [.sc _]) rfl rfl rfl agg_int sz_int (fun _ => rfl) rfl rfl (gle rfl)) rfl rfl (gle rfl) (fun _ _ _ _ h => h) ?_
    refine DW.q rfl (ok_field_bp (b := 0) (o' := 0) (off := 1) rfl rfl fld_impl_Broker_1) rfl rfl (gle rfl) (fun _ _ _ _ h => h) ?_
    refine DW.q rfl (ok_load_bp (b := 0) (i := 1) (ag := false) (m := 1) (ys := [.sc _]) rfl rfl rfl agg_int sz_int (fun _ => rfl) rfl rfl (gle rfl)) rfl rfl (gle rfl) (fun _ _ _ _ h => h) ?_
    refine DW.q rfl (ok_field_bp (b := 0) (o' := 0) (off := 2) rfl rfl fld_impl_Broker_2) rfl rfl (gle rfl) (fun _ _ _ _ h => h) ?_
    refine DW.q rfl (ok_load_bp (b := 0) (i := 2) (ag := false) (m := 1) (ys := [.ro _]) rfl rfl rfl agg_s_impl_Client sz_s_impl_Client (fun _ => rfl) rfl rfl (gle rfl)) rfl rfl (gle rfl) (fun _ _ _ _ h => h) ?_
    refine DW.q rfl (ok_field_bp (b := 0) (o' := 0) (off := 3) rfl rfl fld_impl_Broker_3) rfl rfl (gle rfl) (fun _ _ _ _ h => h) ?_
    refine DW.q rfl (ok_load_bp (b := 0) (i := 3) (ag := false) (m := 1) (ys := [.ro _]) rfl rfl rfl agg_s_impl_Client sz_s_impl_Client (fun _ => rfl) rfl rfl (gle rfl)) rfl rfl (gle rfl) (fun _ _ _ _ h => h) ?_
    refine DW.alt ?_ ?_
    · skip   -- first 4
      refine DW.m [0] rfl (ok_lit0 (kk := 0) elt_impl_Client rfl rfl rfl (gle rfl)) rfl (gle rfl) (gle rfl) (.inl rfl) (fun j hj => by
          simp only [List.mem_cons, List.not_mem_nil, or_false] at hj
          rcases hj with rfl
          · exact .inr ⟨(gle rfl), (gle rfl), .inl rfl⟩) ?_
      refine DW.alt ?_ ?_
      · skip   -- first 7
        refine DW.m [1, 0] rfl (ok_append_ro (kk := 1) elt_impl_Client (ls := .hd 0) (lx := .ro _) rfl rfl rfl rfl rfl rfl (flat_impl_Client _) (by first | omega | (simp only [List.length_map]; omega) | (simp; done) | (simp; omega)) rfl (gle rfl)) rfl (gle rfl) (gle rfl) (.inr ⟨0, rfl, .inl (by decide)⟩) (fun j hj => by
            simp only [List.mem_cons, List.not_mem_nil, or_false] at hj
            rcases hj with rfl | rfl
            · exact .inr ⟨(gle rfl), (gle rfl), .inr ⟨0, rfl, by decide⟩⟩
            · exact .inl (by decide)) ?_
        refine DW.m [2, 1, 0] rfl (ok_lit0 (kk := 2) elt_impl_Client rfl rfl rfl (gle rfl)) rfl (gle rfl) (gle rfl) (.inl rfl) (fun j hj => by
            simp only [List.mem_cons, List.not_mem_nil, or_false] at hj
            rcases hj with rfl | rfl | rfl
            · exact .inr ⟨(gle rfl), (gle rfl), .inl rfl⟩
            · exact .inl (by decide)
            · exact .inl (by decide)) ?_
        refine DW.m [3, 2, 1, 0] rfl (ok_append_ro (kk := 3) elt_impl_Client (ls := .hd 2) (lx := .ro _) rfl rfl rfl rfl rfl rfl (flat_impl_Client _) (by first | omega | (simp only [List.length_map]; omega) | (simp; done) | (simp; omega)) rfl (gle rfl)) rfl (gle rfl) (gle rfl) (.inr ⟨2, rfl, .inl (by decide)⟩) (fun j hj => by
            simp only [List.mem_cons, List.not_mem_nil, or_false] at hj
            rcases hj with rfl | rfl | rfl | rfl
            · exact .inr ⟨(gle rfl), (gle rfl), .inr ⟨2, rfl, by decide⟩⟩
            · exact .inl (by decide)
            · exact .inl (by decide)
            · exact .inl (by decide)) ?_
        refine DW.q rfl (ok_build (zs := [.sc _, .sc _, .nl _, .nl _]) (ys := [.sc _, .sc _, .hd 1, .hd 3]) (qs := [(0, [.sc _]), (1, [.sc _]), (2, [.hd 1]), (3, [.hd 3])]) (pl := fun i => ([(0, 1), (1, 1), (2, 1), (3, 1)] : List (Nat × Nat))[i]?) rfl zero_impl_Broker ⟨rfl, rfl, rfl, rfl, rfl, ⟨3, by decide, sz_impl_Client⟩, rfl, ⟨3, by decide, sz_impl_Client⟩, trivial⟩ ⟨⟨rfl, false, rfl, (fun _ => rfl), rfl⟩, ⟨rfl, false, rfl, (fun _ => rfl), rfl⟩, ⟨rfl, false, rfl, (fun _ => rfl), rfl⟩, ⟨rfl, false, rfl, (fun _ => rfl), rfl⟩, trivial⟩ bld_impl_Broker rfl) rfl rfl (gle rfl) (fun _ _ _ _ h => h) ?_
        refine DW.stores ?_
        refine SV.z rfl (ok_store_bp (b := 1) (i := 0) (m := 4) (ag := true) (zs := [.sc _, .sc _, .hd 1, .hd 3]) (ys := [.sc _, .sc _, .hd 1, .hd 3]) rfl rfl rfl rfl sz_impl_Broker (fun h => by cases h) rfl (gle rfl) rfl rfl rfl) rfl ?_
        refine SV.zend ?_
        refine (fun pp le => SV.weaken (fun i => [1, 3].getD i 0) pp le hjn) (pins hE rfl rfl) (VS.le.mk' (le_put (le_box (le_box (le_new (le_new le_nil)))) (V.le.keep (ag := false) (xs := [.bp 1 0]) (ys := [.bp 1 0]) rfl rfl ⟨⟨rfl, (gle rfl)⟩, trivial⟩)) ⟨⟨rfl, ⟨rfl, rfl, rfl, rfl, trivial⟩⟩, ⟨⟨rfl, ⟨(by first | rfl | (show Leaf.sc _ = Leaf.sc _; refine congrArg Leaf.sc ?_; first | rfl | go_num | (simp [cntAll]; done)) | (simp [cntAll]; done) | (simp; omega)), (by first | rfl | (show Leaf.sc _ = Leaf.sc _; refine congrArg Leaf.sc ?_; first | rfl | go_num | (simp [cntAll]; done)) | (simp [cntAll]; done) | (simp; omega)), ⟨rfl, (gle rfl), (gle rfl)⟩, ⟨rfl, (gle rfl), (gle rfl)⟩, trivial⟩⟩, trivial⟩⟩ ⟨.inr ⟨_, _, rfl, ?ob2_1, (gle rfl)⟩, ⟨.inr ⟨_, _, rfl, ?ob2_0, (gle rfl)⟩, trivial⟩⟩ (new_ob (new_ob nil_ob)) (fun i j hi hj e => inj_list (l := [1, 3]) (by decide) i j hi hj e))
        case ob2_0 =>
          show some (T.seq _ _) = some (T.seq _ _)
          first | rfl | exact congrArg some (congrArg (T.seq _) (by simp))
        case ob2_1 =>
          show some (T.seq _ _) = some (T.seq _ _)
          first | rfl | exact congrArg some (congrArg (T.seq _) (by simp))
      · skip   -- first 8
        refine DW.m [1, 0] rfl (ok_lit0 (kk := 1) elt_impl_Client rfl rfl rfl (gle rfl)) rfl (gle rfl) (gle rfl) (.inl rfl) (fun j hj => by
            simp only [List.mem_cons, List.not_mem_nil, or_false] at hj
            rcases hj with rfl | rfl
            · exact .inr ⟨(gle rfl), (gle rfl), .inl rfl⟩
            · exact .inl (by decide)) ?_
        refine DW.m [2, 1, 0] rfl (ok_append_ro (kk := 2) elt_impl_Client (ls := .hd 0) (lx := .ro _) rfl rfl rfl rfl rfl rfl (flat_impl_Client _) (by first | omega | (simp only [List.length_map]; omega) | (simp; done) | (simp; omega)) rfl (gle rfl)) rfl (gle rfl) (gle rfl) (.inr ⟨0, rfl, .inl (by decide)⟩) (fun j hj => by
            simp only [List.mem_cons, List.not_mem_nil, or_false] at hj
            rcases hj with rfl | rfl | rfl
            · exact .inr ⟨(gle rfl), (gle rfl), .inr ⟨0, rfl, by decide⟩⟩
            · exact .inl (by decide)
            · exact .inl (by decide)) ?_
        refine DW.m [3, 2, 1, 0] rfl (ok_append_ro (kk := 3) elt_impl_Client (ls := .hd 1) (lx := .ro _) rfl rfl rfl rfl rfl rfl (flat_impl_Client _) (by first | omega | (simp only [List.length_map]; omega) | (simp; done) | (simp; omega)) rfl (gle rfl)) rfl (gle rfl) (gle rfl) (.inr ⟨1, rfl, .inl (by decide)⟩) (fun j hj => by
            simp only [List.mem_cons, List.not_mem_nil, or_false] at hj
            rcases hj with rfl | rfl | rfl | rfl
            · exact .inr ⟨(gle rfl), (gle rfl), .inr ⟨1, rfl, by decide⟩⟩
            · exact .inl (by decide)
            · exact .inl (by decide)
            · exact .inl (by decide)) ?_
        refine DW.q rfl (ok_build (zs := [.sc _, .sc _, .nl _, .nl _]) (ys := [.sc _, .sc _, .hd 2, .hd 3]) (qs := [(0, [.sc _]), (1, [.sc _]), (2, [.hd 2]), (3, [.hd 3])]) (pl := fun i => ([(0, 1), (1, 1), (2, 1), (3, 1)] : List (Nat × Nat))[i]?) rfl zero_impl_Broker ⟨rfl, rfl, rfl, rfl, rfl, ⟨3, by decide, sz_impl_Client⟩, rfl, ⟨3, by decide, sz_impl_Client⟩, trivial⟩ ⟨⟨rfl, false, rfl, (fun _ => rfl), rfl⟩, ⟨rfl, false, rfl, (fun _ => rfl), rfl⟩, ⟨rfl, false, rfl, (fun _ => rfl), rfl⟩, ⟨rfl, false, rfl, (fun _ => rfl), rfl⟩, trivial⟩ bld_impl_Broker rfl) rfl rfl (gle rfl) (fun _ _ _ _ h => h) ?_
        refine DW.stores ?_
        refine SV.z rfl (ok_store_bp (b := 1) (i := 0) (m := 4) (ag := true) (zs := [.sc _, .sc _, .hd 2, .hd 3]) (ys := [.sc _, .sc _, .hd 2, .hd 3]) rfl rfl rfl rfl sz_impl_Broker (fun h => by cases h) rfl (gle rfl) rfl rfl rfl) rfl ?_
        refine SV.zend ?_
        refine (fun pp le => SV.weaken (fun i => [2, 3].getD i 0) pp le hjn) (pins hE rfl rfl) (VS.le.mk' (le_put (le_box (le_box (le_new (le_new le_nil)))) (V.le.keep (ag := false) (xs := [.bp 1 0]) (ys := [.bp 1 0]) rfl rfl ⟨⟨rfl, (gle rfl)⟩, trivial⟩)) ⟨⟨rfl, ⟨rfl, rfl, rfl, rfl, trivial⟩⟩, ⟨⟨rfl, ⟨(by first | rfl | (show Leaf.sc _ = Leaf.sc _; refine congrArg Leaf.sc ?_; first | rfl | go_num | (simp [cntAll]; done)) | (simp [cntAll]; done) | (simp; omega)), (by first | rfl | (show Leaf.sc _ = Leaf.sc _; refine congrArg Leaf.sc ?_; first | rfl | go_num | (simp [cntAll]; done)) | (simp [cntAll]; done) | (simp; omega)), ⟨rfl, (gle rfl), (gle rfl)⟩, ⟨rfl, (gle rfl), (gle rfl)⟩, trivial⟩⟩, trivial⟩⟩ ⟨.inr ⟨_, _, rfl, ?ob4_1, (gle rfl)⟩, ⟨.inr ⟨_, _, rfl, ?ob4_0, (gle rfl)⟩, trivial⟩⟩ (new_ob (new_ob nil_ob)) (fun i j hi hj e => inj_list (l := [2, 3]) (by decide) i j hi hj e))
        case ob4_0 =>
          show some (T.seq _ _) = some (T.seq _ _)
          first | rfl | exact congrArg some (congrArg (T.seq _) (by simp))
        case ob4_1 =>
          show some (T.seq _ _) = some (T.seq _ _)
          first | rfl | exact congrArg some (congrArg (T.seq _) (by simp))
    · skip   -- first 8
      refine DW.m [0] rfl (ok_lit0 (kk := 0) elt_impl_Client rfl rfl rfl (gle rfl)) rfl (gle rfl) (gle rfl) (.inl rfl) (fun j hj => by
          simp only [List.mem_cons, List.not_mem_nil, or_false] at hj
          rcases hj with rfl
          · exact .inr ⟨(gle rfl), (gle rfl), .inl rfl⟩) ?_
      refine DW.m [1, 0] rfl (ok_lit0 (kk := 1) elt_impl_Client rfl rfl rfl (gle rfl)) rfl (gle rfl) (gle rfl) (.inl rfl) (fun j hj => by
          simp only [List.mem_cons, List.not_mem_nil, or_false] at hj
          rcases hj with rfl | rfl
          · exact .inr ⟨(gle rfl), (gle rfl), .inl rfl⟩
          · exact .inl (by decide)) ?_
      refine DW.m [2, 1, 0] rfl (ok_append_ro (kk := 2) elt_impl_Client (ls := .hd 1) (lx := .ro _) rfl rfl rfl rfl rfl rfl (flat_impl_Client _) (by first | omega | (simp only [List.length_map]; omega) | (simp; done) | (simp; omega)) rfl (gle rfl)) rfl (gle rfl) (gle rfl) (.inr ⟨1, rfl, .inl (by decide)⟩) (fun j hj => by
          simp only [List.mem_cons, List.not_mem_nil, or_false] at hj
          rcases hj with rfl | rfl | rfl
          · exact .inr ⟨(gle rfl), (gle rfl), .inr ⟨1, rfl, by decide⟩⟩
          · exact .inl (by decide)
          · exact .inl (by decide)) ?_
      refine DW.m [3, 2, 1, 0] rfl (ok_append_ro (kk := 3) elt_impl_Client (ls := .hd 0) (lx := .ro _) rfl rfl rfl rfl rfl rfl (flat_impl_Client _) (by first | omega | (simp only [List.length_map]; omega) | (simp; done) | (simp; omega)) rfl (gle rfl)) rfl (gle rfl) (gle rfl) (.inr ⟨0, rfl, .inl (by decide)⟩) (fun j hj => by
          simp only [List.mem_cons, List.not_mem_nil, or_false] at hj
          rcases hj with rfl | rfl | rfl | rfl
          · exact .inr ⟨(gle rfl), (gle rfl), .inr ⟨0, rfl, by decide⟩⟩
          · exact .inl (by decide)
          · exact .inl (by decide)
          · exact .inl (by decide)) ?_
      refine DW.q rfl (ok_build (zs := [.sc _, .sc _, .nl _, .nl _]) (ys := [.sc _, .sc _, .hd 2, .hd 3]) (qs := [(0, [.sc _]), (1, [.sc _]), (2, [.hd 2]), (3, [.hd 3])]) (pl := fun i => ([(0, 1), (1, 1), (2, 1), (3, 1)] : List (Nat × Nat))[i]?) rfl zero_impl_Broker ⟨rfl, rfl, rfl, rfl, rfl, ⟨3, by decide, sz_impl_Client⟩, rfl, ⟨3, by decide, sz_impl_Client⟩, trivial⟩ ⟨⟨rfl, false, rfl, (fun _ => rfl), rfl⟩, ⟨rfl, false, rfl, (fun _ => rfl), rfl⟩, ⟨rfl, false, rfl, (fun _ => rfl), rfl⟩, ⟨rfl, false, rfl, (fun _ => rfl), rfl⟩, trivial⟩ bld_impl_Broker rfl) rfl rfl (gle rfl) (fun _ _ _ _ h => h) ?_
      refine DW.stores ?_
      refine SV.z rfl (ok_store_bp (b := 1) (i := 0) (m := 4) (ag := true) (zs := [.sc _, .sc _, .hd 2, .hd 3]) (ys := [.sc _, .sc _, .hd 2, .hd 3]) rfl rfl rfl rfl sz_impl_Broker (fun h => by cases h) rfl (gle rfl) rfl rfl rfl) rfl ?_
      refine SV.zend ?_
      refine (fun pp le => SV.weaken (fun i => [2, 3].getD i 0) pp le hjn) (pins hE rfl rfl) (VS.le.mk' (le_put (le_box (le_box (le_new (le_new le_nil)))) (V.le.keep (ag := false) (xs := [.bp 1 0]) (ys := [.bp 1 0]) rfl rfl ⟨⟨rfl, (gle rfl)⟩, trivial⟩)) ⟨⟨rfl, ⟨rfl, rfl, rfl, rfl, trivial⟩⟩, ⟨⟨rfl, ⟨(by first | rfl | (show Leaf.sc _ = Leaf.sc _; refine congrArg Leaf.sc ?_; first | rfl | go_num | (simp [cntAll]; done)) | (simp [cntAll]; done) | (simp; omega)), (by first | rfl | (show Leaf.sc _ = Leaf.sc _; refine congrArg Leaf.sc ?_; first | rfl | go_num | (simp [cntAll]; done)) | (simp [cntAll]; done) | (simp; omega)), ⟨rfl, (gle rfl), (gle rfl)⟩, ⟨rfl, (gle rfl), (gle rfl)⟩, trivial⟩⟩, trivial⟩⟩ ⟨.inr ⟨_, _, rfl, ?ob6_1, (gle rfl)⟩, ⟨.inr ⟨_, _, rfl, ?ob6_0, (gle rfl)⟩, trivial⟩⟩ (new_ob (new_ob nil_ob)) (fun i j hi hj e => inj_list (l := [2, 3]) (by decide) i j hi hj e))
      case ob6_0 =>
        show some (T.seq _ _) = some (T.seq _ _)
        first | rfl | exact congrArg some (congrArg (T.seq _) (by simp))
      case ob6_1 =>
        show some (T.seq _ _) = some (T.seq _ _)
        first | rfl | exact congrArg some (congrArg (T.seq _) (by simp))
  case h =>
    refine SV.tn ?_
    refine SV.ret ?_
    apply SV.done (hf := Try.results63) (ht := rfl) (he := .inl rfl)
    case hr => exact (ResAll.cons (ResOk.cell (b := 1) (ag := true) (xs := [.sc _, .sc _, .hd 0, .hd 1]) rfl rfl agg_impl_Broker sz_impl_Broker (fun h => by cases h)) ResAll.nil')
    case h2 => simp [two]
    refine ⟨rfl, ⟨?_, ?_, ?_, ?_, trivial⟩, trivial⟩ <;> rfl
set_option maxRecDepth 100000 in
set_option maxHeartbeats 2000000 in
theorem vatc_s (l : List ClientD) (id : Int) (hL : l.length ≤ 1000000000) : VC Try.prog 68 [(false, [.seq 35 ((l).map tClient)]), (false, [.lit (.int .i64 (id))])] false [(false, [.lit (.int .i64 (BrokerD.atI l id))])] := by
  refine VC.enter Try.func68 rfl Try.ntmps68 (gle rfl) fun E hE => ?_
  refine SV.seq' ?_
  refine SV.region ?_
  refine SV.op (OpL.ok (nb := 0) (ok_move (v := V.one (.sc _)) (.inr rfl) rfl) rfl (gle rfl)) rfl ?_
  refine SV.nil ?_
  refine SV.tn ?_
  refine SV.seq' ?_
  refine SV.seq' ?_
  refine SV.region ?_
  refine SV.op (OpL.ok (nb := 0) (ok_move (v := V.one (.sc _)) (.inr rfl) rfl) rfl (gle rfl)) rfl ?_
  refine SV.nil ?_
  refine SV.tn ?_
  refine SV.block ?_
  refine SV.loopF (X := Nat) (fun (σ : VS) t => ((((VS.nil.put 0 (σ.tm 0)).put 1 (σ.tm 1)).put 4 (σ.tm 4)).put 5 (V.flat false [.sc (.int .i64 ((t : Int)))]))) (fun t => t ≤ l.length ∧ ∀ u c, u < t → l[u]? = some c → c.fID ≠ id) (fun t => l.length - t) ?_ ?_
  · skip
    refine SV.again (fun i => [].getD i 0) 0 (⟨Nat.zero_le _, fun u c h => absurd h (Nat.not_lt_zero u)⟩) (pins hE rfl rfl) (VS.le.mk' (le_put (le_put (le_put (le_put le_nil (V.le.keep (ag := false) (xs := [.ro _]) (ys := [.ro _]) rfl rfl ⟨rfl, trivial⟩)) (V.le.keep (ag := false) (xs := [.sc _]) (ys := [.sc _]) rfl rfl ⟨rfl, trivial⟩)) (V.le.keep (ag := false) (xs := [.sc _]) (ys := [.sc _]) rfl rfl ⟨rfl, trivial⟩)) (V.le.keep (ag := false) (xs := [.sc _]) (ys := [.sc _]) rfl rfl ⟨(by first | rfl | (show Leaf.sc _ = Leaf.sc _; refine congrArg Leaf.sc ?_; first | rfl | go_num | (simp [cntAll]; done)) | (simp [cntAll]; done) | (simp; omega)), trivial⟩)) trivial trivial nil_ob (fun i j hi hj e => absurd hi (Nat.not_lt_zero i)))
  · rintro t ⟨ht, hb⟩
    refine SV.seq' ?_
    refine SV.seq' ?_
    refine SV.region ?_
    refine SV.op (OpL.ok (nb := 0) (ok_move (v := V.one (.sc _)) (.inl rfl) rfl) rfl (gle rfl)) rfl ?_
    refine SV.op (OpL.ok (nb := 0) (ok_move (v := V.one (.ro _)) (.inl rfl) rfl) rfl (gle rfl)) rfl ?_
    refine SV.op (OpL.ok (nb := 0) (ok_len (lf := .ro _) rfl elt_impl_Client.und rfl rfl) rfl (gle rfl)) rfl ?_
    refine SV.op (OpL.ok (nb := 0) (ok_s2 (x := .tmp 6) (x' := .tmp 8) (VScal.one rfl) (VScal.one rfl) (fun ρ h1 h2 w => by go_simp; (try go_bits); with_reducible rfl) rfl) rfl (gle rfl)) rfl ?_
    refine SV.nil ?_
    refine SV.tn ?_
    refine SV.cond rfl (fun hc0 => ?_) (fun hc0 => ?_)
    · skip   -- c0.T
      have htl : t < l.length := by simpa using hc0
      have hx : l[t]? = some l[t] := by simp [htl]
      refine SV.skip ?_
      refine SV.tn ?_
      refine SV.seq' ?_
      refine SV.block ?_
      refine SV.seq' ?_
      refine SV.region ?_
      refine SV.op (OpL.ok (nb := 0) (ok_move (v := V.one (.ro _)) (.inl rfl) rfl) rfl (gle rfl)) rfl ?_
      refine SV.op (OpL.ok (nb := 0) (ok_move (v := V.one (.sc _)) (.inl rfl) rfl) rfl (gle rfl)) rfl ?_
      refine SV.op (OpL.ok (nb := 0) (ok_index (n := 3) (lf := .ro _) rfl elt_impl_Client.und sz_impl_Client rfl rfl rfl (map_at hx)) rfl (gle rfl)) rfl ?_
      refine SV.op (OpL.ok (nb := 0) (ok_field_el (p := .rp _) (off := 0) rfl rfl rfl fld_impl_Client_0) rfl (gle rfl)) rfl ?_
      refine SV.op (OpL.ok (nb := 0) (ok_load_rp (ag := false) (m := 1) (ys := [.sc _]) rfl rfl agg_int sz_int (fun _ => rfl) (gle rfl) rfl) rfl (gle rfl)) rfl ?_
      refine SV.op (OpL.ok (nb := 0) (ok_move (v := V.one (.sc _)) (.inl rfl) rfl) rfl (gle rfl)) rfl ?_
      refine SV.op (OpL.ok (nb := 0) (ok_s2 (x := .tmp 16) (x' := .tmp 17) (VScal.one rfl) (VScal.one rfl) (fun ρ h1 h2 w => by go_simp; (try go_bits); with_reducible rfl) rfl) rfl (gle rfl)) rfl ?_
      refine SV.nil ?_
      refine SV.tn ?_
      refine SV.cond rfl (fun hc1 => ?_) (fun hc1 => ?_)
      · skip   -- c1.T
        have hat : BrokerD.atI l id = t := BrokerD.atI_some (BrokerD.at_some htl (by simpa using hc1) hb)
        refine SV.seq' ?_
        refine SV.region ?_
        refine SV.op (OpL.ok (nb := 0) (ok_move (v := V.one (.sc _)) (.inl rfl) rfl) rfl (gle rfl)) rfl ?_
        refine SV.op (OpL.ok (nb := 0) (ok_move (v := V.one (.sc _)) (.inr rfl) rfl) rfl (gle rfl)) rfl ?_
        refine SV.nil ?_
        refine SV.tn ?_
        refine SV.ret ?_
        refine SV.br ?_
        refine SV.tr ?_
        refine SV.tr ?_
        refine SV.br ?_
        refine SV.tr ?_
        apply SV.done (hf := Try.results68) (ht := rfl) (he := .inl rfl)
        case hr => exact (ResAll.cons (ResOk.tmp (ag := false) (xs := [.sc _]) rfl) ResAll.nil')
        case h2 => simp [two]
        refine ⟨rfl, ⟨?_, trivial⟩, trivial⟩ <;> (show some (T.lit (Value.int .i64 _)) = some (T.lit (Value.int .i64 _)); refine congrArg (fun z => some (T.lit (Value.int .i64 z))) ?_; rw [hat])
      · skip   -- c1.F
        refine SV.skip ?_
        refine SV.bn ?_
        refine SV.tn ?_
        refine SV.region ?_
        refine SV.op (OpL.ok (nb := 0) (ok_move (v := V.one (.sc _)) (.inl rfl) rfl) rfl (gle rfl)) rfl ?_
        refine SV.op (OpL.ok (nb := 0) (ok_s2 (x := .tmp 10) (x' := .const ((Value.int IntKind.i64 1))) (VScal.one rfl) (VScal.one rfl) (fun ρ h1 h2 w => by go_simp; (try go_bits); with_reducible rfl) rfl) rfl (gle rfl)) rfl ?_
        refine SV.op (OpL.ok (nb := 0) (ok_move (v := V.one (.sc _)) (.inr rfl) rfl) rfl (gle rfl)) rfl ?_
        refine SV.nil ?_
        refine SV.tn ?_
        refine SV.again (fun i => [].getD i 0) (t + 1) (⟨⟨by omega, fun u c hu hc => by rcases Nat.lt_or_ge u t with h1 | h1; (exact hb u c h1 hc); (have h2 : u = t := (by omega); subst h2; rw [hx] at hc; cases hc; simpa using hc1)⟩, by omega⟩) (pins hE rfl rfl) (VS.le.mk' (le_put (le_put (le_put (le_put le_nil (V.le.keep (ag := false) (xs := [.ro _]) (ys := [.ro _]) rfl rfl ⟨rfl, trivial⟩)) (V.le.keep (ag := false) (xs := [.sc _]) (ys := [.sc _]) rfl rfl ⟨rfl, trivial⟩)) (V.le.keep (ag := false) (xs := [.sc _]) (ys := [.sc _]) rfl rfl ⟨rfl, trivial⟩)) (V.le.keep (ag := false) (xs := [.sc _]) (ys := [.sc _]) rfl rfl ⟨(by first | rfl | (show Leaf.sc _ = Leaf.sc _; refine congrArg Leaf.sc ?_; first | rfl | go_num | (simp [cntAll]; done)) | (simp [cntAll]; done) | (simp; omega)), trivial⟩)) trivial trivial nil_ob (fun i j hi hj e => absurd hi (Nat.not_lt_zero i)))
    · skip   -- c0.F
      have hte : ¬ t < l.length := by simpa using hc0
      have hat : BrokerD.atI l id = -1 := BrokerD.atI_none (BrokerD.at_none fun c hc => by obtain ⟨u, hu, rfl⟩ := List.mem_iff_getElem.1 hc; exact hb u _ (by omega) (List.getElem?_eq_getElem hu))
      refine SV.exit ?_
      refine SV.te ?_
      refine SV.te ?_
      refine SV.bh ?_
      refine SV.tn ?_
      refine SV.seq' ?_
      refine SV.region ?_
      refine SV.op (OpL.ok (nb := 0) (ok_move (v := V.one (.sc _)) (.inr rfl) rfl) rfl (gle rfl)) rfl ?_
      refine SV.nil ?_
      refine SV.tn ?_
      refine SV.ret ?_
      apply SV.done (hf := Try.results68) (ht := rfl) (he := .inl rfl)
      case hr => exact (ResAll.cons (ResOk.tmp (ag := false) (xs := [.sc _]) rfl) ResAll.nil')
      case h2 => simp [two]
      refine ⟨rfl, ⟨?_, trivial⟩, trivial⟩ <;> (show some (T.lit (Value.int .i64 _)) = some (T.lit (Value.int .i64 _)); refine congrArg (fun z => some (T.lit (Value.int .i64 z))) ?_; rw [hat])
set_option maxRecDepth 100000 in
set_option maxHeartbeats 2000000 in
theorem vdrop_s (l : List ClientD) (k : Nat) (hk : k < l.length) (hL : l.length ≤ 1000000000) : VC Try.prog 69 [(false, [.seq 35 ((l).map tClient)]), (false, [.lit (.int .i64 ((k : Nat)))])] false [(false, [.seq 35 ((l.eraseIdx k).map tClient)])] := by
  refine VC.enter Try.func69 rfl Try.ntmps69 (gle rfl) fun E hE => ?_
  refine SV.seq' ?_
  refine SV.region ?_
  refine SV.op (OpL.ok (nb := 0) (ok_move (v := V.one (.sc _)) (.inr rfl) rfl) rfl (gle rfl)) rfl ?_
  refine SV.nil ?_
  refine SV.tn ?_
  refine SV.seq' ?_
  refine SV.draw [.q 1, .q 2, .q 3, .q 5, .q 6, .q 7, .q 8, .m 0, .m 4, .m 9, .q 10] [] (by kernel_rfl) (by kernel_rfl) ?_
  refine DW.q rfl (ok_move (v := V.one (.ro _)) (.inl rfl) rfl) rfl rfl (gle rfl) (fun _ _ _ _ h => h) ?_
  refine DW.q rfl (ok_move (v := V.one (.sc _)) (.inl rfl) rfl) rfl rfl (gle rfl) (fun _ _ _ _ h => h) ?_
  refine DW.q rfl (ok_slice (l := 0) (h := k) (lf := .ro _) (yy := .ro _) rfl rfl elt_impl_Client.und sz_impl_Client rfl rfl rfl ⟨_, rfl⟩ (by omega) (by simp; omega)) rfl rfl (gle rfl) (fun _ _ _ _ h => h) ?_
  refine DW.q rfl (ok_move (v := V.one (.ro _)) (.inl rfl) rfl) rfl rfl (gle rfl) (fun _ _ _ _ h => h) ?_
  refine DW.q rfl (ok_move (v := V.one (.sc _)) (.inl rfl) rfl) rfl rfl (gle rfl) (fun _ _ _ _ h => h) ?_
  refine DW.q rfl (ok_s2 (v := .int .i64 ((k + 1 : Nat) : Int)) (x := .tmp 11) (x' := .const ((Value.int IntKind.i64 1))) (VScal.one rfl) (VScal.one rfl) (fun ρ h1 h2 w => by go_simp; all_goals ((try go_bits); first | with_reducible rfl | go_num | (simp; done) | (simp; omega))) rfl) rfl rfl (gle rfl) (fun _ _ _ _ h => h) ?_
  refine DW.q rfl (ok_slice (l := k + 1) (h := (l.map tClient).length) (lf := .ro _) (yy := .ro _) rfl rfl elt_impl_Client.und sz_impl_Client rfl rfl ⟨_, rfl⟩ rfl (by simp; omega) (Nat.le_refl _)) rfl rfl (gle rfl) (fun _ _ _ _ h => h) ?_
  refine DW.m [0] rfl (ok_lit0 (kk := 0) elt_impl_Client rfl rfl rfl (gle rfl)) rfl (gle rfl) (gle rfl) (.inl rfl) (fun j hj => by
      simp only [List.mem_cons, List.not_mem_nil, or_false] at hj
      rcases hj with rfl
      · exact .inr ⟨(gle rfl), (gle rfl), .inl rfl⟩) ?_
  refine DW.m [1, 0] rfl (ok_append_ro (kk := 1) elt_impl_Client (ls := .hd 0) (lx := .ro _) rfl rfl rfl rfl rfl rfl (flat_sub (flat_impl_Client _) _ _) (by first | omega | (simp only [List.length_map]; omega) | (simp; done) | (simp; omega)) rfl (gle rfl)) rfl (gle rfl) (gle rfl) (.inr ⟨0, rfl, .inl (by decide)⟩) (fun j hj => by
      simp only [List.mem_cons, List.not_mem_nil, or_false] at hj
      rcases hj with rfl | rfl
      · exact .inr ⟨(gle rfl), (gle rfl), .inr ⟨0, rfl, by decide⟩⟩
      · exact .inl (by decide)) ?_
  refine DW.m [2, 1, 0] rfl (ok_append_ro (kk := 2) elt_impl_Client (ls := .hd 1) (lx := .ro _) rfl rfl rfl rfl rfl rfl (flat_sub (flat_impl_Client _) _ _) (by first | omega | (simp only [List.length_map]; omega) | (simp; done) | (simp; omega)) rfl (gle rfl)) rfl (gle rfl) (gle rfl) (.inr ⟨1, rfl, .inl (by decide)⟩) (fun j hj => by
      simp only [List.mem_cons, List.not_mem_nil, or_false] at hj
      rcases hj with rfl | rfl | rfl
      · exact .inr ⟨(gle rfl), (gle rfl), .inr ⟨1, rfl, by decide⟩⟩
      · exact .inl (by decide)
      · exact .inl (by decide)) ?_
  refine DW.q rfl (ok_move (v := V.one (.hd 2)) (.inr rfl) rfl) rfl rfl (gle rfl) (fun _ _ _ _ h => h) ?_
  refine DW.stores ?_
  refine SV.zend ?_
  refine SV.tn ?_
  refine SV.ret ?_
  apply SV.done (hf := Try.results69) (ht := rfl) (he := .inl rfl)
  case hr => exact (ResAll.cons (ResOk.tmp (ag := false) (xs := [.hd 2]) rfl) ResAll.nil')
  case h2 => simp [two]
  refine ⟨rfl, ⟨?_, trivial⟩, trivial⟩ <;> (show some (T.seq _ _) = some (T.seq _ _); refine congrArg (fun z => some (T.seq _ z)) ?_; rw [BrokerD.erase_at, List.take_length]; simp [List.map_take, List.map_drop])
end Go.Proofs.Ytfghhjcfmmhacaa
/- Brokers as plain mathematics: how a valid one is recognised; no function of program or reference is walked here. -/
namespace Go.Proofs.Ytfghhjcfmmhacaa
open Go.RowKit
set_option linter.unusedVariables false
namespace BrokerD
def bound (b : BrokerD) : Int := wrap64 (b.fNextID - 1) + 1
theorem bound_eq {b : BrokerD} (h : okN b = true) : bound b = b.fNextID := by
  have h1 := (okN_iff b).1 h
  unfold bound wrap64
  omega
theorem ok_badL {b : BrokerD} (h : okL (bound b) b.fActive = false ∨ okL (bound b) b.fWaiting = false) : ok b = false := by
  unfold ok
  cases hn : okN b with
  | false => rfl
  | true =>
    rw [bound_eq hn] at h
    rcases h with h | h <;> rw [h] <;> simp
theorem ok_meet {b : BrokerD} (h : meets b.fActive b.fWaiting = true) : ok b = false := by
  unfold ok
  rw [h]
  simp
theorem ok_rest {b : BrokerD} (h1 : okL (bound b) b.fActive = true) (h2 : okL (bound b) b.fWaiting = true) (h3 : meets b.fActive b.fWaiting = false) : ok b = okN b := by
  unfold ok
  cases hn : okN b with
  | false => rfl
  | true =>
    rw [bound_eq hn] at h1 h2
    rw [h1, h2, h3]
    rfl
def side (b : BrokerD) (i : Nat) : List ClientD := if i = 0 then b.fActive else b.fWaiting
theorem side_bad {b : BrokerD} {i t : Nat} (ht : t < (side b i).length) (h : okAt (bound b) (side b i) t = false) : ok b = false := by
  unfold side at ht h
  split at h
  · rename_i e
    rw [if_pos e] at ht
    exact ok_badL (.inl (okL_bad ht h))
  · rename_i e
    rw [if_neg e] at ht
    exact ok_badL (.inr (okL_bad ht h))
theorem okAt_some {n : Int} {l : List ClientD} {k : Nat} {c : ClientD} (h : l[k]? = some c) : okAt n l k = (okC n c && (k == 0 || match l[k - 1]? with | some d => decide (d.fID < c.fID) | none => true)) := by
  simp only [okAt, h]
  rfl
end BrokerD
end Go.Proofs.Ytfghhjcfmmhacaa
/- A state told anew in short words: only the slots and objects that are still wanted. -/
namespace Go.Proofs.Ytfghhjcfmmhacaa.V
open Go Go.RowKit
set_option linter.unusedVariables false
def lookV : List (Nat × V) → Nat → V
  | [], _ => V.one .dead
  | (d, v) :: L, s => bif Nat.beq s d then v else lookV L s
def lookO : List (Nat × Nat × T) → Nat → Option (Nat × T)
  | [], _ => none
  | (d, v, t) :: L, i => bif Nat.beq i d then some (v, t) else lookO L i
abbrev VS.of (L : List (Nat × V)) (B : List (TypeId × List Leaf)) (O : List (Nat × Nat × T)) (n : Nat) : VS := ⟨lookV L, B, lookO O, n⟩
def allV (σ : VS) : List (Nat × V) → Prop
  | [] => True
  | (d, v) :: L => σ.tm d = v ∧ allV σ L
def allO (σ : VS) : List (Nat × Nat × T) → Prop
  | [] => True
  | (i, v, t) :: L => σ.ob i = some (v, t) ∧ allO σ L
theorem lookV_or {σ : VS} : ∀ {L : List (Nat × V)}, allV σ L → ∀ s, lookV L s = σ.tm s ∨ lookV L s = V.one .dead
  | [], _, s => .inr rfl
  | (d, v) :: L, h, s => by
    show (bif Nat.beq s d then v else lookV L s) = _ ∨ (bif Nat.beq s d then v else lookV L s) = _
    cases hb : Nat.beq s d with
    | true =>
      rw [Nat.eq_of_beq_eq_true hb]
      exact .inl h.1.symm
    | false => exact lookV_or h.2 s
theorem lookO_or {σ : VS} : ∀ {O : List (Nat × Nat × T)}, allO σ O → ∀ i, lookO O i = σ.ob i ∨ lookO O i = none
  | [], _, i => .inr rfl
  | (d, v, t) :: O, h, i => by
    show (bif Nat.beq i d then some (v, t) else lookO O i) = _ ∨ (bif Nat.beq i d then some (v, t) else lookO O i) = _
    cases hb : Nat.beq i d with
    | true =>
      rw [Nat.eq_of_beq_eq_true hb]
      exact .inl h.1.symm
    | false => exact lookO_or h.2 i
theorem Holds.forget {G : Ghost} {σ τ : VS} {E : Env} {w : World} {x : Leaf} {u : Value} (hn : τ.nx = σ.nx) (hb : τ.bs = σ.bs) (ho : ∀ i, τ.ob i = σ.ob i ∨ τ.ob i = none) (h : Holds G σ E w x u) : Holds G τ E w x u := by
  refine ⟨?_, h.2⟩
  have h1 := h.1
  cases x with
  | dead => trivial
  | sc v => exact h1
  | nl ty => exact h1
  | ro t => exact h1
  | rp es => exact h1
  | hd i => exact ⟨by rw [hn]; exact h1.1, h1.2⟩
  | nd i ver t loc =>
    rcases ho i with e | e
    · unfold Holds0 at h1 ⊢
      simp only [e, hn]
      exact h1
    · refine ⟨by rw [hn]; exact h1.1, fun v t' h => (by rw [e] at h; cases h), fun ⟨t', h⟩ => (by rw [e] at h; cases h)⟩
  | np i ver es =>
    rcases ho i with e | e
    · unfold Holds0 at h1 ⊢
      simp only [e, hn]
      exact h1
    · refine ⟨by rw [hn]; exact h1.1, fun v t' h => (by rw [e] at h; cases h), fun ⟨t', h⟩ => (by rw [e] at h; cases h)⟩
  | ep i k n o => exact ⟨by rw [hn]; exact h1.1, h1.2⟩
  | bp b o => exact ⟨by rw [hb]; exact h1.1, h1.2⟩
theorem VHolds.forget {G : Ghost} {σ τ : VS} {E : Env} {w : World} {v : V} {u : Value} (hn : τ.nx = σ.nx) (hb : τ.bs = σ.bs) (ho : ∀ i, τ.ob i = σ.ob i ∨ τ.ob i = none) (h : VHolds G σ E w v u) : VHolds G τ E w v u := by
  obtain ⟨uss, h1, h2, h3⟩ := h
  exact ⟨uss, h1, h2, fun c ag xs us a b => ⟨(h3 c ag xs us a b).1, fun j x u p q => ((h3 c ag xs us a b).2 j x u p q).forget hn hb ho⟩⟩
theorem Rel.forget {E : Env} {N n : Nat} {σ : VS} {a : Act} {w : World} {G : Ghost} {L : List (Nat × V)} {B : List (TypeId × List Leaf)} {O : List (Nat × Nat × T)} (hL : allV σ L) (hB : σ.bs = B) (hO : allO σ O) (hn : σ.nx = n) (h : Rel E N σ a w G) : Rel E N (VS.of L B O n) a w G := by
  have hn' : (VS.of L B O n).nx = σ.nx := hn.symm
  have hb' : (VS.of L B O n).bs = σ.bs := hB.symm
  have ho' : ∀ i, (VS.of L B O n).ob i = σ.ob i ∨ (VS.of L B O n).ob i = none := lookO_or hO
  have live : ∀ i, (VS.of L B O n).ob i ≠ none → (VS.of L B O n).ob i = σ.ob i := fun i hi => (ho' i).resolve_right hi
  refine ⟨h.below, h.dfr, h.nsz, fun s => ?_, fun b ty xs hb => ?_, fun b b' h1 h2 => h.inj b b' (by rw [← hb']; exact h1) (by rw [← hb']; exact h2), fun b i h1 h2 => h.boxft b i (by rw [← hb']; exact h1) (by rw [← live i h2]; exact h2), fun i ver t hi => ?_, fun i j b hi hj => h.disj i j b (by rw [← live i hi]; exact hi) (by rw [← live j hj]; exact hj), fun i b hi => h.ftlt i b (by rw [← live i hi]; exact hi), ⟨by rw [hn']; exact h.lent.1, h.lent.2.1, fun c hc => by rw [hb']; exact h.lent.2.2 c hc⟩⟩
  · rcases lookV_or hL s with e | e
    · show VHolds G _ E w (lookV L s) _
      rw [e]
      exact (h.tmps s).forget hn' hb' ho'
    · show VHolds G _ E w (lookV L s) _
      rw [e, vone]
      exact ⟨trivial, .inl rfl⟩
  · rw [hb'] at hb
    obtain ⟨h1, us, h2, h3, h4⟩ := h.boxes b ty xs hb
    exact ⟨h1, us, h2, h3, fun j x u p q => ⟨((h4 j x u p q).1).forget hn' hb' ho', (h4 j x u p q).2⟩⟩
  · have e := live i (by rw [hi]; simp)
    obtain ⟨h1, h2, h3⟩ := h.objs i ver t (by rw [← e]; exact hi)
    exact ⟨by rw [hn']; exact h1, h2, h3⟩
theorem SV.forget {E : Env} {N n : Nat} {σ : VS} {K : Act → World → Prop} {L : List (Nat × V)} {B : List (TypeId × List Leaf)} {O : List (Nat × Nat × T)} (hL : allV σ L) (hB : σ.bs = B) (hO : allO σ O) (hn : σ.nx = n) (k : SV E N (VS.of L B O n) K) : SV E N σ K := fun a w G h => k a w G (h.forget hL hB hO hn)
theorem DW.forget {E : Env} {N n : Nat} {τ σ : VS} {fr : List Nat} {cl : Bool} {Ψ : World → Ghost → Act → World → Prop} {L : List (Nat × V)} {B : List (TypeId × List Leaf)} {O : List (Nat × Nat × T)} (hL : allV σ L) (hB : σ.bs = B) (hO : allO σ O) (hn : σ.nx = n) (k : DW E N τ fr false (VS.of L B O n) Ψ) : DW E N τ fr cl σ Ψ := fun ws Gs a w G h l =>
  k ws Gs a w G (h.forget hL hB hO hn) ⟨l.start, l.same, l.vl, l.β, by rw [show (VS.of L B O n).nx = σ.nx from hn.symm]; exact l.nx, by rw [show (VS.of L B O n).bs = σ.bs from hB.symm]; exact l.bs, fun i hi => ⟨by rw [show (VS.of L B O n).nx = σ.nx from hn.symm]; exact (l.fresh i hi).1, (l.fresh i hi).2⟩, fun h => by cases h⟩
end Go.Proofs.Ytfghhjcfmmhacaa.V
/- Small lemmas about rows of bytes that a call made itself: what is appended, what string(b) reads; no function of the program is walked here. -/
namespace Go.Proofs.Ytfghhjcfmmhacaa
open Go.RowKit
def b8 (l : List UInt8) : List Value := l.map fun b => Value.int .u8 (b.toNat : Int)
end Go.Proofs.Ytfghhjcfmmhacaa
/- What '&', '|' and '<<' of the program's integers are on numbers that are not below zero; no function of the program. -/
namespace Go.Proofs.Ytfghhjcfmmhacaa
open Go.RowKit
end Go.Proofs.Ytfghhjcfmmhacaa
/- The reader of the drawn code (l1New, l1Byte, l1Below): what it answers and what it leaves alone. -/
namespace Go.Proofs.Ytfghhjcfmmhacaa
open Go.RowKit
def IsRow (k : IntKind) (w : World) (a : Option Addr) (len cap : Nat) (zs : List Int) : Prop :=
  (a = none ∧ len = 0 ∧ cap = 0 ∧ zs = []) ∨
  ∃ x, a = some x ∧ len ≤ cap ∧ cap ≤ maxLen ∧ zs.length = cap ∧ (∀ i, i < zs.length → w.cell? (x.add i) = some (.int k (zs.getD i 0))) ∧ ∀ n ∈ zs, (Lit.int k n).wf = true
structure Cur (a : Option Addr) (len cap : Nat) (zs : List Int) (σ : Int × Int) (w : World) (c : Nat) : Prop where
  row : IsRow .u8 w a len cap zs
  apart : ∀ x, a = some x → 0 < cap → x.block ≠ c
  low : 0 ≤ σ.1
  high : σ.1 ≤ len
  cell : w.heap[c]? = some (.cells #[.slice a len cap, .int .i64 σ.1, .int .i64 σ.2] 85 (0, 0))
theorem IsRow.keep {k : IntKind} {w w' : World} {a : Option Addr} {len cap : Nat} {zs : List Int} (h : IsRow k w a len cap zs) (hk : ∀ x, a = some x → 0 < cap → x.block < w.heap.size → w'.heap[x.block]? = w.heap[x.block]?) : IsRow k w' a len cap zs := by
  rcases h with h | ⟨x, rfl, h1, h2, h3, h4, h5⟩
  · exact .inl h
  · refine .inr ⟨x, rfl, h1, h2, h3, fun i hi => ?_, h5⟩
    have hc := h4 i hi
    have hb : (x.add i).block = x.block := by by_cases h0 : i = 0 <;> simp [Addr.add, h0]
    rw [← hc]
    have hlt : x.block < w.heap.size := by rw [← hb]; exact World.block_lt_of_cell? w _ hc
    exact World.cell?_of_block (by rw [hb]; exact hk x rfl (by omega) hlt)
theorem Cur.lt {a : Option Addr} {len cap : Nat} {zs : List Int} {σ : Int × Int} {w : World} {c : Nat} (h : Cur a len cap zs σ w c) : c < w.heap.size := by
  have hb := h.cell
  rcases Nat.lt_or_ge c w.heap.size with hlt | hge
  · exact hlt
  · rw [Array.getElem?_eq_none hge] at hb; cases hb
theorem Cur.below {a : Option Addr} {len cap : Nat} {zs : List Int} {σ : Int × Int} {w w' : World} {c B : Nat} (h : Cur a len cap zs σ w c) (hb : Below B w w') (hc : c < B) (ha : ∀ x, a = some x → 0 < cap → x.block < B) : Cur a len cap zs σ w' c :=
  ⟨h.row.keep fun x hx hp _ => hb.block x.block (ha x hx hp), h.apart, h.low, h.high, (hb.block c hc).trans h.cell⟩
theorem Cur.same {a : Option Addr} {len cap : Nat} {zs : List Int} {σ : Int × Int} {w w' : World} {c : Nat} (h : Cur a len cap zs σ w c) (hh : w'.heap = w.heap) : Cur a len cap zs σ w' c :=
  ⟨h.row.keep fun x _ _ _ => by rw [hh], h.apart, h.low, h.high, by rw [hh]; exact h.cell⟩
theorem Cur.alloc {a : Option Addr} {len cap : Nat} {zs : List Int} {σ : Int × Int} {w : World} {c : Nat} (h : Cur a len cap zs σ w c) (o : Obj) : Cur a len cap zs σ (w.alloc o) c :=
  ⟨h.row.keep fun x _ _ hlt => Below.heap_alloc w o x.block hlt, h.apart, h.low, h.high, (Below.heap_alloc w o c h.lt).trans h.cell⟩
theorem Cur.only {a : Option Addr} {len cap : Nat} {zs : List Int} {σ : Int × Int} {w w' : World} {c : Nat} (h : Cur a len cap zs σ w c) (ho : Only c w w') (τ : Int × Int) (h1 : 0 ≤ τ.1) (h2 : τ.1 ≤ len)
    (hb : w'.heap[c]? = some (.cells #[.slice a len cap, .int .i64 τ.1, .int .i64 τ.2] 85 (0, 0))) : Cur a len cap zs τ w' c :=
  ⟨h.row.keep fun x hx hp hlt => ho.block x.block hlt (fun e => h.apart x hx hp (by injection e)), h.apart, h1, h2, hb⟩
end Go.Proofs.Ytfghhjcfmmhacaa
/- l1Byte: a number from 0 to 255; the cursor is moved on; nothing else changes. -/
namespace Go.Proofs.Ytfghhjcfmmhacaa
open Go.RowKit
def nextH (h : Int) : Int := wrap64 (wrap64 (h * 6364136223846793005) + 1442695040888963407)
def mixed (q : Int) : Int := bits BinOp.and IntKind.i64 (bits BinOp.xor IntKind.i64 (q / 8589934592) (q / 35184372088832)) 255
def byteS (zs : List Int) (len : Nat) (σ : Int × Int) : Int × (Int × Int) :=
  if σ.1 < len then (bits BinOp.and IntKind.i64 (wrap64 (mixed (nextH σ.2) + zs.getD σ.1.toNat 0)) 255, (σ.1 + 1, nextH σ.2)) else (mixed (nextH σ.2), (σ.1, nextH σ.2))
def Drawn (F : Int × Int → Int × (Int × Int)) (a : Option Addr) (len cap : Nat) (zs : List Int) (σ : Int × Int) (c : Nat) (w : World) (e : Ending) (w' : World) : Prop :=
  ∃ (x : Int) (τ : Int × Int), F σ = (x, τ) ∧ e = .returned (.int .i64 x) ∧ Cur a len cap zs τ w' c ∧ Only c w w'
end Go.Proofs.Ytfghhjcfmmhacaa
/- l1Below, l1Once, l1New: numbers below a bound; a new cursor over the code that came in. -/
namespace Go.Proofs.Ytfghhjcfmmhacaa
open Go.RowKit
def belowS (zs : List Int) (len : Nat) (n : Int) (σ : Int × Int) : Int × (Int × Int) :=
  if n ≤ 256 then ((byteS zs len σ).1 % n, (byteS zs len σ).2)
  else
    (((byteS zs len σ).1 * 16777216 + (byteS zs len (byteS zs len σ).2).1 * 65536 + (byteS zs len (byteS zs len (byteS zs len σ).2).2).1 * 256 + (byteS zs len (byteS zs len (byteS zs len (byteS zs len σ).2).2).2).1) % n,
      (byteS zs len (byteS zs len (byteS zs len (byteS zs len σ).2).2).2).2)
end Go.Proofs.Ytfghhjcfmmhacaa
/- l1New: a new cursor over the code that came in. -/
namespace Go.Proofs.Ytfghhjcfmmhacaa
open Go.RowKit
def mixH (zs : List Int) (len : Nat) : Nat → Int
  | 0 => 10101 + len
  | t + 1 => (mixH zs len t * 131 + zs.getD t 0 + 7) % 1073741824
def newH (zs : List Int) (len : Nat) : Int := mixH zs len (min len 4000)
def Fresh (a : Option Addr) (len cap : Nat) (zs : List Int) (w : World) (e : Ending) (w' : World) : Prop :=
  ∃ c : Nat, e = .returned (.pointer (some ⟨c, 0, none⟩)) ∧ Cur a len cap zs (0, newH zs len) w' c ∧ w.heap.size ≤ c ∧ Below w.heap.size w w'
theorem IsRow.cells {w : World} {a : Option Addr} {len cap : Nat} {zs : List Int} (h : IsRow .u8 w a len cap zs) : len = 0 ∨ ∃ b off : Nat, a = some ⟨b, off, none⟩ ∧ ∀ t, t < len → w.cell? ⟨b, off + t, none⟩ = some (.int .u8 (zs.getD t 0)) ∧ 0 ≤ zs.getD t 0 ∧ zs.getD t 0 ≤ 255 := by
  by_cases h0 : len = 0
  · exact .inl h0
  · rcases h with ⟨_, hl, _, _⟩ | ⟨x, rfl, hlc, hm, hz, hcell, hwz⟩
    · exact absurd hl h0
    · obtain ⟨b, off, spot⟩ := x
      have hspot : spot = none := by simpa [Addr.add] using World.cell?_spot (hcell 0 (by omega))
      subst hspot
      refine .inr ⟨b, off, rfl, fun t ht => ?_⟩
      have hct := hcell t (by omega)
      have hbd := bounds_u8 (hwz (zs.getD t 0) (by
        rw [List.getD_eq_getElem?_getD, List.getElem?_eq_getElem (by omega)]
        exact List.getElem_mem _))
      refine ⟨?_, hbd⟩
      by_cases h1 : t = 0
      · subst h1; simpa [Addr.add] using hct
      · simpa [Addr.add, h1] using hct
theorem IsRow.lt {w : World} {a : Option Addr} {len cap : Nat} {zs : List Int} (h : IsRow .u8 w a len cap zs) (hp : 0 < len) : ∀ x, a = some x → x.block < w.heap.size := by
  intro x hx
  rcases h with ⟨_, hl, _, _⟩ | ⟨y, rfl, hlc, hm, hz, hcell, hwz⟩
  · omega
  · obtain rfl := Option.some.inj hx
    have := World.block_lt_of_cell? w _ (hcell 0 (by omega))
    simpa [Addr.add] using this
end Go.Proofs.Ytfghhjcfmmhacaa
/- l1PickInt: one of a row of integers, as a function of the cursor's state. -/
namespace Go.Proofs.Ytfghhjcfmmhacaa
open Go.RowKit
def AnInt (x : Int) : Prop := (Lit.int .i64 x).wf = true
def Ints (w : World) (g : Nat) (L : List Int) : Prop := ∀ t, t < L.length → w.cell? ⟨g, t, none⟩ = some (.int .i64 (L.getD t 0))
def pickS (zs : List Int) (len : Nat) (L : List Int) (σ : Int × Int) : Int × (Int × Int) := (L.getD (belowS zs len (L.length : Nat) σ).1.toNat 0, (belowS zs len (L.length : Nat) σ).2)
end Go.Proofs.Ytfghhjcfmmhacaa
/- The code that a law draws from, as the walks take it. -/
namespace Go.Proofs.Ytfghhjcfmmhacaa
open Go.RowKit
structure Code (a : Option Addr) (len cap : Nat) (zs : List Int) (w : World) : Prop where
  row : IsRow .u8 w a len cap zs
  small : len ≤ 1048576
  old : ∀ x, a = some x → 0 < cap → x.block < w.heap.size
theorem Code.below {a : Option Addr} {len cap : Nat} {zs : List Int} {w w' : World} (h : Code a len cap zs w) (hb : Below w.heap.size w w') : Code a len cap zs w' :=
  ⟨h.row.keep fun x hx hp _ => hb.block x.block (h.old x hx hp), h.small, fun x hx hp => Nat.lt_of_lt_of_le (h.old x hx hp) hb.size⟩
end Go.Proofs.Ytfghhjcfmmhacaa
/- A variable of three numbers in a block of its own, behind calls and stores; no function of the program. -/
namespace Go.Proofs.Ytfghhjcfmmhacaa
open Go.RowKit
end Go.Proofs.Ytfghhjcfmmhacaa
/- l2Row, l2Any: the row that is drawn, as a function of the cursor's state. -/
namespace Go.Proofs.Ytfghhjcfmmhacaa
open Go.RowKit
def Rowed (F : Int × Int → R × (Int × Int)) (a : Option Addr) (len cap : Nat) (zs : List Int) (σ : Int × Int) (c : Nat) (w : World) (e : Ending) (w' : World) : Prop :=
  ∃ (r : R) (τ : Int × Int), F σ = (r, τ) ∧ e = .returned (.agg #[.int .i64 r.key, .int .i64 r.value, .int .i64 r.width]) ∧ Cur a len cap zs τ w' c ∧ Only c w w'
def widths : List Int := [0, 0, 1, 2, 3]
def rowS (zs : List Int) (len : Nat) (keys : Int) (σ : Int × Int) : R × (Int × Int) :=
  let x := belowS zs len keys σ
  let y := belowS zs len 100 x.2
  let z := pickS zs len widths y.2
  (⟨x.1, y.1, z.1⟩, z.2)
def anyS (zs : List Int) (len : Nat) (σ : Int × Int) : R × (Int × Int) :=
  let r := rowS zs len 10 σ
  let v := belowS zs len 8 r.2
  if v.1 = 0 then (⟨(pickS zs len [-1, 10] v.2).1, r.1.value, r.1.width⟩, (pickS zs len [-1, 10] v.2).2)
  else if v.1 = 1 then (⟨r.1.key, (pickS zs len [-1, 100, 99] v.2).1, r.1.width⟩, (pickS zs len [-1, 100, 99] v.2).2)
  else if v.1 = 2 then (⟨r.1.key, r.1.value, (pickS zs len [-1, 4] v.2).1⟩, (pickS zs len [-1, 4] v.2).2)
  else (r.1, v.2)
end Go.Proofs.Ytfghhjcfmmhacaa
/- l2Rows, l2Bent: the rows that are drawn, as functions of the cursor's state. -/
namespace Go.Proofs.Ytfghhjcfmmhacaa
open Go.RowKit
def keysL : List Int := [1, 2, 4, 10]
def rowsLoop (zs : List Int) (len : Nat) (keys : Int) : Nat → List R → Int × Int → List R × (Int × Int)
  | 0, l, σ => (l, σ)
  | n + 1, l, σ => rowsLoop zs len keys n (l ++ [(rowS zs len keys σ).1]) (rowS zs len keys σ).2
def rowsS (zs : List Int) (len : Nat) (most : Int) (σ : Int × Int) : List R × (Int × Int) :=
  let k := pickS zs len keysL σ
  let n := belowS zs len (most + 1) k.2
  rowsLoop zs len k.1 n.1.toNat [] n.2
def bentS (zs : List Int) (len : Nat) (most : Int) (σ : Int × Int) : List R × (Int × Int) :=
  let l := rowsS zs len most σ
  let v := belowS zs len 14 l.2
  if v.1 = 0 then (l.1 ++ [(anyS zs len v.2).1], (anyS zs len v.2).2) else (l.1, v.2)
end Go.Proofs.Ytfghhjcfmmhacaa
/- One slice of rows, as a law's draw gives it. -/
namespace Go.Proofs.Ytfghhjcfmmhacaa
open Go.RowKit
def OneRows (w : World) (e : Ending) (w' : World) : Prop := ∃ (x : Option Addr) (n m : Nat) (L : List R), e = .returned (.slice x n m) ∧ n ≤ 1000 ∧ (∀ r ∈ L, r.wf) ∧ IsRows w' x n L ∧ Below w.heap.size w w'
end Go.Proofs.Ytfghhjcfmmhacaa
/- DrawReferenceJoin: what it gives. -/
namespace Go.Proofs.Ytfghhjcfmmhacaa
open Go.RowKit
end Go.Proofs.Ytfghhjcfmmhacaa
/- States told by trees: calls whose answer is one of several, rows that are drawn, a law's bytes. -/
namespace Go.Proofs.Ytfghhjcfmmhacaa.V
open Go Go.RowKit
set_option linter.unusedVariables false
variable {P : Program} {E : Env} {N nb : Nat} {σ σ' τ : VS} {o : Oper} {a : Act} {w : World} {G : Ghost} {Q : Exit → Act → World → Prop} {K : Act → World → Prop}
def VCE {Y : Type} (Φ : World → Prop) (Pr : Y → Prop) (P : Program) (f : FuncId) (ins : List (Bool × List T)) (tup : Bool) (rs : Y → List (Bool × List T)) : Prop := ∀ (w : World), Φ w → ∀ (vs : List Value), ArgsIn (Env.of w) w ins vs → Calls P f vs.toArray w fun e w' => ∃ y, Pr y ∧ Gives (Env.of w) tup (rs y) e w'
end Go.Proofs.Ytfghhjcfmmhacaa.V
/- States told by trees: functions that draw from a cursor: a pinned box holds it. -/
namespace Go.Proofs.Ytfghhjcfmmhacaa.V
open Go Go.RowKit
set_option linter.unusedVariables false
variable {P : Program} {E : Env} {N nb : Nat} {σ σ' τ : VS} {o : Oper} {a : Act} {w : World} {G : Ghost} {Q : Exit → Act → World → Prop} {K : Act → World → Prop} {ad : Option Addr} {len cap : Nat} {zs : List Int}
def Env.code (E : Env) (ad : Option Addr) (len cap : Nat) (zs : List Int) : Prop := Code ad len cap zs E.w0 ∧ ∀ x, ad = some x → 0 < cap → ¬ E.ln x.block
theorem Env.code.at (h : E.code ad len cap zs) (hs : Same E E.w0 w) : Code ad len cap zs w :=
  ⟨h.1.row.keep fun x hx hp _ => hs.block x.block ⟨h.1.old x hx hp, h.2 x hx hp⟩, h.1.small, fun x hx hp => Nat.lt_of_lt_of_le (h.1.old x hx hp) hs.size⟩
def curL (ad : Option Addr) (len cap : Nat) (p h : Int) : List Leaf := [.sc (.slice ad len cap), .sc (.int .i64 p), .sc (.int .i64 h)]
def GivesC (w : World) (c : Nat) (tup : Bool) (rs : List (Bool × List T)) (e : Ending) (w' : World) : Prop :=
  ∃ (uss : List (List Value)) (F : Nat → Nat → Nat → Prop), uss.length = rs.length ∧ e = .returned (vval tup (List.zipWith (fun r us => cval r.1 us) rs uss)) ∧
    (∀ (c' : Nat) (ag : Bool) (ts : List T) (us : List Value), rs[c']? = some (ag, ts) → uss[c']? = some us → us.length = ts.length ∧ ∀ (j : Nat) (t : T) (u : Value), ts[j]? = some t → us[j]? = some u → Own w' 0 t u (F c' j)) ∧
    (∀ c1 j c2 j' b, F c1 j b → F c2 j' b → c1 = c2 ∧ j = j') ∧ (∀ c1 j b, F c1 j b → w.heap.size ≤ b ∧ b < w'.heap.size) ∧ Only c w w'
def VK {Y : Type} (ad : Option Addr) (len cap : Nat) (zs : List Int) (Pr : Y → Prop) (P : Program) (f : FuncId) (xs : List Value) (tup : Bool) (rs : Y → List (Bool × List T)) : Prop :=
  ∀ (w : World) (c : Nat) (σ : Int × Int), Code ad len cap zs w → Cur ad len cap zs σ w c → Calls P f (Value.pointer (some ⟨c, 0, none⟩) :: xs).toArray w fun e w' => ∃ y τ, Pr y ∧ Cur ad len cap zs τ w' c ∧ GivesC w c tup (rs y) e w'
theorem Rel.answer (h : Rel E N σ a w G) {fn : Func} {rs : List ResultVar} {ps : List (Bool × List Leaf)} {tup : Bool} {qs : List (Bool × List T)} (hf : fn.results = rs.toArray) (hr : ResAll P σ rs ps) (ho : σ.outss ps qs) (ht : (!(Nat.beq qs.length 1)) = tup) (h2 : (ps.flatMap (·.2)).Pairwise two) : a.defers = [] ∧ ∃ v, (results fn a.tmps).run P w = .ok v w ∧ ∃ (uss : List (List Value)) (F : Nat → Nat → Nat → Prop), uss.length = qs.length ∧ Ending.returned v = .returned (vval tup (List.zipWith (fun (r : Bool × List T) us => cval r.1 us) qs uss)) ∧
    (∀ (c : Nat) (ag : Bool) (ts : List T) (us : List Value), qs[c]? = some (ag, ts) → uss[c]? = some us → us.length = ts.length ∧ ∀ (j : Nat) (t : T) (u : Value), ts[j]? = some t → us[j]? = some u → Own w 0 t u (F c j)) ∧
    (∀ c j c' j' b, F c j b → F c' j' b → c = c' ∧ j = j') ∧ ∀ c j b, F c j b → ∃ i, σ.ob i ≠ none ∧ G.ft i b := by
  obtain ⟨uss, h3, h4, h5⟩ := h.resAll hr
  obtain ⟨h6, h7⟩ := outss_get ho
  have hrun := results_run hf h4
  have hlen : (List.zipWith (fun (p : Bool × List Leaf) us => cval p.1 us) ps uss).length = qs.length := by simp [h3, h6]
  have hag : ∀ c ag ts, qs[c]? = some (ag, ts) → ∃ xs, ps[c]? = some (ag, xs) ∧ σ.outs xs ts := h7
  have hzip : List.zipWith (fun (p : Bool × List Leaf) us => cval p.1 us) ps uss = List.zipWith (fun (q : Bool × List T) us => cval q.1 us) qs uss := by
    apply List.ext_getElem?
    intro c
    rw [List.getElem?_zipWith, List.getElem?_zipWith]
    cases hq : qs[c]? with
    | none =>
      have : ps[c]? = none := by rw [List.getElem?_eq_none_iff] at hq ⊢; omega
      rw [this]
    | some q =>
      obtain ⟨ag, ts⟩ := q
      obtain ⟨xs, hp, -⟩ := hag c ag ts hq
      rw [hp]
      cases uss[c]? <;> rfl
  rw [hlen, ht, hzip] at hrun
  refine ⟨h.dfr, _, hrun, uss, (fun c j b => ∃ ag xs x, ps[c]? = some (ag, xs) ∧ xs[j]? = some x ∧ x.foot G b), h3.trans h6, rfl, fun c ag ts us hq hu => ?_, ?_, ?_⟩
  · obtain ⟨xs, hp, hx⟩ := hag c ag ts hq
    obtain ⟨h8, h9⟩ := outs_get hx
    obtain ⟨h10, h11⟩ := h5 c ag xs us hp hu
    refine ⟨h10.trans h8, fun j t u hj hu' => ?_⟩
    obtain ⟨x, hx1, hx2⟩ := h9 j t hj
    exact (h.out (h11 j x u hx1 hu') hx2).mono fun b hb => ⟨ag, xs, x, hp, hx1, hb⟩
  · rintro c j c' j' b ⟨ag, xs, x, h8, h9, h10⟩ ⟨ag', xs', x', h8', h9', h10'⟩
    have key : ∀ {x x' : Leaf}, x.foot G b → x'.foot G b → (∃ t, σ.out x = some t) → (∃ t, σ.out x' = some t) → ¬ two x x' := fun {x x'} k1 k2 k3 k4 k5 => by
      cases x with
      | hd i =>
        cases x' with
        | hd i' =>
          by_cases hii : i = i'
          · exact k5 i rfl (by rw [hii])
          · obtain ⟨t, k3⟩ := k3
            obtain ⟨t', k4⟩ := k4
            obtain ⟨p, e1, -⟩ := Option.map_eq_some_iff.1 k3
            obtain ⟨p', e2, -⟩ := Option.map_eq_some_iff.1 k4
            exact h.disj i i' b (by rw [e1]; simp) (by rw [e2]; simp) hii k1 k2
        | _ => exact k2
      | _ => exact k1
    have hout : ∀ {c j ag xs x}, ps[c]? = some (ag, xs) → xs[j]? = some x → ∃ t, σ.out x = some t := fun {c j ag xs x} k1 k2 => by
      have hc : c < qs.length := by rw [← h6]; exact get_lt k1
      obtain ⟨xs', k3, k4⟩ := hag c qs[c].1 qs[c].2 (by rw [List.getElem?_eq_getElem hc])
      rw [k1] at k3
      cases k3
      obtain ⟨k5, k6⟩ := outs_get k4
      have hj : j < qs[c].2.length := by rw [← k5]; exact get_lt k2
      obtain ⟨y, k7, k8⟩ := k6 j qs[c].2[j] (List.getElem?_eq_getElem hj)
      rw [k2] at k7
      cases k7
      exact ⟨_, k8⟩
    rw [List.pairwise_flatMap] at h2
    have o1 := hout h8 h9
    have o2 := hout h8' h9'
    have hc1 := get_lt h8
    have hc2 := get_lt h8'
    have g1 : ps[c] = (ag, xs) := by rw [List.getElem?_eq_getElem hc1] at h8; exact Option.some.inj h8
    have g2 : ps[c'] = (ag', xs') := by rw [List.getElem?_eq_getElem hc2] at h8'; exact Option.some.inj h8'
    have m1 := get_mem h9
    have m2 := get_mem h9'
    rcases Nat.lt_trichotomy c c' with hcc | hcc | hcc
    · have := (List.pairwise_iff_getElem.1 h2.2) c c' hc1 hc2 hcc x (by rw [g1]; exact m1) x' (by rw [g2]; exact m2)
      exact absurd this (key h10 h10' o1 o2)
    · subst hcc
      rw [h8] at h8'
      cases h8'
      refine ⟨rfl, ?_⟩
      have hp := h2.1 _ (get_mem h8)
      have hj1 := get_lt h9
      have hj2 := get_lt h9'
      have x1 : xs[j] = x := by rw [List.getElem?_eq_getElem hj1] at h9; exact Option.some.inj h9
      have x2 : xs[j'] = x' := by rw [List.getElem?_eq_getElem hj2] at h9'; exact Option.some.inj h9'
      rcases Nat.lt_trichotomy j j' with hjj | hjj | hjj
      · have := (List.pairwise_iff_getElem.1 hp) j j' hj1 hj2 hjj
        rw [x1, x2] at this
        exact absurd this (key h10 h10' o1 o2)
      · exact hjj
      · have := (List.pairwise_iff_getElem.1 hp) j' j hj2 hj1 hjj
        rw [x1, x2] at this
        exact absurd this (key h10' h10 o2 o1)
    · have := (List.pairwise_iff_getElem.1 h2.2) c' c hc2 hc1 hcc x' (by rw [g2]; exact m2) x (by rw [g1]; exact m1)
      exact absurd this (key h10' h10 o2 o1)
  · rintro c j b ⟨ag, xs, x, h8, h9, h10⟩
    have hc : c < qs.length := by rw [← h6]; exact get_lt h8
    obtain ⟨xs', k3, k4⟩ := hag c qs[c].1 qs[c].2 (by rw [List.getElem?_eq_getElem hc])
    rw [h8] at k3
    cases k3
    obtain ⟨k5, k6⟩ := outs_get k4
    have hj : j < qs[c].2.length := by rw [← k5]; exact get_lt h9
    obtain ⟨y, k7, k8⟩ := k6 j qs[c].2[j] (List.getElem?_eq_getElem hj)
    rw [h9] at k7
    cases k7
    cases x with
    | hd i =>
      obtain ⟨p, e1, -⟩ := Option.map_eq_some_iff.1 k8
      exact ⟨i, by rw [e1]; simp, h10⟩
    | _ => exact h10.elim
theorem VK.enter {Y : Type} {Pr : Y → Prop} {f : FuncId} {fn : Func} {c0 : Go.Code} {n : Nat} {us : List Value} {tup : Bool} {rs : Y → List (Bool × List T)} (hf : P.funcs[f]? = some fn) (hb : fn.body = some c0) (hn : fn.ntmps = n) (hl : us.length + 1 ≤ n) (hone : ∀ u ∈ us, u.oneCell' = true)
    (h : ∀ (E : Env) (c : Nat) (p h0 : Int), E.nl = 0 → E.code ad len cap zs → (E.pin = some c ∧ ∀ b, E.ln b → b = c) → 0 ≤ p ∧ p ≤ len → SV E n ⟨fun s => (V.one (.bp 0 0) :: us.map fun u => V.one (.sc u)).getD s (V.one .dead), [(85, curL ad len cap p h0)], fun _ => none, 0⟩ (c0.wp P (bodyPost P fn fun e w' => ∃ y τ, Pr y ∧ Cur ad len cap zs τ w' c ∧ GivesC E.w0 c tup (rs y) e w'))) : VK ad len cap zs Pr P f us tup rs := fun w c σ hcode hcur => by
  refine calls_of_wp hf hb ?_
  obtain ⟨p, h0⟩ := σ
  obtain ⟨E, hE⟩ : ∃ E : Env, E = ⟨w, fun b => b = c, fun b hb => by rw [hb]; exact hcur.lt, fun _ => undef, 0, some c⟩ := ⟨_, rfl⟩
  have hEC : E.code ad len cap zs := by subst hE; exact ⟨hcode, fun x hx hp e => hcur.apart x hx hp e⟩
  have h1 := h E c p h0 (by rw [hE]) hEC (by subst hE; exact ⟨rfl, fun b hb => hb⟩) ⟨hcur.low, hcur.high⟩ { tmps := (Value.pointer (some ⟨c, 0, none⟩) :: us).toArray ++ Array.replicate (n - (us.length + 1)) undef, defers := [] } w ⟨fun _ => c, fun _ => undef, fun _ _ => False⟩ (by
    subst hE
    refine ⟨Same.refl _ _, rfl, by simp; omega, fun s => ?_, fun b ty xs hb => ?_, fun b b' hb hb' _ => (by simp at hb hb'; omega), fun b i hb hi => absurd rfl hi, fun i v t hi => (by cases hi), fun i j b hi => absurd rfl hi, fun i b hi => absurd rfl hi, ⟨Nat.le_refl _, fun i hi => absurd hi (Nat.not_lt_zero i), fun c' hc' => ⟨by simp, Option.some.inj hc'⟩⟩⟩
    · rcases Nat.lt_or_ge s (us.length + 1) with hs | hs
      · have e2 : ((Value.pointer (some ⟨c, 0, none⟩) :: us).toArray ++ Array.replicate (n - (us.length + 1)) undef).getD s undef = (Value.pointer (some ⟨c, 0, none⟩) :: us).getD s undef := by
          simp only [Array.getD_eq_getD_getElem?]
          rw [Array.getElem?_append_left (by simpa using hs)]
          simp [List.getD]
        show VHolds _ _ _ _ ((V.one (.bp 0 0) :: us.map fun u => V.one (.sc u)).getD s (V.one .dead)) _
        rw [e2]
        cases s with
        | zero => exact vone.2 ⟨⟨by simp, rfl⟩, .inr rfl⟩
        | succ s =>
          have hs' : s < us.length := by omega
          have e3 : (V.one (.bp 0 0) :: us.map fun u => V.one (.sc u)).getD (s + 1) (V.one .dead) = V.one (.sc us[s]) := by simp [List.getD, hs']
          have e4 : (Value.pointer (some ⟨c, 0, none⟩) :: us).getD (s + 1) undef = us[s] := by simp [List.getD, hs']
          rw [e3, e4]
          exact vone.2 ⟨rfl, .inr (hone _ (List.getElem_mem hs'))⟩
      · have e3 : (V.one (.bp 0 0) :: us.map fun u => V.one (.sc u)).getD s (V.one .dead) = V.one .dead := by simp [List.getD, show us.length + 1 ≤ s by omega]
        show VHolds _ _ _ _ ((V.one (.bp 0 0) :: us.map fun u => V.one (.sc u)).getD s (V.one .dead)) _
        rw [e3]
        exact vone.2 ⟨trivial, .inl rfl⟩
    · have hb0 : b = 0 := by have := get_lt hb; simpa using this
      subst hb0
      cases hb
      refine ⟨.inr rfl, [.slice ad len cap, .int .i64 p, .int .i64 h0], hcur.cell, rfl, fun j x u hj hu => ?_⟩
      match j, hj, hu with
      | 0, hj, hu => cases hj; cases hu; exact ⟨⟨rfl, .inr rfl⟩, rfl⟩
      | 1, hj, hu => cases hj; cases hu; exact ⟨⟨rfl, .inr rfl⟩, rfl⟩
      | 2, hj, hu => cases hj; cases hu; exact ⟨⟨rfl, .inr rfl⟩, rfl⟩)
  rw [hn]
  have e0 : E.w0 = w := by rw [hE]
  rw [e0] at h1
  simpa using h1
theorem VCE.enter {Y : Type} {Pr : Y → Prop} {f : FuncId} {fn : Func} {c0 : Go.Code} {n : Nat} {tup : Bool} {rs : Y → List (Bool × List T)} (hf : P.funcs[f]? = some fn) (hb : fn.body = some c0) (hn : fn.ntmps = n) (hl : 1 ≤ n)
    (h : ∀ E, E.plain 0 → E.code ad len cap zs → SV E n (VS.init ([(false, [T.lit (.slice ad len cap)])].map fun p => V.flat p.1 (p.2.map argLeaf))) (c0.wp P (bodyPost P fn fun e w' => ∃ y, Pr y ∧ Gives E tup (rs y) e w'))) : VCE (fun w => Code ad len cap zs w) Pr P f [(false, [.lit (.slice ad len cap)])] tup rs := fun w hw vs hv => by
  refine calls_of_wp hf hb ?_
  obtain ⟨G, hG⟩ := init_rel (E := Env.of w) ⟨rfl, rfl⟩ (n := n) hv (by rw [hv.1]; exact hl)
  have := h (Env.of w) ⟨rfl, rfl⟩ ⟨hw, fun _ _ _ h => h⟩ _ _ G hG
  rw [hn]
  have e : (Env.of w).w0 = w := rfl
  rw [e] at this
  simpa using this
end Go.Proofs.Ytfghhjcfmmhacaa.V
/- States told by trees: functions that are handed a cursor and more that they read; rows and numbers that are drawn. -/
namespace Go.Proofs.Ytfghhjcfmmhacaa.V
open Go Go.RowKit
set_option linter.unusedVariables false
variable {P : Program} {E : Env} {N nb : Nat} {σ σ' τ : VS} {o : Oper} {a : Act} {w : World} {G : Ghost} {Q : Exit → Act → World → Prop} {K : Act → World → Prop} {ad : Option Addr} {len cap : Nat} {zs : List Int}
def ArgsC (w : World) (c : Nat) (ins : List (Bool × List T)) (vs : List Value) : Prop :=
  vs.length = ins.length ∧ ∀ (k : Nat) (ag : Bool) (ts : List T) (v : Value), ins[k]? = some (ag, ts) → vs[k]? = some v → ∃ us : List Value, v = cval ag us ∧ us.length = ts.length ∧ ∀ (j : Nat) (t : T) (u : Value), ts[j]? = some t → us[j]? = some u → Inn (fun b => b < w.heap.size ∧ b ≠ c) w t u
theorem Rel.okC (h : Rel E N σ a w G) {c : Nat} (hc : c < σ.bs.length) (hold : ¬ E.old (G.β c)) {x : Leaf} {t : T} (ht : σ.tr x = some t) : ∀ b, x.okIn G E b → b < w.heap.size → b < w.heap.size ∧ b ≠ G.β c := fun b hb hlt => by
  refine ⟨hlt, fun e => ?_⟩
  subst e
  have key : ∀ i, σ.ob i ≠ none → ¬ G.ft i (G.β c) := fun i hi => h.boxft c i hc hi
  cases x with
  | hd i => exact key i (fun e => by simp [VS.tr, e] at ht) hb
  | nd i ver s loc => exact key i (fun e => by simp [VS.tr, e] at ht) hb
  | _ => exact hold hb
def VKT {Y : Type} (ad : Option Addr) (len cap : Nat) (zs : List Int) (Pr : Y → Prop) (P : Program) (f : FuncId) (ins : List (Bool × List T)) (tup : Bool) (rs : Y → List (Bool × List T)) : Prop :=
  ∀ (w : World) (c : Nat) (σ : Int × Int), Code ad len cap zs w → Cur ad len cap zs σ w c → ∀ vs, ArgsC w c ins vs → Calls P f (Value.pointer (some ⟨c, 0, none⟩) :: vs).toArray w fun e w' => ∃ y τ, Pr y ∧ Cur ad len cap zs τ w' c ∧ GivesC w c tup (rs y) e w'
end Go.Proofs.Ytfghhjcfmmhacaa.V
/- States told by trees: a region that draws its order, with calls that are handed a cursor. -/
namespace Go.Proofs.Ytfghhjcfmmhacaa.V
open Go Go.RowKit
set_option linter.unusedVariables false
variable {P : Program} {E : Env} {N : Nat} {σ σ' τ : VS} {o : Oper} {a : Act} {w ws : World} {G Gs : Ghost} {Q : Exit → Act → World → Prop} {ad : Option Addr} {len cap : Nat} {zs0 : List Int}
structure SameC (E : Env) (τ : VS) (wl : List Nat) (G : Ghost) (ws v : World) : Prop where
  below : Same E ws v
  block : ∀ b, b < ws.heap.size → v.heap[b]? = ws.heap[b]? ∨ (∃ c, c ∈ wl ∧ c < τ.bs.length ∧ b = G.β c) ∨ ∃ (i ver : Nat) (ty : TypeId) (es : List (List T)) (n : Nat) (cs cs' : Array Value), τ.ob i = some (ver, .seq ty es) ∧ (G.vl i).ownBlock = some b ∧ Sz ty n ∧ ws.heap[b]? = some (.cells cs ty (0, 0)) ∧ v.heap[b]? = some (.cells cs' ty (0, 0)) ∧ cs'.size = cs.size ∧ cs'.toList.take (es.length * n) = cs.toList.take (es.length * n)
theorem SameC.refl (E : Env) (τ : VS) (wl : List Nat) (G : Ghost) (w : World) : SameC E τ wl G w w := ⟨Same.refl _ _, fun _ _ => .inl rfl⟩
structure LinkC (E : Env) (N : Nat) (τ : VS) (wl : List Nat) (ws : World) (Gs : Ghost) (fr : List Nat) (σ : VS) (w : World) (G : Ghost) : Prop where
  start : ∃ a, Rel E N τ a ws Gs
  same : SameC E τ wl Gs ws w
  vl : ∀ i, i < τ.nx → G.vl i = Gs.vl i
  β : ∀ b, b < τ.bs.length → G.β b = Gs.β b
  nx : τ.nx ≤ σ.nx
  bs : τ.bs.length ≤ σ.bs.length
  fresh : ∀ i ∈ fr, i < σ.nx ∧ ∀ b, (G.vl i).ownBlock = some b → ws.heap.size ≤ b
  nb : ∀ b, τ.bs.length ≤ b → b < σ.bs.length → ws.heap.size ≤ G.β b
def DC (E : Env) (N : Nat) (τ : VS) (wl : List Nat) (fr : List Nat) (σ : VS) (Ψ : World → Ghost → Act → World → Prop) : Prop := ∀ ws Gs a w G, Rel E N σ a w G → LinkC E N τ wl ws Gs fr σ w G → Ψ ws Gs a w
abbrev SC (E : Env) (τ : VS) (wl : List Nat) (ws : World) (Gs : Ghost) : World → Prop := fun v => SameC E τ wl Gs ws v
theorem SV.drawC {id : Nat} {l : List Oper} (wl : List Nat) (ps : List PStep) (zs : List Nat) (hm : P.follows .mixedOrders = true) (hB : planB .any l.toArray (Pl.of ps) zs = true) (h : DC E N τ wl [] τ fun ws Gs a w => wpPi P l.toArray Q (SC E τ wl ws Gs) zs (Pl.of ps) a w) : SV E N τ ((Code.region id l.toArray true).wp P Q) :=
  fun a w G hr => region_plan (SC E τ wl w.drew G) (Pl.of ps) zs hm hB (SameC.refl _ _ _ _ _) fun _ => h w.drew G a w.drew G hr.drew ⟨⟨a, hr.drew⟩, SameC.refl _ _ _ _ _, fun _ _ => rfl, fun _ _ => rfl, Nat.le_refl _, Nat.le_refl _, fun i hi => (by cases hi), fun b h1 h2 => absurd h2 (Nat.not_lt.2 h1)⟩
variable {l : List Oper} {zs : List Nat} {ps : Pl} {i d : Nat} {fr wl : List Nat}
theorem LinkC.put (h : LinkC E N τ wl ws Gs fr σ w G) {v : V} : LinkC E N τ wl ws Gs fr (σ.put d v) w G := ⟨h.start, h.same, h.vl, h.β, h.nx, h.bs, h.fresh, h.nb⟩
theorem LinkC.lite (h : LinkC E N τ wl ws Gs fr σ w G) {v : World} (s : SameC E τ wl Gs ws v) : Lite E 0 G w v :=
  ⟨fun b hb => (s.below.block b hb).trans (h.same.below.block b hb).symm, fun c hc => absurd hc (Nat.not_lt_zero c)⟩
theorem DC.q {V' : V} (ho : nthO l i = some o) (h : OpL P E N 0 σ o V') (hg : o.guard = none) (hd : o.dst = some d) (hdN : d < N) (hQ : ∀ c (a : Act) v w, Q (.panic c) (a.put o.dst v) w → Q (.panic c) a w) (k : DC E N τ wl fr (σ.put d V') fun ws Gs a w => wpPi P l.toArray Q (SC E τ wl ws Gs) zs ps a w) :
    DC E N τ wl fr σ fun ws Gs a w => wpPi P l.toArray Q (SC E τ wl ws Gs) zs (.q i ps) a w := fun ws Gs a w G hr hl => by
  obtain ⟨u, h1, h2⟩ := h a w G hr
  refine pi_take (v := u) ho (fun c a w => hQ c a u w) (by simp [Region.wanted, hg]) (fun v hv => h1 v (hl.lite hv)) ?_
  rw [hd]
  exact k ws Gs _ w G (hr.put hdN h2) hl.put
theorem SameC.cell (h : Rel E N τ a ws Gs) {v : World} (s : SameC E τ wl Gs ws v) {j ver g k' n p : Nat} {ty : TypeId} {fs : List (List T)} {N' c : Nat} {e : List T} {u : Value} (hj : τ.ob j = some (ver, .seq ty fs)) (hv : Gs.vl j = .slice (some ⟨g, 0, none⟩) N' c) (he : fs[k']? = some e) (hen : e.length = n) (hp : p < n) (hcell : ws.cell? ⟨g, k' * n + p, none⟩ = some u) : v.cell? ⟨g, k' * n + p, none⟩ = some u := by
  have hroot : (Gs.vl j).ownBlock = some g := by rw [hv]; rfl
  have hft := root_ft h hj hroot
  rcases s.block g (lt_blk hcell) with h9 | ⟨c', -, hc', h9⟩ | ⟨i2, v2, ty2, es2, n2, cs, cs', f1, f2, f3, f4, f5, f6, f7⟩
  · exact (World.cell?_of_block h9).trans hcell
  · rw [h9] at hft
    exact absurd hft (h.boxft c' j hc' (by rw [hj]; simp))
  · have hji : j = i2 := by
      rcases Nat.decEq j i2 with hne | hne
      · exact absurd (root_ft h f1 f2) (h.disj j i2 g (by rw [hj]; simp) (by rw [f1]; simp) hne hft)
      · exact hne
    subst hji
    rw [hj] at f1
    cases f1
    obtain ⟨-, hown, -⟩ := h.objs j ver _ hj
    cases hown with
    | seq n3 hp3 hz3 hn3 xs hown3 Gs3 hr3 hone3 hF3 hG3 hne3 hd3 =>
      have hnn : n2 = n := (f3.eq hz3).trans ((hn3 e (get_mem he)).symm.trans hen)
      subst hnn
      have hlt : k' * n2 + p < fs.length * n2 := at_lt (get_lt he) hp
      rw [cell_of_row _ _ _ _ _ _ f4] at hcell
      rw [cell_of_row _ _ _ _ _ _ f5]
      have g1 : (cs'.toList.take (fs.length * n2))[k' * n2 + p]? = (cs.toList.take (fs.length * n2))[k' * n2 + p]? := by rw [f7]
      rw [List.getElem?_take, List.getElem?_take, if_pos hlt, if_pos hlt] at g1
      simpa using g1.trans (by simpa using hcell)
theorem SameC.cellB (h : Rel E N τ a ws Gs) {v : World} (s : SameC E τ wl Gs ws v) {j ver g k' n p : Nat} {ty : TypeId} {fs : List (List T)} {N' c : Nat} {e : List T} {u : Value} (hj : τ.ob j = some (ver, .seq ty fs)) (hv : Gs.vl j = .slice (some ⟨g, 0, none⟩) N' c) (he : fs[k']? = some e) (hen : e.length = n) (hp : p < n) (hcell : v.cell? ⟨g, k' * n + p, none⟩ = some u) : ws.cell? ⟨g, k' * n + p, none⟩ = some u := by
  obtain ⟨-, hown, -⟩ := h.objs j ver _ hj
  cases hown with
  | seq n3 hp3 hz3 hn3 xs hown3 Gs3 hr3 hone3 hF3 hG3 hne3 hd3 =>
    obtain ⟨a', c', e1, -, -, -, e5⟩ := own_slice hown3
    rw [hv] at e1
    injection e1 with e1 e2 e3
    obtain ⟨g', f1, f2, f3, f4, f5⟩ := e5 (Nat.lt_of_le_of_lt (Nat.zero_le _) (get_lt he))
    rw [f1] at e1
    injection e1 with e1
    injection e1 with e1
    have hn' : n3 = n := (hn3 e (get_mem he)).symm.trans hen
    subst hn' e1
    have hxl : xs.length = fs.length * n3 := hown3.1
    have hlt : k' * n3 + p < xs.length := by rw [hxl]; exact at_lt (get_lt he) hp
    have h6 := f4 (k' * n3 + p) xs[k' * n3 + p] (List.getElem?_eq_getElem hlt)
    have h7 := s.cell h hj hv he hen hp h6
    rw [hcell] at h7
    rw [h6, h7]
theorem DC.el {m : Nat} {ty : TypeId} {x : Operand} {j k' n o' : Nat} {ag : Bool} {es : List T} {ys : List Leaf} (hn : nthO l i = some o) (ho : o.op = .load ty x) (hx : σ.ev x = V.one (.ep j k' n o')) (hob : j < τ.nx ∧ σ.ob j = τ.ob j) (hc : σ.cells (.ep j k' n o') = some es) (hag : ∀ w, (isAgg ty).run Try.prog w = .ok ag w) (hm : Sz ty m) (h1 : ag = false → m = 1) (hml : m ≤ es.length)
    (hy : (List.range m).map (fun q => match es[q]? with | some t => σ.cellLeaf (.ep j k' n o') q t | none => .dead) = ys) (hg : o.guard = none) (hd : o.dst = some d) (hdN : d < N) (hQ : ∀ c (a : Act) v w, Q (.panic c) (a.put o.dst v) w → Q (.panic c) a w) (k : DC E N τ wl fr (σ.put d (V.flat ag ys)) fun ws Gs a w => wpPi Try.prog l.toArray Q (SC E τ wl ws Gs) zs ps a w) :
    DC E N τ wl fr σ fun ws Gs a w => wpPi Try.prog l.toArray Q (SC E τ wl ws Gs) zs (.q i ps) a w := fun ws Gs a w G hr hl => by
  obtain ⟨u, b, q, h2, h3, h4⟩ := load_el ho hx hc hag hm h1 hml hy hr
  refine pi_take (v := u) hn (fun c a w => hQ c a u w) (by simp [Region.wanted, hg]) (fun v hv => h3 v fun p y hp hcell => ?_) ?_
  · have h5 := hr.ev x
    rw [hx, vone] at h5
    obtain ⟨⟨-, g, M, c, h6, h7⟩, -⟩ := h5
    rw [h2] at h7
    injection h7 with h7
    injection h7 with h7
    injection h7 with h7 h8
    subst h7 h8
    obtain ⟨⟨ver, s⟩, e1, e2⟩ := Option.bind_eq_some_iff.1 hc
    obtain ⟨-, hown, ty', fs, hs⟩ := hr.objs j ver s e1
    have hs' : s = .seq ty' fs := hs
    subst hs'
    obtain ⟨e, he, e3⟩ := Option.bind_eq_some_iff.1 e2
    have hen : e.length = n := by
      cases hb : Nat.beq e.length n with
      | true => exact Nat.eq_of_beq_eq_true hb
      | false => simp only [hb] at e3; cases e3
    have hed : e.drop o' = es := by
      have hb : Nat.beq e.length n = true := by rw [hen]; exact Nat.beq_refl n
      simpa [hb] using e3
    have hlen : o' + p < n := by
      have : (e.drop o').length = es.length := by rw [hed]
      rw [List.length_drop, hen] at this
      omega
    obtain ⟨ar, hrs⟩ := hl.start
    have hj : τ.ob j = some (ver, .seq ty' fs) := by rw [← hob.2]; exact e1
    have hv0 : Gs.vl j = .slice (some ⟨b, 0, none⟩) M c := by rw [← hl.vl j hob.1]; exact h6
    have hcell' : w.cell? ⟨b, k' * n + (o' + p), none⟩ = some y := by rw [← Nat.add_assoc]; exact hcell
    have := hv.cell hrs hj hv0 he hen hlen (hl.same.cellB hrs hj hv0 he hen hlen hcell')
    rwa [← Nat.add_assoc] at this
  · rw [hd]
    exact k _ _ _ _ _ (hr.put hdN h4) hl.put
theorem SameT.toC (wl : List Nat) {v : World} (h : SameT E τ G ws v) : SameC E τ wl G ws v := ⟨h.below, fun b hb => (h.block b hb).imp id .inr⟩
theorem DW.elm {m : Nat} {ty : TypeId} {x : Operand} {j k' n o' : Nat} {ag cl : Bool} {es : List T} {ys : List Leaf} (hn : nthO l i = some o) (ho : o.op = .load ty x) (hx : σ.ev x = V.one (.ep j k' n o')) (hob : j < τ.nx ∧ σ.ob j = τ.ob j) (hc : σ.cells (.ep j k' n o') = some es) (hag : ∀ w, (isAgg ty).run Try.prog w = .ok ag w) (hm : Sz ty m) (h1 : ag = false → m = 1) (hml : m ≤ es.length)
    (hy : (List.range m).map (fun q => match es[q]? with | some t => σ.cellLeaf (.ep j k' n o') q t | none => .dead) = ys) (hw : ∀ {a w G}, Rel E N σ a w G → Region.wanted o (yielded l.toArray a.tmps) = true) (hd : o.dst = some d) (hdN : d < N) (hQ : ∀ c (a : Act) v w, Q (.panic c) (a.put o.dst v) w → Q (.panic c) a w) (k : DW E N τ fr cl (σ.put d (V.flat ag ys)) fun ws Gs a w => wpPi Try.prog l.toArray Q (SW E τ ws Gs) zs ps a w) :
    DW E N τ fr cl σ fun ws Gs a w => wpPi Try.prog l.toArray Q (SW E τ ws Gs) zs (.q i ps) a w := fun ws Gs a w G hr hl => by
  obtain ⟨u, b, q, h2, h3, h4⟩ := load_el ho hx hc hag hm h1 hml hy hr
  refine pi_take (v := u) hn (fun c a w => hQ c a u w) (hw hr) (fun v hv => h3 v fun p y hp hcell => ?_) ?_
  · have h5 := hr.ev x
    rw [hx, vone] at h5
    obtain ⟨⟨-, g, M, c, h6, h7⟩, -⟩ := h5
    rw [h2] at h7
    injection h7 with h7
    injection h7 with h7
    injection h7 with h7 h8
    subst h7 h8
    obtain ⟨⟨ver, s⟩, e1, e2⟩ := Option.bind_eq_some_iff.1 hc
    obtain ⟨-, hown, ty', fs, hs⟩ := hr.objs j ver s e1
    have hs' : s = .seq ty' fs := hs
    subst hs'
    obtain ⟨e, he, e3⟩ := Option.bind_eq_some_iff.1 e2
    have hen : e.length = n := by
      cases hb : Nat.beq e.length n with
      | true => exact Nat.eq_of_beq_eq_true hb
      | false => simp only [hb] at e3; cases e3
    have hed : e.drop o' = es := by
      have hb : Nat.beq e.length n = true := by rw [hen]; exact Nat.beq_refl n
      simpa [hb] using e3
    have hlen : o' + p < n := by
      have : (e.drop o').length = es.length := by rw [hed]
      rw [List.length_drop, hen] at this
      omega
    obtain ⟨ar, hrs⟩ := hl.start
    have hj : τ.ob j = some (ver, .seq ty' fs) := by rw [← hob.2]; exact e1
    have hv0 : Gs.vl j = .slice (some ⟨b, 0, none⟩) M c := by rw [← hl.vl j hob.1]; exact h6
    have hcell' : w.cell? ⟨b, k' * n + (o' + p), none⟩ = some y := by rw [← Nat.add_assoc]; exact hcell
    have := (hv.toC []).cell hrs hj hv0 he hen hlen ((hl.same.toC []).cellB hrs hj hv0 he hen hlen hcell')
    rwa [← Nat.add_assoc] at this
  · rw [hd]
    exact k _ _ _ _ _ (hr.put hdN h4) hl.put
theorem DC.m (ho : nthO l i = some o) (h : OpMk P E N none σ o σ') (hg : o.guard = none) (hbs : σ'.bs.length = σ.bs.length) (hnx : σ.nx ≤ σ'.nx)
    (k : DC E N τ wl fr σ' fun ws Gs a w => wpPi P l.toArray Q (SC E τ wl ws Gs) zs ps a w) : DC E N τ wl fr σ fun ws Gs a w => wpPi P l.toArray Q (SC E τ wl ws Gs) zs (.m i ps) a w := fun ws Gs a w G hr hl => by
  refine pi_step ho fun K hK => ?_
  rw [if_pos (by simp [Region.wanted, hg])]
  refine h a w G K Q hr fun a' w' G' hr' hm => ?_
  have hblk : ∀ b, b < w.heap.size → w'.heap[b]? = w.heap[b]? := fun b hb => by
    rcases hm.block b hb with h1 | ⟨j, v, ty, es, n, cs, cs', e1, -⟩
    · exact h1
    · cases e1
  have hsame : SameC E τ wl Gs ws w' := by
    refine ⟨hl.same.below.trans hm.below, fun b hb => ?_⟩
    have h1 := hblk b (Nat.lt_of_lt_of_le hb hl.same.below.size)
    rcases hl.same.block b hb with h2 | h2 | ⟨i2, v2, ty2, es2, n2, ds, ds', f1, f2, f3, f4, f5, f6, f7⟩
    · exact .inl (h1.trans h2)
    · exact .inr (.inl h2)
    · exact .inr (.inr ⟨i2, v2, ty2, es2, n2, ds, ds', f1, f2, f3, f4, h1.trans f5, f6, f7⟩)
  exact hK.out a' w' hsame fun _ => k ws Gs a' w' G' hr' ⟨hl.start, hsame, fun j hj => (hm.vl j (Nat.lt_of_lt_of_le hj hl.nx)).trans (hl.vl j hj), fun b hb => (hm.β b (Nat.lt_of_lt_of_le hb hl.bs)).trans (hl.β b hb), Nat.le_trans hl.nx hnx, by rw [hbs]; exact hl.bs, fun j hj => ⟨Nat.lt_of_lt_of_le (hl.fresh j hj).1 hnx, fun b hb => (hl.fresh j hj).2 b (by rw [← hm.vl j (hl.fresh j hj).1]; exact hb)⟩, fun b h1 h2 => by rw [hbs] at h2; rw [hm.β b h2]; exact hl.nb b h1 h2⟩
theorem LinkC.box (h : LinkC E N τ wl ws Gs fr σ w G) {v : World} (s : SameC E τ wl Gs ws v) {c : Nat} (hc : c < τ.bs.length) (hw : c ∉ wl) : v.heap[G.β c]? = w.heap[G.β c]? := by
  obtain ⟨ar, hrs⟩ := h.start
  have key : ∀ {u : World}, SameC E τ wl Gs ws u → u.heap[Gs.β c]? = ws.heap[Gs.β c]? := fun {u} t => by
    obtain ⟨-, us, h2, -⟩ := hrs.boxes c _ _ (List.getElem?_eq_getElem hc)
    rcases t.block (Gs.β c) (lt_of_block h2) with h1 | ⟨c', hc1, hc2, h1⟩ | ⟨i, ver, ty, es, n, cs, cs', e1, e2, -⟩
    · exact h1
    · exact absurd (hrs.inj c c' hc hc2 h1) (fun e => hw (e ▸ hc1))
    · exact absurd (root_ft hrs e1 e2) (hrs.boxft c i hc (by rw [e1]; simp))
  rw [h.β c hc]
  exact (key s).trans (key h.same).symm
theorem DC.lb {b i' m : Nat} {ty ty' : TypeId} {x : Operand} {ag : Bool} {xs ys : List Leaf} (ho : nthO l i = some o) (hop : o.op = .load ty x) (hx : σ.ev x = V.one (.bp b i')) (hb : σ.bs[b]? = some (ty', xs)) (hag : ∀ w, (isAgg ty).run P w = .ok ag w) (hm : ∃ inf, P.info? ty = some inf ∧ inf.size = m) (h1 : ag = false → m = 1)
    (hy : (xs.drop i').take m = ys) (hyl : ys.length = m) (hbt : b < τ.bs.length) (hw : b ∉ wl) (hg : o.guard = none) (hd : o.dst = some d) (hdN : d < N) (hQ : ∀ c (a : Act) v w, Q (.panic c) (a.put o.dst v) w → Q (.panic c) a w)
    (k : DC E N τ wl fr (σ.put d (V.flat ag ys)) fun ws Gs a w => wpPi P l.toArray Q (SC E τ wl ws Gs) zs ps a w) : DC E N τ wl fr σ fun ws Gs a w => wpPi P l.toArray Q (SC E τ wl ws Gs) zs (.q i ps) a w := fun ws Gs a w G h hl => by
  have h2 := h.ev x
  rw [hx, vone] at h2
  obtain ⟨⟨-, h3⟩, -⟩ := h2
  obtain ⟨-, us, h4, h5, h6⟩ := h.boxes b ty' xs hb
  have h7 : ((us.drop i').take m).length = m := by
    have : ((xs.drop i').take m).length = m := by rw [hy]; exact hyl
    simp only [List.length_take, List.length_drop] at this ⊢
    omega
  refine pi_take (v := cval ag ((us.drop i').take m)) ho (fun c a w => hQ c a _ w) (by simp [Region.wanted, hg]) (fun v hv => ?_) ?_
  · have hr := load_run (P := P) (w := v) (b := G.β b) (i := i') (us := (us.drop i').take m) hag hm h1 h7 fun j u hj => by
      rw [cell_of_row v _ _ _ _ _ ((hl.box hv hbt hw).trans h4)]
      simpa using cut_get hj
    simp [execOp, hop, h3, Instr.loadAt, Instr.sureAddr, hr, Result.andThen]
  · rw [hd]
    exact k ws Gs _ w G (h.put hdN (vflat.2 ⟨_, rfl, by rw [h7, hyl], fun j y u hj hu => (h6 (i' + j) y u (cut_get (by rw [hy]; exact hj)) (cut_get hu)).1⟩)) hl.put
theorem DC.store {b i' m : Nat} {ty ty' : TypeId} {x y : Operand} {ag : Bool} {xs zs1 : List Leaf} (ho : o.op = .store ty x y) (hx : σ.ev x = V.one (.bp b i')) (hy : σ.ev y = V.flat ag zs1) (hb : σ.bs[b]? = some (ty', xs)) (hm : ∃ inf, P.info? ty = some inf ∧ inf.size = m) (h1 : ag = false → m = 1)
    (hzl : zs1.length = m) (hi : i' + m ≤ xs.length) (hlv' : zs1.all Leaf.live = true) (hd : o.dst = none) {ys : List Leaf} (hk : xs.take i' ++ zs1 ++ xs.drop (i' + zs1.length) = ys) (hn : nthO l i = some o) (hbw : b ∈ wl) (hbt : b < τ.bs.length) (hg : o.guard = none) (k : DC E N τ wl fr (σ.setb b ty' ys) fun ws Gs a w => wpPi P l.toArray Q (SC E τ wl ws Gs) zs ps a w) : DC E N τ wl fr σ fun ws Gs a w => wpPi P l.toArray Q (SC E τ wl ws Gs) zs (.m i ps) a w := fun ws Gs a w G h hl => by
  refine pi_step hn fun K hK => ?_
  rw [if_pos (by simp [Region.wanted, hg])]
  subst hk
  have h2 := h.ev x
  rw [hx, vone] at h2
  obtain ⟨⟨-, h3⟩, -⟩ := h2
  have hlv : ∀ x ∈ zs1, x.live = true := List.all_eq_true.1 hlv'
  have h4 := h.ev y
  rw [hy, vflat] at h4
  obtain ⟨vs, h5, h6, h7⟩ := h4
  obtain ⟨hB, us, h8, h9, h10⟩ := h.boxes b ty' xs hb
  have hone : ∀ (j : Nat) (x : Leaf) (u : Value), zs1[j]? = some x → vs[j]? = some u → Holds G σ E w x u ∧ u.oneCell' = true := fun j x u hj hu => ⟨h7 j x u hj hu, (h7 j x u hj hu).one (hlv x (get_mem hj))⟩
  have hr := store_run (P := P) (w := w) (b := G.β b) (i := i') (us := vs) (ag := ag) hm h1 (h6.trans hzl) (fun u hu => by
    obtain ⟨j, hj, rfl⟩ := List.getElem_of_mem hu
    exact (hone j zs1[j] vs[j] (by simp [show j < zs1.length by omega]) (by simp [hj])).2) (fun k hk => by
    rw [cell_of_row w _ _ _ _ _ h8]
    simp [show i' + k < us.length by omega]) fun k hk => by simp [World.frozen?, h8]
  have hsm : SameC E τ wl Gs ws (w.setCells (G.β b) i' vs) := by
    refine ⟨⟨(setCells_below _ _ _ _ _ (Nat.le_refl (G.β b))).os.trans hl.same.below.os, (setCells_below _ _ _ _ _ (Nat.le_refl (G.β b))).tape.trans hl.same.below.tape, (setCells_below _ _ _ _ _ (Nat.le_refl (G.β b))).output.trans hl.same.below.output, Nat.le_trans hl.same.below.size (setCells_below _ _ _ _ _ (Nat.le_refl (G.β b))).size, fun q hq => (setCells_far _ _ _ _ q fun e => by subst e; exact hB.elim (fun h1 => Nat.lt_irrefl _ (Nat.lt_of_lt_of_le hq.1 h1)) hq.2).trans (hl.same.below.block q hq)⟩, fun q hq => ?_⟩
    by_cases hqb : q = G.β b
    · exact .inr (.inl ⟨b, hbw, hbt, hqb.trans (hl.β b hbt)⟩)
    · have h1 := setCells_far (G.β b) vs i' w q hqb
      rcases hl.same.block q hq with h2 | h2 | ⟨i2, v2, ty2, es2, n2, ds, ds', f1, f2, f3, f4, f5, f6, f7⟩
      · exact .inl (h1.trans h2)
      · exact .inr (.inl h2)
      · exact .inr (.inr ⟨i2, v2, ty2, es2, n2, ds, ds', f1, f2, f3, f4, h1.trans f5, f6, f7⟩)
  have hrel := h.setbox hb ⟨(setCells_below _ _ _ _ _ (Nat.le_refl (G.β b))).os, (setCells_below _ _ _ _ _ (Nat.le_refl (G.β b))).tape, (setCells_below _ _ _ _ _ (Nat.le_refl (G.β b))).output, (setCells_below _ _ _ _ _ (Nat.le_refl (G.β b))).size, fun k hk => setCells_far (G.β b) vs i' w k fun e => by subst e; exact hB.elim (fun h1 => Nat.lt_irrefl _ (Nat.lt_of_lt_of_le hk.1 h1)) hk.2⟩ (fun k hk => setCells_far (G.β b) vs i' w k hk) (setCells_heap _ _ _ _ us ty' h8 (by omega)) (by simp; omega)
        (cat_get (R := fun x u => Holds G σ E w x u ∧ u.oneCell' = true) h9 h6 (by omega) h10 hone)
  refine wp_skipped (w' := w.setCells (G.β b) i' vs) ?_ (by
    rw [hd]
    exact hK.out _ _ hsm fun _ => k ws Gs _ _ G hrel ⟨hl.start, hsm, hl.vl, hl.β, hl.nx, by simpa [VS.setb] using hl.bs, hl.fresh, fun c h1 h2 => hl.nb c h1 (by simpa [VS.setb] using h2)⟩)
  simp [execOp, ho, h3, h5, Instr.storeAt, Instr.sureAddr, hr, Result.andThen]
theorem DC.alloc {ty : TypeId} {z : Value} {xs : List Leaf} {kk : Nat} (hn : nthO l i = some o) (hk : σ.bs.length = kk) (ho : o.op = .alloc ty) (hz : ∀ w, (zeroValue ty).run P w = .ok z w) (hxs : ZL xs z.cells.toList) (hd : o.dst = some d) (hdN : d < N) (hg : o.guard = none)
    (k : DC E N τ wl fr ((σ.box ty xs).put d (V.one (.bp kk 0))) fun ws Gs a w => wpPi P l.toArray Q (SC E τ wl ws Gs) zs ps a w) : DC E N τ wl fr σ fun ws Gs a w => wpPi P l.toArray Q (SC E τ wl ws Gs) zs (.m i ps) a w := fun ws Gs a w G hr hl => by
  refine pi_step hn fun K hK => ?_
  rw [if_pos (by simp [Region.wanted, hg])]
  subst hk
  obtain ⟨G', h1, h2, h3, h4⟩ := hr.alloc (ty := ty) hxs.len hxs.holds
  have hb : Below w.heap.size w (w.alloc (.cells z.cells.toList.toArray ty)) := (Below.refl _ _).alloc (Nat.le_refl _) _
  have hsame : SameC E τ wl Gs ws (w.alloc (.cells z.cells.toList.toArray ty)) := by
    refine ⟨hl.same.below.trans (.of_below (hb.mono hr.low)), fun b hb' => ?_⟩
    have h5 := hb.block b (Nat.lt_of_lt_of_le hb' hl.same.below.size)
    rcases hl.same.block b hb' with e2 | e2 | ⟨i2, v2, ty2, es2, n2, ds, ds', f1, f2, f3, f4, f5, f6, f7⟩
    · exact .inl (h5.trans e2)
    · exact .inr (.inl e2)
    · exact .inr (.inr ⟨i2, v2, ty2, es2, n2, ds, ds', f1, f2, f3, f4, h5.trans f5, f6, f7⟩)
  refine wp_value (v := .pointer (some ⟨w.heap.size, 0, none⟩)) (w' := w.alloc (.cells z.cells.toList.toArray ty)) ?_ ?_
  · simp [execOp, ho, Instr.alloc, hz, newVar, newRow, Result.andThen]
  rw [hd]
  refine hK.out _ _ hsame fun _ => k ws Gs _ _ G' (h1.put hdN (vone.2 ⟨⟨by simp, by rw [h2]⟩, .inr rfl⟩)) ⟨hl.start, hsame, fun j hj => by rw [h3]; exact hl.vl j hj, fun b hb' => (h4 b (Nat.lt_of_lt_of_le hb' hl.bs)).trans (hl.β b hb'), hl.nx, ?_, fun j hj => ⟨(hl.fresh j hj).1, fun b hb' => (hl.fresh j hj).2 b (by rw [← h3]; exact hb')⟩, fun b h5 h6 => ?_⟩
  · show τ.bs.length ≤ (σ.bs ++ [(ty, xs)]).length
    rw [List.length_append]
    have := hl.bs
    omega
  · have h6' : b < (σ.bs ++ [(ty, xs)]).length := h6
    rw [List.length_append, List.length_singleton] at h6'
    rcases Nat.lt_or_ge b σ.bs.length with h7 | h7
    · rw [h4 b h7]; exact hl.nb b h5 h7
    · rw [show b = σ.bs.length by omega, h2]
      exact hl.same.below.size
theorem DC.alt {ps1 ps2 : Pl} {j : Nat} (h1 : DC E N τ wl fr σ fun ws Gs a w => wpPi P l.toArray Q (SC E τ wl ws Gs) zs (.m i ps1) a w) (h2 : DC E N τ wl fr σ fun ws Gs a w => wpPi P l.toArray Q (SC E τ wl ws Gs) zs (.m j ps2) a w) :
    DC E N τ wl fr σ fun ws Gs a w => wpPi P l.toArray Q (SC E τ wl ws Gs) zs (.alt i ps1 j ps2) a w := fun ws Gs a w G hr hl => ⟨h1 ws Gs a w G hr hl, h2 ws Gs a w G hr hl⟩
theorem DC.stores (h : SV E N σ (wpZ P l.toArray Q zs)) : DC E N τ wl fr σ fun ws Gs a w => wpPi P l.toArray Q (SC E τ wl ws Gs) zs .nil a w := fun ws Gs a w G hr hl => pi_end (h a w G hr)
end Go.Proofs.Ytfghhjcfmmhacaa.V
/- The program's small functions of brokers: told by trees. -/
namespace Go.Proofs.Ytfghhjcfmmhacaa
open Go Go.RowKit V
set_option linter.unusedVariables false
set_option maxRecDepth 100000 in
set_option maxHeartbeats 2000000 in
theorem vispool_i (p : Int) : VC Try.prog 51 [(false, [.lit (.int .i64 (p))])] false [(false, [.lit (.bool (BrokerD.isPool p))])] := by
  refine VC.enter Try.func51 rfl Try.ntmps51 (gle rfl) fun E hE => ?_
  refine SV.seq' ?_
  refine SV.region ?_
  refine SV.op (OpL.ok (nb := 0) (ok_move (v := V.one (.sc _)) (.inr rfl) rfl) rfl (gle rfl)) rfl ?_
  refine SV.nil ?_
  refine SV.tn ?_
  refine SV.seq' ?_
  refine SV.region ?_
  refine SV.op (OpL.ok (nb := 0) (ok_move (v := V.one (.sc _)) (.inl rfl) rfl) rfl (gle rfl)) rfl ?_
  refine SV.op (OpL.ok (nb := 0) (ok_s2 (x := .tmp 3) (x' := .const ((Value.int IntKind.i64 8))) (VScal.one rfl) (VScal.one rfl) (fun ρ h1 h2 w => by go_simp; (try go_bits); with_reducible rfl) rfl) rfl (gle rfl)) rfl ?_
  refine SV.op (OpL.ok (nb := 0) (ok_move (v := V.one (.sc _)) (.inl rfl) rfl) rfl (gle rfl)) rfl ?_
  refine SV.split (d := 5) rfl (fun hg0 => ?_) (fun hg0 => ?_)
  · skip   -- g0.T
    refine SV.opY (OpL.ok (nb := 0) (ok_move (v := V.one (.sc _)) (.inl rfl) rfl) rfl (gle rfl)) rfl rfl rfl (gle rfl) rfl rfl ?_
    refine SV.opY (OpL.ok (nb := 0) (ok_s2 (x := .tmp 6) (x' := .const ((Value.int IntKind.i64 120))) (VScal.one rfl) (VScal.one rfl) (fun ρ h1 h2 w => by go_simp; (try go_bits); with_reducible rfl) rfl) rfl (gle rfl)) rfl rfl rfl (gle rfl) rfl rfl ?_
    refine SV.op (OpL.ok (nb := 0) (ok_pickT (v := V.one (.sc _)) rfl rfl rfl) rfl (gle rfl)) rfl ?_
    refine SV.op (OpL.ok (nb := 0) (ok_move (v := V.one (.sc _)) (.inr rfl) rfl) rfl (gle rfl)) rfl ?_
    refine SV.nil ?_
    refine SV.tn ?_
    refine SV.ret ?_
    apply SV.done (hf := Try.results51) (ht := rfl) (he := .inl rfl)
    case hr => exact (ResAll.cons (ResOk.tmp (ag := false) (xs := [.sc _]) rfl) ResAll.nil')
    case h2 => simp [two]
    refine ⟨rfl, ⟨?_, trivial⟩, trivial⟩ <;> (show some (T.lit (Value.bool _)) = some (T.lit (Value.bool _)); refine congrArg (fun z => some (T.lit (Value.bool z))) ?_; (unfold BrokerD.isPool; simp at hg0; simp; omega))
  · skip   -- g0.F
    refine SV.opN rfl rfl rfl (gle rfl) rfl rfl rfl (gle rfl) ?_
    refine SV.opN rfl rfl rfl (gle rfl) rfl rfl rfl (gle rfl) ?_
    refine SV.op (OpL.ok (nb := 0) (ok_pickF (v := V.one (.sc _)) rfl rfl rfl) rfl (gle rfl)) rfl ?_
    refine SV.op (OpL.ok (nb := 0) (ok_move (v := V.one (.sc _)) (.inr rfl) rfl) rfl (gle rfl)) rfl ?_
    refine SV.nil ?_
    refine SV.tn ?_
    refine SV.ret ?_
    apply SV.done (hf := Try.results51) (ht := rfl) (he := .inl rfl)
    case hr => exact (ResAll.cons (ResOk.tmp (ag := false) (xs := [.sc _]) rfl) ResAll.nil')
    case h2 => simp [two]
    refine ⟨rfl, ⟨?_, trivial⟩, trivial⟩ <;> (show some (T.lit (Value.bool _)) = some (T.lit (Value.bool _)); refine congrArg (fun z => some (T.lit (Value.bool z))) ?_; (unfold BrokerD.isPool; simp at hg0; simp; omega))
set_option maxRecDepth 100000 in
set_option maxHeartbeats 2000000 in
theorem vuptob_i (x m : Int) : VC Try.prog 52 [(false, [.lit (.int .i64 (x))]), (false, [.lit (.int .i64 (m))])] false [(false, [.lit (.bool (decide (0 ≤ x ∧ x ≤ m)))])] := by
  refine VC.enter Try.func52 rfl Try.ntmps52 (gle rfl) fun E hE => ?_
  refine SV.seq' ?_
  refine SV.region ?_
  refine SV.op (OpL.ok (nb := 0) (ok_move (v := V.one (.sc _)) (.inr rfl) rfl) rfl (gle rfl)) rfl ?_
  refine SV.nil ?_
  refine SV.tn ?_
  refine SV.seq' ?_
  refine SV.region ?_
  refine SV.op (OpL.ok (nb := 0) (ok_move (v := V.one (.sc _)) (.inl rfl) rfl) rfl (gle rfl)) rfl ?_
  refine SV.op (OpL.ok (nb := 0) (ok_s2 (x := .tmp 5) (x' := .const ((Value.int IntKind.i64 0))) (VScal.one rfl) (VScal.one rfl) (fun ρ h1 h2 w => by go_simp; (try go_bits); with_reducible rfl) rfl) rfl (gle rfl)) rfl ?_
  refine SV.op (OpL.ok (nb := 0) (ok_move (v := V.one (.sc _)) (.inl rfl) rfl) rfl (gle rfl)) rfl ?_
  refine SV.split (d := 7) rfl (fun hg0 => ?_) (fun hg0 => ?_)
  · skip   -- g0.T
    refine SV.opY (OpL.ok (nb := 0) (ok_move (v := V.one (.sc _)) (.inl rfl) rfl) rfl (gle rfl)) rfl rfl rfl (gle rfl) rfl rfl ?_
    refine SV.opY (OpL.ok (nb := 0) (ok_move (v := V.one (.sc _)) (.inl rfl) rfl) rfl (gle rfl)) rfl rfl rfl (gle rfl) rfl rfl ?_
    refine SV.opY (OpL.ok (nb := 0) (ok_s2 (x := .tmp 8) (x' := .tmp 9) (VScal.one rfl) (VScal.one rfl) (fun ρ h1 h2 w => by go_simp; (try go_bits); with_reducible rfl) rfl) rfl (gle rfl)) rfl rfl rfl (gle rfl) rfl rfl ?_
    refine SV.op (OpL.ok (nb := 0) (ok_pickT (v := V.one (.sc _)) rfl rfl rfl) rfl (gle rfl)) rfl ?_
    refine SV.op (OpL.ok (nb := 0) (ok_move (v := V.one (.sc _)) (.inr rfl) rfl) rfl (gle rfl)) rfl ?_
    refine SV.nil ?_
    refine SV.tn ?_
    refine SV.ret ?_
    apply SV.done (hf := Try.results52) (ht := rfl) (he := .inl rfl)
    case hr => exact (ResAll.cons (ResOk.tmp (ag := false) (xs := [.sc _]) rfl) ResAll.nil')
    case h2 => simp [two]
    refine ⟨rfl, ⟨?_, trivial⟩, trivial⟩ <;> (show some (T.lit (Value.bool _)) = some (T.lit (Value.bool _)); refine congrArg (fun z => some (T.lit (Value.bool z))) ?_; (simp at hg0; simp; omega))
  · skip   -- g0.F
    refine SV.opN rfl rfl rfl (gle rfl) rfl rfl rfl (gle rfl) ?_
    refine SV.opN rfl rfl rfl (gle rfl) rfl rfl rfl (gle rfl) ?_
    refine SV.opN rfl rfl rfl (gle rfl) rfl rfl rfl (gle rfl) ?_
    refine SV.op (OpL.ok (nb := 0) (ok_pickF (v := V.one (.sc _)) rfl rfl rfl) rfl (gle rfl)) rfl ?_
    refine SV.op (OpL.ok (nb := 0) (ok_move (v := V.one (.sc _)) (.inr rfl) rfl) rfl (gle rfl)) rfl ?_
    refine SV.nil ?_
    refine SV.tn ?_
    refine SV.ret ?_
    apply SV.done (hf := Try.results52) (ht := rfl) (he := .inl rfl)
    case hr => exact (ResAll.cons (ResOk.tmp (ag := false) (xs := [.sc _]) rfl) ResAll.nil')
    case h2 => simp [two]
    refine ⟨rfl, ⟨?_, trivial⟩, trivial⟩ <;> (show some (T.lit (Value.bool _)) = some (T.lit (Value.bool _)); refine congrArg (fun z => some (T.lit (Value.bool z))) ?_; (simp at hg0; simp; omega))
set_option maxRecDepth 100000 in
set_option maxHeartbeats 2000000 in
theorem viswant_i (x : Int) : VC Try.prog 71 [(false, [.lit (.int .i64 (x))])] false [(false, [.lit (.bool (BrokerD.isWant x))])] := by
  refine VC.enter Try.func71 rfl Try.ntmps71 (gle rfl) fun E hE => ?_
  refine SV.seq' ?_
  refine SV.region ?_
  refine SV.op (OpL.ok (nb := 0) (ok_move (v := V.one (.sc _)) (.inr rfl) rfl) rfl (gle rfl)) rfl ?_
  refine SV.nil ?_
  refine SV.tn ?_
  refine SV.seq' ?_
  refine SV.region ?_
  refine SV.op (OpL.ok (nb := 0) (ok_move (v := V.one (.sc _)) (.inl rfl) rfl) rfl (gle rfl)) rfl ?_
  refine SV.op (OpL.ok (nb := 0) (ok_s2 (x := .tmp 3) (x' := .const ((Value.int IntKind.i64 8))) (VScal.one rfl) (VScal.one rfl) (fun ρ h1 h2 w => by go_simp; (try go_bits); with_reducible rfl) rfl) rfl (gle rfl)) rfl ?_
  refine SV.op (OpL.ok (nb := 0) (ok_move (v := V.one (.sc _)) (.inl rfl) rfl) rfl (gle rfl)) rfl ?_
  refine SV.split (d := 5) rfl (fun hg0 => ?_) (fun hg0 => ?_)
  · skip   -- g0.T
    refine SV.opY (OpL.ok (nb := 0) (ok_move (v := V.one (.sc _)) (.inl rfl) rfl) rfl (gle rfl)) rfl rfl rfl (gle rfl) rfl rfl ?_
    refine SV.opY (OpL.ok (nb := 0) (ok_s2 (x := .tmp 6) (x' := .const ((Value.int IntKind.i64 60))) (VScal.one rfl) (VScal.one rfl) (fun ρ h1 h2 w => by go_simp; (try go_bits); with_reducible rfl) rfl) rfl (gle rfl)) rfl rfl rfl (gle rfl) rfl rfl ?_
    refine SV.op (OpL.ok (nb := 0) (ok_pickT (v := V.one (.sc _)) rfl rfl rfl) rfl (gle rfl)) rfl ?_
    refine SV.op (OpL.ok (nb := 0) (ok_move (v := V.one (.sc _)) (.inr rfl) rfl) rfl (gle rfl)) rfl ?_
    refine SV.nil ?_
    refine SV.tn ?_
    refine SV.ret ?_
    apply SV.done (hf := Try.results71) (ht := rfl) (he := .inl rfl)
    case hr => exact (ResAll.cons (ResOk.tmp (ag := false) (xs := [.sc _]) rfl) ResAll.nil')
    case h2 => simp [two]
    refine ⟨rfl, ⟨?_, trivial⟩, trivial⟩ <;> (show some (T.lit (Value.bool _)) = some (T.lit (Value.bool _)); refine congrArg (fun z => some (T.lit (Value.bool z))) ?_; (unfold BrokerD.isWant; simp at hg0; simp; omega))
  · skip   -- g0.F
    refine SV.opN rfl rfl rfl (gle rfl) rfl rfl rfl (gle rfl) ?_
    refine SV.opN rfl rfl rfl (gle rfl) rfl rfl rfl (gle rfl) ?_
    refine SV.op (OpL.ok (nb := 0) (ok_pickF (v := V.one (.sc _)) rfl rfl rfl) rfl (gle rfl)) rfl ?_
    refine SV.op (OpL.ok (nb := 0) (ok_move (v := V.one (.sc _)) (.inr rfl) rfl) rfl (gle rfl)) rfl ?_
    refine SV.nil ?_
    refine SV.tn ?_
    refine SV.ret ?_
    apply SV.done (hf := Try.results71) (ht := rfl) (he := .inl rfl)
    case hr => exact (ResAll.cons (ResOk.tmp (ag := false) (xs := [.sc _]) rfl) ResAll.nil')
    case h2 => simp [two]
    refine ⟨rfl, ⟨?_, trivial⟩, trivial⟩ <;> (show some (T.lit (Value.bool _)) = some (T.lit (Value.bool _)); refine congrArg (fun z => some (T.lit (Value.bool z))) ?_; (unfold BrokerD.isWant; simp at hg0; simp; omega))
set_option maxRecDepth 100000 in
set_option maxHeartbeats 2000000 in
theorem visdem_i (w p : Int) : VC Try.prog 61 [(false, [.lit (.int .i64 (w))]), (false, [.lit (.int .i64 (p))])] false [(false, [.lit (.bool (BrokerD.isWant w && decide (0 ≤ p ∧ p ≤ 9)))])] := by
  refine VC.enter Try.func61 rfl Try.ntmps61 (gle rfl) fun E hE => ?_
  refine SV.seq' ?_
  refine SV.region ?_
  refine SV.op (OpL.ok (nb := 0) (ok_move (v := V.one (.sc _)) (.inr rfl) rfl) rfl (gle rfl)) rfl ?_
  refine SV.nil ?_
  refine SV.tn ?_
  refine SV.seq' ?_
  refine SV.region ?_
  refine SV.op (OpL.ok (nb := 0) (ok_move (v := V.one (.sc _)) (.inl rfl) rfl) rfl (gle rfl)) rfl ?_
  refine SV.op (OpMk.ok (ok_call (ls := [(false, [.sc _])]) rfl rfl ⟨_, _, Try.func71, rfl, by decide⟩ (viswant_i w) ⟨⟨[.sc _], rfl, ⟨rfl, trivial⟩⟩, trivial⟩ rfl (gle rfl))) rfl ?_
  refine SV.op (OpL.ok (nb := 0) (ok_move (v := V.one (.sc _)) (.inl rfl) rfl) rfl (gle rfl)) rfl ?_
  refine SV.split (d := 7) rfl (fun hg0 => ?_) (fun hg0 => ?_)
  · skip   -- g0.T
    refine SV.opY (OpL.ok (nb := 0) (ok_move (v := V.one (.sc _)) (.inl rfl) rfl) rfl (gle rfl)) rfl rfl rfl (gle rfl) rfl rfl ?_
    refine SV.opY (OpMk.ok (ok_call (ls := [(false, [.sc _])]) rfl rfl ⟨_, _, Try.func52, rfl, by decide⟩ (vuptob_i p 9) ⟨⟨[.sc _], rfl, ⟨rfl, trivial⟩⟩, ⟨[.sc _], rfl, ⟨rfl, trivial⟩⟩, trivial⟩ rfl (gle rfl))) rfl rfl rfl (gle rfl) rfl rfl ?_
    refine SV.op (OpL.ok (nb := 0) (ok_pickT (v := V.one (.sc _)) rfl rfl rfl) rfl (gle rfl)) rfl ?_
    refine SV.op (OpL.ok (nb := 0) (ok_move (v := V.one (.sc _)) (.inr rfl) rfl) rfl (gle rfl)) rfl ?_
    refine SV.nil ?_
    refine SV.tn ?_
    refine SV.ret ?_
    apply SV.done (hf := Try.results61) (ht := rfl) (he := .inl rfl)
    case hr => exact (ResAll.cons (ResOk.tmp (ag := false) (xs := [.sc _]) rfl) ResAll.nil')
    case h2 => simp [two]
    refine ⟨rfl, ⟨?_, trivial⟩, trivial⟩ <;> (show some (T.lit (Value.bool _)) = some (T.lit (Value.bool _)); refine congrArg (fun z => some (T.lit (Value.bool z))) ?_; (rw [hg0]; simp; done))
  · skip   -- g0.F
    refine SV.opN rfl rfl rfl (gle rfl) rfl rfl rfl (gle rfl) ?_
    refine SV.opN rfl rfl rfl (gle rfl) rfl rfl rfl (gle rfl) ?_
    refine SV.op (OpL.ok (nb := 0) (ok_pickF (v := V.one (.sc _)) rfl rfl rfl) rfl (gle rfl)) rfl ?_
    refine SV.op (OpL.ok (nb := 0) (ok_move (v := V.one (.sc _)) (.inr rfl) rfl) rfl (gle rfl)) rfl ?_
    refine SV.nil ?_
    refine SV.tn ?_
    refine SV.ret ?_
    apply SV.done (hf := Try.results61) (ht := rfl) (he := .inl rfl)
    case hr => exact (ResAll.cons (ResOk.tmp (ag := false) (xs := [.sc _]) rfl) ResAll.nil')
    case h2 => simp [two]
    refine ⟨rfl, ⟨?_, trivial⟩, trivial⟩ <;> (show some (T.lit (Value.bool _)) = some (T.lit (Value.bool _)); refine congrArg (fun z => some (T.lit (Value.bool z))) ?_; (rw [hg0]; simp; done))
set_option maxRecDepth 100000 in
set_option maxHeartbeats 2000000 in
theorem vcap_i (b : BrokerD) (h0 : 0 ≤ b.fPool) (h1 : b.fPool ≤ 1000000) : VC Try.prog 62 [(true, tBroker b)] false [(false, [.lit (.int .i64 (BrokerD.room b.fPool))])] := by
  refine VC.enter Try.func62 rfl Try.ntmps62 (gle rfl) fun E hE => ?_
  refine SV.seq' ?_
  refine SV.region ?_
  refine SV.op (OpMk.ok (ok_box (kk := 0) (ag := true) (xs := [.sc _, .sc _, .ro _, .ro _]) rfl rfl rfl (fun h => by cases h) rfl rfl (gle rfl))) rfl ?_
  refine SV.op (OpL.ok (nb := 1) (ok_move (v := V.one (.sc _)) (.inr rfl) rfl) rfl (gle rfl)) rfl ?_
  refine SV.nil ?_
  refine SV.tn ?_
  refine SV.seq' ?_
  refine SV.region ?_
  refine SV.op (OpL.ok (nb := 1) (ok_field_bp (b := 0) (o' := 0) (off := 0) rfl rfl fld_impl_Broker_0) rfl (gle rfl)) rfl ?_
  refine SV.op (OpL.ok (nb := 1) (ok_load_bp (b := 0) (i := 0) (ag := false) (m := 1) (ys := [.sc _]) rfl rfl rfl agg_int sz_int (fun _ => rfl) rfl rfl (gle rfl)) rfl (gle rfl)) rfl ?_
  refine SV.op (OpL.ok (nb := 1) (ok_s2 (v := .int .i64 (b.fPool / 8)) (x := .tmp 4) (x' := .const ((Value.int IntKind.i64 8))) (VScal.one rfl) (VScal.one rfl) (fun ρ h1 h2 w => by go_simp; simp [Int.tdiv_eq_ediv_of_nonneg h0]; rw [IntWalk.i64_left, IntWalk.wrap64_in _ ⟨by omega, by omega⟩]) rfl) rfl (gle rfl)) rfl ?_
  refine SV.op (OpL.ok (nb := 1) (ok_s2 (x := .tmp 5) (x' := .const ((Value.int IntKind.i64 5))) (VScal.one rfl) (VScal.one rfl) (fun ρ h1 h2 w => by go_simp; (try go_bits); with_reducible rfl) rfl) rfl (gle rfl)) rfl ?_
  refine SV.op (OpL.ok (nb := 1) (ok_move (v := V.one (.sc _)) (.inr rfl) rfl) rfl (gle rfl)) rfl ?_
  refine SV.nil ?_
  refine SV.tn ?_
  refine SV.ret ?_
  apply SV.done (hf := Try.results62) (ht := rfl) (he := .inl rfl)
  case hr => exact (ResAll.cons (ResOk.tmp (ag := false) (xs := [.sc _]) rfl) ResAll.nil')
  case h2 => simp [two]
  refine ⟨rfl, ⟨?_, trivial⟩, trivial⟩ <;> (show some (T.lit (Value.int .i64 _)) = some (T.lit (Value.int .i64 _)); refine congrArg (fun z => some (T.lit (Value.int .i64 z))) ?_; (unfold BrokerD.room; first | omega | (rw [Int.min_def]; split <;> split <;> omega) | (rw [Int.min_def]; split <;> omega)))
set_option maxRecDepth 100000 in
set_option maxHeartbeats 2000000 in
theorem vwithin_i (b : BrokerD) (h0 : 0 ≤ b.fPool) (h1 : b.fPool ≤ 1000000) (hA : b.fActive.length ≤ 1000000000) (hW : b.fWaiting.length ≤ 1000000000) : VC Try.prog 53 [(true, tBroker b)] false [(false, [.lit (.bool (decide (((b.fActive.length : Int) < BrokerD.room b.fPool ∧ b.fWaiting.length = 0) ∨ (¬ (b.fActive.length : Int) < BrokerD.room b.fPool ∧ (b.fActive.length : Int) = BrokerD.room b.fPool ∧ b.fWaiting.length ≤ 5))))])] := by
  refine VC.enter Try.func53 rfl Try.ntmps53 (gle rfl) fun E hE => ?_
  refine SV.seq' ?_
  refine SV.region ?_
  refine SV.op (OpMk.ok (ok_box (kk := 0) (ag := true) (xs := [.sc _, .sc _, .ro _, .ro _]) rfl rfl rfl (fun h => by cases h) rfl rfl (gle rfl))) rfl ?_
  refine SV.op (OpL.ok (nb := 1) (ok_move (v := V.one (.sc _)) (.inr rfl) rfl) rfl (gle rfl)) rfl ?_
  refine SV.nil ?_
  refine SV.tn ?_
  refine SV.seq' ?_
  refine SV.seq' ?_
  refine SV.draw [.q 0, .q 1, .q 2, .q 3, .m 4, .q 5] [] (by kernel_rfl) (by kernel_rfl) ?_
  refine DW.q rfl (ok_field_bp (b := 0) (o' := 0) (off := 2) rfl rfl fld_impl_Broker_2) rfl rfl (gle rfl) (fun _ _ _ _ h => h) ?_
  refine DW.q rfl (ok_load_bp (b := 0) (i := 2) (ag := false) (m := 1) (ys := [.ro _]) rfl rfl rfl agg_s_impl_Client sz_s_impl_Client (fun _ => rfl) rfl rfl (gle rfl)) rfl rfl (gle rfl) (fun _ _ _ _ h => h) ?_
  refine DW.q rfl (ok_len (lf := .ro _) rfl elt_impl_Client.und rfl rfl) rfl rfl (gle rfl) (fun _ _ _ _ h => h) ?_
  refine DW.q rfl (ok_load_bp (b := 0) (i := 0) (ag := true) (m := 4) (ys := [.sc _, .sc _, .ro _, .ro _]) rfl rfl rfl agg_impl_Broker sz_impl_Broker (fun h => by cases h) rfl rfl (gle rfl)) rfl rfl (gle rfl) (fun _ _ _ _ h => h) ?_
  refine DW.m [] rfl (ok_call (ls := [(false, [.sc _])]) rfl rfl ⟨_, _, Try.func62, rfl, by decide⟩ (vcap_i b h0 h1) ⟨⟨[.sc _, .sc _, .ro _, .ro _], rfl, ⟨rfl, rfl, rfl, rfl, trivial⟩⟩, trivial⟩ rfl (gle rfl)) rfl (gle rfl) (gle rfl) (.inl rfl) (fun j hj => by cases hj) ?_
  refine DW.q rfl (ok_s2 (x := .tmp 5) (x' := .tmp 7) (VScal.one rfl) (VScal.one rfl) (fun ρ h1 h2 w => by go_simp; (try go_bits); with_reducible rfl) rfl) rfl rfl (gle rfl) (fun _ _ _ _ h => h) ?_
  refine DW.stores ?_
  refine SV.zend ?_
  refine SV.tn ?_
  refine SV.cond rfl (fun hc0 => ?_) (fun hc0 => ?_)
  · skip   -- c0.T
    refine SV.seq' ?_
    refine SV.region ?_
    refine SV.op (OpL.ok (nb := 1) (ok_field_bp (b := 0) (o' := 0) (off := 3) rfl rfl fld_impl_Broker_3) rfl (gle rfl)) rfl ?_
    refine SV.op (OpL.ok (nb := 1) (ok_load_bp (b := 0) (i := 3) (ag := false) (m := 1) (ys := [.ro _]) rfl rfl rfl agg_s_impl_Client sz_s_impl_Client (fun _ => rfl) rfl rfl (gle rfl)) rfl (gle rfl)) rfl ?_
    refine SV.op (OpL.ok (nb := 1) (ok_len (lf := .ro _) rfl elt_impl_Client.und rfl rfl) rfl (gle rfl)) rfl ?_
    refine SV.op (OpL.ok (nb := 1) (ok_s2 (x := .tmp 11) (x' := .const ((Value.int IntKind.i64 0))) (VScal.one rfl) (VScal.one rfl) (fun ρ h1 h2 w => by go_simp; (try go_bits); with_reducible rfl) rfl) rfl (gle rfl)) rfl ?_
    refine SV.op (OpL.ok (nb := 1) (ok_move (v := V.one (.sc _)) (.inr rfl) rfl) rfl (gle rfl)) rfl ?_
    refine SV.nil ?_
    refine SV.tn ?_
    refine SV.ret ?_
    refine SV.tr ?_
    apply SV.done (hf := Try.results53) (ht := rfl) (he := .inl rfl)
    case hr => exact (ResAll.cons (ResOk.tmp (ag := false) (xs := [.sc _]) rfl) ResAll.nil')
    case h2 => simp [two]
    refine ⟨rfl, ⟨?_, trivial⟩, trivial⟩ <;> (show some (T.lit (Value.bool _)) = some (T.lit (Value.bool _)); refine congrArg (fun z => some (T.lit (Value.bool z))) ?_; (rw [Bool.eq_iff_iff]; simp at *; first | done | omega | (simp_all; done) | (simp_all; omega)))
  · skip   -- c0.F
    refine SV.skip ?_
    refine SV.tn ?_
    refine SV.seq' ?_
    refine SV.draw [.q 0, .q 1, .q 2, .q 3, .m 4, .q 5, .q 6, .q 7, .q 8, .q 9, .q 10, .q 11, .q 12] [] (by kernel_rfl) (by kernel_rfl) ?_
    refine DW.q rfl (ok_field_bp (b := 0) (o' := 0) (off := 2) rfl rfl fld_impl_Broker_2) rfl rfl (gle rfl) (fun _ _ _ _ h => h) ?_
    refine DW.q rfl (ok_load_bp (b := 0) (i := 2) (ag := false) (m := 1) (ys := [.ro _]) rfl rfl rfl agg_s_impl_Client sz_s_impl_Client (fun _ => rfl) rfl rfl (gle rfl)) rfl rfl (gle rfl) (fun _ _ _ _ h => h) ?_
    refine DW.q rfl (ok_len (lf := .ro _) rfl elt_impl_Client.und rfl rfl) rfl rfl (gle rfl) (fun _ _ _ _ h => h) ?_
    refine DW.q rfl (ok_load_bp (b := 0) (i := 0) (ag := true) (m := 4) (ys := [.sc _, .sc _, .ro _, .ro _]) rfl rfl rfl agg_impl_Broker sz_impl_Broker (fun h => by cases h) rfl rfl (gle rfl)) rfl rfl (gle rfl) (fun _ _ _ _ h => h) ?_
    refine DW.m [] rfl (ok_call (ls := [(false, [.sc _])]) rfl rfl ⟨_, _, Try.func62, rfl, by decide⟩ (vcap_i b h0 h1) ⟨⟨[.sc _, .sc _, .ro _, .ro _], rfl, ⟨rfl, rfl, rfl, rfl, trivial⟩⟩, trivial⟩ rfl (gle rfl)) rfl (gle rfl) (gle rfl) (.inl rfl) (fun j hj => by cases hj) ?_
    refine DW.q rfl (ok_s2 (x := .tmp 15) (x' := .tmp 17) (VScal.one rfl) (VScal.one rfl) (fun ρ h1 h2 w => by go_simp; (try go_bits); with_reducible rfl) rfl) rfl rfl (gle rfl) (fun _ _ _ _ h => h) ?_
    refine DW.q rfl (ok_move (v := V.one (.sc _)) (.inl rfl) rfl) rfl rfl (gle rfl) (fun _ _ _ _ h => h) ?_
    refine DW.split (d := 19) rfl (fun hg0 => ?_) (fun hg0 => ?_)
    · skip   -- g0.T
      refine DW.qY rfl (ok_field_bp (b := 0) (o' := 0) (off := 3) rfl rfl fld_impl_Broker_3) rfl rfl rfl (gle rfl) rfl rfl rfl (gle rfl) (fun _ _ _ _ h => h) ?_
      refine DW.qY rfl (ok_load_bp (b := 0) (i := 3) (ag := false) (m := 1) (ys := [.ro _]) rfl rfl rfl agg_s_impl_Client sz_s_impl_Client (fun _ => rfl) rfl rfl (gle rfl)) rfl rfl rfl (gle rfl) rfl rfl rfl (gle rfl) (fun _ _ _ _ h => h) ?_
      refine DW.qY rfl (ok_len (lf := .ro _) rfl elt_impl_Client.und rfl rfl) rfl rfl rfl (gle rfl) rfl rfl rfl (gle rfl) (fun _ _ _ _ h => h) ?_
      refine DW.qY rfl (ok_s2 (x := .tmp 22) (x' := .const ((Value.int IntKind.i64 5))) (VScal.one rfl) (VScal.one rfl) (fun ρ h1 h2 w => by go_simp; (try go_bits); with_reducible rfl) rfl) rfl rfl rfl (gle rfl) rfl rfl rfl (gle rfl) (fun _ _ _ _ h => h) ?_
      refine DW.q rfl (ok_pickT (v := V.one (.sc _)) rfl rfl rfl) rfl rfl (gle rfl) (fun _ _ _ _ h => h) ?_
      refine DW.q rfl (ok_move (v := V.one (.sc _)) (.inr rfl) rfl) rfl rfl (gle rfl) (fun _ _ _ _ h => h) ?_
      refine DW.stores ?_
      refine SV.zend ?_
      refine SV.tn ?_
      refine SV.ret ?_
      apply SV.done (hf := Try.results53) (ht := rfl) (he := .inl rfl)
      case hr => exact (ResAll.cons (ResOk.tmp (ag := false) (xs := [.sc _]) rfl) ResAll.nil')
      case h2 => simp [two]
      refine ⟨rfl, ⟨?_, trivial⟩, trivial⟩ <;> (show some (T.lit (Value.bool _)) = some (T.lit (Value.bool _)); refine congrArg (fun z => some (T.lit (Value.bool z))) ?_; (rw [Bool.eq_iff_iff]; simp at *; first | done | omega | (simp_all; done) | (simp_all; omega)))
    · skip   -- g0.F
      refine DW.qN (V' := V.one .dead) rfl rfl rfl rfl (gle rfl) rfl rfl rfl (gle rfl) (fun _ _ _ _ h => h) ?_
      refine DW.qN (V' := V.one .dead) rfl rfl rfl rfl (gle rfl) rfl rfl rfl (gle rfl) (fun _ _ _ _ h => h) ?_
      refine DW.qN (V' := V.one .dead) rfl rfl rfl rfl (gle rfl) rfl rfl rfl (gle rfl) (fun _ _ _ _ h => h) ?_
      refine DW.qN (V' := V.one .dead) rfl rfl rfl rfl (gle rfl) rfl rfl rfl (gle rfl) (fun _ _ _ _ h => h) ?_
      refine DW.q rfl (ok_pickF (v := V.one (.sc _)) rfl rfl rfl) rfl rfl (gle rfl) (fun _ _ _ _ h => h) ?_
      refine DW.q rfl (ok_move (v := V.one (.sc _)) (.inr rfl) rfl) rfl rfl (gle rfl) (fun _ _ _ _ h => h) ?_
      refine DW.stores ?_
      refine SV.zend ?_
      refine SV.tn ?_
      refine SV.ret ?_
      apply SV.done (hf := Try.results53) (ht := rfl) (he := .inl rfl)
      case hr => exact (ResAll.cons (ResOk.tmp (ag := false) (xs := [.sc _]) rfl) ResAll.nil')
      case h2 => simp [two]
      refine ⟨rfl, ⟨?_, trivial⟩, trivial⟩ <;> (show some (T.lit (Value.bool _)) = some (T.lit (Value.bool _)); refine congrArg (fun z => some (T.lit (Value.bool z))) ?_; (rw [Bool.eq_iff_iff]; simp at *; first | done | omega | (simp_all; done) | (simp_all; omega)))
set_option maxRecDepth 100000 in
set_option maxHeartbeats 2000000 in
theorem vnewb_i (n : Int) : VC Try.prog 35 [(false, [.lit (.int .i64 (n))])] true [(true, tBroker (BrokerD.new n)), (false, [.lit (.bool (BrokerD.isPool n))])] := by
  refine VC.enter Try.func35 rfl Try.ntmps35 (gle rfl) fun E hE => ?_
  refine SV.seq' ?_
  refine SV.region ?_
  refine SV.op (OpMk.ok (ok_alloc (kk := 0) (xs := [.sc _, .sc _, .nl _, .nl _]) rfl rfl zero_impl_Broker ⟨rfl, rfl, rfl, rfl, rfl, ⟨3, by decide, sz_impl_Client⟩, rfl, ⟨3, by decide, sz_impl_Client⟩, trivial⟩ rfl (gle rfl))) rfl ?_
  refine SV.op (OpL.ok (nb := 1) (ok_move (v := V.one (.sc _)) (.inr rfl) rfl) rfl (gle rfl)) rfl ?_
  refine SV.nil ?_
  refine SV.tn ?_
  refine SV.seq' ?_
  refine SV.seq' ?_
  refine SV.region ?_
  refine SV.op (OpL.ok (nb := 1) (ok_move (v := V.one (.sc _)) (.inl rfl) rfl) rfl (gle rfl)) rfl ?_
  refine SV.op (OpMk.ok (ok_call (ls := [(false, [.sc _])]) rfl rfl ⟨_, _, Try.func51, rfl, by decide⟩ (vispool_i n) ⟨⟨[.sc _], rfl, ⟨rfl, trivial⟩⟩, trivial⟩ rfl (gle rfl))) rfl ?_
  refine SV.op (OpL.ok (nb := 1) (ok_s1 (x := .tmp 5) (VScal.one rfl) (fun ρ h1 w => by go_simp; (try go_bits); with_reducible rfl) rfl) rfl (gle rfl)) rfl ?_
  refine SV.nil ?_
  refine SV.tn ?_
  refine SV.cond rfl (fun hc0 => ?_) (fun hc0 => ?_)
  · skip   -- c0.T
    have ho : BrokerD.isPool n = false := by simpa using hc0
    refine SV.seq' ?_
    refine SV.region ?_
    refine SV.op (OpL.ok (nb := 1) (ok_build (zs := [.sc _, .sc _, .nl _, .nl _]) (ys := [.sc _, .sc _, .nl _, .nl _]) (qs := []) (pl := fun i => ([(0, 1), (1, 1), (2, 1), (3, 1)] : List (Nat × Nat))[i]?) rfl zero_impl_Broker ⟨rfl, rfl, rfl, rfl, rfl, ⟨3, by decide, sz_impl_Client⟩, rfl, ⟨3, by decide, sz_impl_Client⟩, trivial⟩ trivial bld_impl_Broker rfl) rfl (gle rfl)) rfl ?_
    refine SV.op (ok_store_bp (b := 0) (i := 0) (m := 4) (ag := true) (zs := [.sc _, .sc _, .nl _, .nl _]) (ys := [.sc _, .sc _, .nl _, .nl _]) rfl rfl rfl rfl sz_impl_Broker (fun h => by cases h) rfl (gle rfl) rfl rfl rfl) rfl ?_
    refine SV.op (OpL.ok (nb := 1) (ok_move (v := V.one (.sc _)) (.inr rfl) rfl) rfl (gle rfl)) rfl ?_
    refine SV.nil ?_
    refine SV.tn ?_
    refine SV.ret ?_
    refine SV.tr ?_
    apply SV.done (hf := Try.results35) (ht := rfl) (he := .inl rfl)
    case hr => exact (ResAll.cons (ResOk.cell (b := 0) (ag := true) (xs := [.sc _, .sc _, .nl _, .nl _]) rfl rfl agg_impl_Broker sz_impl_Broker (fun h => by cases h)) (ResAll.cons (ResOk.tmp (ag := false) (xs := [.sc _]) rfl) ResAll.nil'))
    case h2 => simp [two]
    refine ⟨rfl, ⟨?_, ?_, ?_, ?_, trivial⟩, ⟨rfl, ⟨?_, trivial⟩, trivial⟩⟩ <;> first | rfl | (unfold BrokerD.new; first | (rw [if_pos ho]; rfl) | (rw [if_neg (by rw [ho]; decide)]; rfl)) | ((show some (T.lit (Value.bool _)) = some (T.lit (Value.bool _)); refine congrArg (fun z => some (T.lit (Value.bool z))) ?_; rw [ho]))
  · skip   -- c0.F
    have ho : BrokerD.isPool n = true := by simpa using hc0
    refine SV.skip ?_
    refine SV.tn ?_
    refine SV.seq' ?_
    refine SV.region ?_
    refine SV.op (OpL.ok (nb := 1) (ok_move (v := V.one (.sc _)) (.inl rfl) rfl) rfl (gle rfl)) rfl ?_
    refine SV.op (OpL.ok (nb := 1) (ok_build (zs := [.sc _, .sc _, .nl _, .nl _]) (ys := [.sc _, .sc _, .nl _, .nl _]) (qs := [(0, [.sc _])]) (pl := fun i => ([(0, 1), (1, 1), (2, 1), (3, 1)] : List (Nat × Nat))[i]?) rfl zero_impl_Broker ⟨rfl, rfl, rfl, rfl, rfl, ⟨3, by decide, sz_impl_Client⟩, rfl, ⟨3, by decide, sz_impl_Client⟩, trivial⟩ ⟨⟨rfl, false, rfl, (fun _ => rfl), rfl⟩, trivial⟩ bld_impl_Broker rfl) rfl (gle rfl)) rfl ?_
    refine SV.op (ok_store_bp (b := 0) (i := 0) (m := 4) (ag := true) (zs := [.sc _, .sc _, .nl _, .nl _]) (ys := [.sc _, .sc _, .nl _, .nl _]) rfl rfl rfl rfl sz_impl_Broker (fun h => by cases h) rfl (gle rfl) rfl rfl rfl) rfl ?_
    refine SV.op (OpL.ok (nb := 1) (ok_move (v := V.one (.sc _)) (.inr rfl) rfl) rfl (gle rfl)) rfl ?_
    refine SV.nil ?_
    refine SV.tn ?_
    refine SV.ret ?_
    apply SV.done (hf := Try.results35) (ht := rfl) (he := .inl rfl)
    case hr => exact (ResAll.cons (ResOk.cell (b := 0) (ag := true) (xs := [.sc _, .sc _, .nl _, .nl _]) rfl rfl agg_impl_Broker sz_impl_Broker (fun h => by cases h)) (ResAll.cons (ResOk.tmp (ag := false) (xs := [.sc _]) rfl) ResAll.nil'))
    case h2 => simp [two]
    refine ⟨rfl, ⟨?_, ?_, ?_, ?_, trivial⟩, ⟨rfl, ⟨?_, trivial⟩, trivial⟩⟩ <;> first | rfl | (unfold BrokerD.new; first | (rw [if_pos ho]; rfl) | (rw [if_neg (by rw [ho]; decide)]; rfl)) | ((show some (T.lit (Value.bool _)) = some (T.lit (Value.bool _)); refine congrArg (fun z => some (T.lit (Value.bool z))) ?_; rw [ho]))
end Go.Proofs.Ytfghhjcfmmhacaa
/- Brokers' lists: a client put in, comparisons: told by trees. -/
namespace Go.Proofs.Ytfghhjcfmmhacaa
open Go Go.RowKit V
set_option linter.unusedVariables false
set_option maxRecDepth 100000 in
set_option maxHeartbeats 2000000 in
theorem vput_s (l : List ClientD) (c : ClientD) (hL : l.length ≤ 1000000000) : VC Try.prog 70 [(false, [.seq 35 ((l).map tClient)]), (true, tClient c)] false [(false, [.seq 35 ((BrokerD.put l c).map tClient)])] := by
  refine VC.enter Try.func70 rfl Try.ntmps70 (gle rfl) fun E hE => ?_
  refine SV.seq' ?_
  refine SV.region ?_
  refine SV.op (OpMk.ok (ok_box (kk := 0) (ag := true) (xs := [.sc _, .sc _, .sc _]) rfl rfl rfl (fun h => by cases h) rfl rfl (gle rfl))) rfl ?_
  refine SV.op (OpL.ok (nb := 1) (ok_move (v := V.one (.sc _)) (.inr rfl) rfl) rfl (gle rfl)) rfl ?_
  refine SV.nil ?_
  refine SV.tn ?_
  refine SV.seq' ?_
  refine SV.region ?_
  refine SV.op (OpL.ok (nb := 1) (ok_move (v := V.one (.sc _)) (.inr rfl) rfl) rfl (gle rfl)) rfl ?_
  refine SV.nil ?_
  refine SV.tn ?_
  refine SV.seq' ?_
  refine SV.block ?_
  refine SV.loopF (X := Nat) (fun (σ : VS) t => (((((VS.nil.box 35 [σ.bl 0 0, σ.bl 0 1, σ.bl 0 2]).put 0 (σ.tm 0)).put 3 (V.flat false [.bp 0 0])).put 4 (σ.tm 4)).put 5 (V.flat false [.sc (.int .i64 ((t : Int)))]))) (fun t => t ≤ l.length ∧ ∀ u d, u < t → l[u]? = some d → d.fID < c.fID) (fun t => l.length - t) ?_ ?_
  · skip
    refine SV.again (fun i => [].getD i 0) 0 (⟨Nat.zero_le _, fun u c h => absurd h (Nat.not_lt_zero u)⟩) (pins hE rfl rfl) (VS.le.mk' (le_put (le_put (le_put (le_put (le_box le_nil) (V.le.keep (ag := false) (xs := [.ro _]) (ys := [.ro _]) rfl rfl ⟨rfl, trivial⟩)) (V.le.keep (ag := false) (xs := [.bp 0 0]) (ys := [.bp 0 0]) rfl rfl ⟨⟨rfl, (gle rfl)⟩, trivial⟩)) (V.le.keep (ag := false) (xs := [.sc _]) (ys := [.sc _]) rfl rfl ⟨rfl, trivial⟩)) (V.le.keep (ag := false) (xs := [.sc _]) (ys := [.sc _]) rfl rfl ⟨(by first | rfl | (show Leaf.sc _ = Leaf.sc _; refine congrArg Leaf.sc ?_; first | rfl | go_num | (simp [cntAll]; done)) | (simp [cntAll]; done) | (simp; omega)), trivial⟩)) ⟨⟨rfl, ⟨rfl, rfl, rfl, trivial⟩⟩, trivial⟩ trivial nil_ob (fun i j hi hj e => absurd hi (Nat.not_lt_zero i)))
  · rintro t ⟨ht, hb⟩
    refine SV.seq' ?_
    refine SV.seq' ?_
    refine SV.draw [.q 0, .q 1, .q 2, .q 3, .q 4, .q 5, .q 6, .q 7, .q 8, .q 9, .q 10, .q 11, .q 12, .q 13] [] (by kernel_rfl) (by kernel_rfl) ?_
    refine DW.q rfl (ok_move (v := V.one (.sc _)) (.inl rfl) rfl) rfl rfl (gle rfl) (fun _ _ _ _ h => h) ?_
    refine DW.q rfl (ok_move (v := V.one (.ro _)) (.inl rfl) rfl) rfl rfl (gle rfl) (fun _ _ _ _ h => h) ?_
    refine DW.q rfl (ok_len (lf := .ro _) rfl elt_impl_Client.und rfl rfl) rfl rfl (gle rfl) (fun _ _ _ _ h => h) ?_
    refine DW.q rfl (ok_s2 (x := .tmp 7) (x' := .tmp 9) (VScal.one rfl) (VScal.one rfl) (fun ρ h1 h2 w => by go_simp; (try go_bits); with_reducible rfl) rfl) rfl rfl (gle rfl) (fun _ _ _ _ h => h) ?_
    refine DW.q rfl (ok_move (v := V.one (.sc _)) (.inl rfl) rfl) rfl rfl (gle rfl) (fun _ _ _ _ h => h) ?_
    refine DW.split (d := 11) rfl (fun hg0 => ?_) (fun hg0 => ?_)
    · skip   -- g0.T
      have htl : t < l.length := by simpa using hg0
      have hx : l[t]? = some l[t] := by simp [htl]
      refine DW.qY rfl (ok_move (v := V.one (.ro _)) (.inl rfl) rfl) rfl rfl rfl (gle rfl) rfl rfl rfl (gle rfl) (fun _ _ _ _ h => h) ?_
      refine DW.qY rfl (ok_move (v := V.one (.sc _)) (.inl rfl) rfl) rfl rfl rfl (gle rfl) rfl rfl rfl (gle rfl) (fun _ _ _ _ h => h) ?_
      refine DW.qY rfl (ok_index (n := 3) (lf := .ro _) rfl elt_impl_Client.und sz_impl_Client rfl rfl rfl (map_at hx)) rfl rfl rfl (gle rfl) rfl rfl rfl (gle rfl) (fun _ _ _ _ h => h) ?_
      refine DW.qY rfl (ok_field_el (p := .rp _) (off := 0) rfl rfl rfl fld_impl_Client_0) rfl rfl rfl (gle rfl) rfl rfl rfl (gle rfl) (fun _ _ _ _ h => h) ?_
      refine DW.qY rfl (ok_load_rp (ag := false) (m := 1) (ys := [.sc _]) rfl rfl agg_int sz_int (fun _ => rfl) (gle rfl) rfl) rfl rfl rfl (gle rfl) rfl rfl rfl (gle rfl) (fun _ _ _ _ h => h) ?_
      refine DW.qY rfl (ok_field_bp (b := 0) (o' := 0) (off := 0) rfl rfl fld_impl_Client_0) rfl rfl rfl (gle rfl) rfl rfl rfl (gle rfl) (fun _ _ _ _ h => h) ?_
      refine DW.qY rfl (ok_load_bp (b := 0) (i := 0) (ag := false) (m := 1) (ys := [.sc _]) rfl rfl rfl agg_int sz_int (fun _ => rfl) rfl rfl (gle rfl)) rfl rfl rfl (gle rfl) rfl rfl rfl (gle rfl) (fun _ _ _ _ h => h) ?_
      refine DW.qY rfl (ok_s2 (x := .tmp 16) (x' := .tmp 18) (VScal.one rfl) (VScal.one rfl) (fun ρ h1 h2 w => by go_simp; (try go_bits); with_reducible rfl) rfl) rfl rfl rfl (gle rfl) rfl rfl rfl (gle rfl) (fun _ _ _ _ h => h) ?_
      refine DW.q rfl (ok_pickT (v := V.one (.sc _)) rfl rfl rfl) rfl rfl (gle rfl) (fun _ _ _ _ h => h) ?_
      refine DW.stores ?_
      refine SV.zend ?_
      refine SV.tn ?_
      refine SV.cond rfl (fun hc0 => ?_) (fun hc0 => ?_)
      · skip   -- c0.T
        refine SV.skip ?_
        refine SV.tn ?_
        refine SV.block ?_
        refine SV.region ?_
        refine SV.op (OpL.ok (nb := 1) (ok_move (v := V.one (.sc _)) (.inl rfl) rfl) rfl (gle rfl)) rfl ?_
        refine SV.op (OpL.ok (nb := 1) (ok_s2 (x := .tmp 21) (x' := .const ((Value.int IntKind.i64 1))) (VScal.one rfl) (VScal.one rfl) (fun ρ h1 h2 w => by go_simp; (try go_bits); with_reducible rfl) rfl) rfl (gle rfl)) rfl ?_
        refine SV.op (OpL.ok (nb := 1) (ok_move (v := V.one (.sc _)) (.inr rfl) rfl) rfl (gle rfl)) rfl ?_
        refine SV.nil ?_
        refine SV.bn ?_
        refine SV.tn ?_
        refine SV.again (fun i => [].getD i 0) (t + 1) (⟨⟨by omega, fun u d hu hd => by rcases Nat.lt_or_ge u t with h1 | h1; (exact hb u d h1 hd); (have h2 : u = t := (by omega); subst h2; rw [hx] at hd; cases hd; simpa using hc0)⟩, by omega⟩) (pins hE rfl rfl) (VS.le.mk' (le_put (le_put (le_put (le_put (le_box le_nil) (V.le.keep (ag := false) (xs := [.ro _]) (ys := [.ro _]) rfl rfl ⟨rfl, trivial⟩)) (V.le.keep (ag := false) (xs := [.bp 0 0]) (ys := [.bp 0 0]) rfl rfl ⟨⟨rfl, (gle rfl)⟩, trivial⟩)) (V.le.keep (ag := false) (xs := [.sc _]) (ys := [.sc _]) rfl rfl ⟨rfl, trivial⟩)) (V.le.keep (ag := false) (xs := [.sc _]) (ys := [.sc _]) rfl rfl ⟨(by first | rfl | (show Leaf.sc _ = Leaf.sc _; refine congrArg Leaf.sc ?_; first | rfl | go_num | (simp [cntAll]; done)) | (simp [cntAll]; done) | (simp; omega)), trivial⟩)) ⟨⟨rfl, ⟨rfl, rfl, rfl, trivial⟩⟩, trivial⟩ trivial nil_ob (fun i j hi hj e => absurd hi (Nat.not_lt_zero i)))
      · skip   -- c0.F
        have hput := BrokerD.put_at ht hb (fun d hd => by rw [hx] at hd; cases hd; simpa using hc0)
        refine SV.exit ?_
        refine SV.te ?_
        refine SV.te ?_
        refine SV.bh ?_
        refine SV.tn ?_
        refine SV.seq' ?_
        refine SV.draw [.q 0, .q 2, .q 3, .q 4, .m 1, .m 5, .q 6] [] (by kernel_rfl) (by kernel_rfl) ?_
        refine DW.q rfl (ok_load_bp (b := 0) (i := 0) (ag := true) (m := 3) (ys := [.sc _, .sc _, .sc _]) rfl rfl rfl agg_impl_Client sz_impl_Client (fun h => by cases h) rfl rfl (gle rfl)) rfl rfl (gle rfl) (fun _ _ _ _ h => h) ?_
        refine DW.q rfl (ok_move (v := V.one (.ro _)) (.inl rfl) rfl) rfl rfl (gle rfl) (fun _ _ _ _ h => h) ?_
        refine DW.q rfl (ok_move (v := V.one (.sc _)) (.inl rfl) rfl) rfl rfl (gle rfl) (fun _ _ _ _ h => h) ?_
        refine DW.q rfl (ok_slice (l := t) (h := (l.map tClient).length) (lf := .ro _) (yy := .ro _) rfl rfl elt_impl_Client.und sz_impl_Client rfl rfl ⟨_, rfl⟩ rfl (by simp; omega) (Nat.le_refl _)) rfl rfl (gle rfl) (fun _ _ _ _ h => h) ?_
        refine DW.m [0] rfl (ok_lit1 (kk := 0) elt_impl_Client (ag := true) (xs := [.sc _, .sc _, .sc _]) rfl rfl rfl rfl (fun h => by cases h) (outs_c rfl (outs_c rfl (outs_c rfl outs_n))) (by simp [two]) rfl (gle rfl)) rfl (gle rfl) (gle rfl) (.inl rfl) (fun j hj => by
            simp only [List.mem_cons, List.not_mem_nil, or_false] at hj
            rcases hj with rfl
            · exact .inr ⟨(gle rfl), (gle rfl), .inl rfl⟩) ?_
        refine DW.m [1, 0] rfl (ok_append_ro (kk := 1) elt_impl_Client (ls := .hd 0) (lx := .ro _) rfl rfl rfl rfl rfl rfl (flat_sub (flat_impl_Client _) _ _) (by first | omega | (simp only [List.length_map]; omega) | (simp; done) | (simp; omega)) rfl (gle rfl)) rfl (gle rfl) (gle rfl) (.inr ⟨0, rfl, .inl (by decide)⟩) (fun j hj => by
            simp only [List.mem_cons, List.not_mem_nil, or_false] at hj
            rcases hj with rfl | rfl
            · exact .inr ⟨(gle rfl), (gle rfl), .inr ⟨0, rfl, by decide⟩⟩
            · exact .inl (by decide)) ?_
        refine DW.q rfl (ok_move (v := V.one (.hd 1)) (.inr rfl) rfl) rfl rfl (gle rfl) (fun _ _ _ _ h => h) ?_
        refine DW.stores ?_
        refine SV.zend ?_
        refine SV.tn ?_
        refine SV.seq' ?_
        refine SV.region ?_
        refine SV.op (OpMk.ok (ok_lit0 (kk := 2) elt_impl_Client rfl rfl rfl (gle rfl))) rfl ?_
        refine SV.op (OpL.ok (nb := 1) (ok_move (v := V.one (.ro _)) (.inl rfl) rfl) rfl (gle rfl)) rfl ?_
        refine SV.op (OpL.ok (nb := 1) (ok_move (v := V.one (.sc _)) (.inl rfl) rfl) rfl (gle rfl)) rfl ?_
        refine SV.op (OpL.ok (nb := 1) (ok_slice (l := 0) (h := t) (lf := .ro _) (yy := .ro _) rfl rfl elt_impl_Client.und sz_impl_Client rfl rfl rfl ⟨_, rfl⟩ (by omega) (by simp; omega)) rfl (gle rfl)) rfl ?_
        refine SV.op (OpMk.ok (ok_append_ro (kk := 3) elt_impl_Client (ls := .hd 2) (lx := .ro _) rfl rfl rfl rfl rfl rfl (flat_sub (flat_impl_Client _) _ _) (by first | omega | (simp only [List.length_map]; omega) | (simp; done) | (simp; omega)) rfl (gle rfl))) rfl ?_
        refine SV.op (OpL.ok (nb := 1) (ok_move (v := V.one (.hd 1)) (.inl rfl) rfl) rfl (gle rfl)) rfl ?_
        refine SV.op (OpMk.ok (ok_append_ro (kk := 4) elt_impl_Client (ls := .hd 3) (lx := .hd 1) rfl rfl rfl rfl rfl rfl (flat_app (flat_one rfl) (flat_sub (flat_impl_Client _) _ _)) (by first | omega | (simp only [List.length_map]; omega) | (simp; done) | (simp; omega)) rfl (gle rfl))) rfl ?_
        refine SV.op (OpL.ok (nb := 1) (ok_move (v := V.one (.hd 4)) (.inr rfl) rfl) rfl (gle rfl)) rfl ?_
        refine SV.nil ?_
        refine SV.tn ?_
        refine SV.ret ?_
        apply SV.done (hf := Try.results70) (ht := rfl) (he := .inl rfl)
        case hr => exact (ResAll.cons (ResOk.tmp (ag := false) (xs := [.hd 4]) rfl) ResAll.nil')
        case h2 => simp [two]
        refine ⟨rfl, ⟨?_, trivial⟩, trivial⟩ <;> (show some (T.seq _ _) = some (T.seq _ _); refine congrArg (fun z => some (T.seq _ z)) ?_; rw [hput, List.take_length]; simp [List.map_take, List.map_drop]; rfl)
    · skip   -- g0.F
      have hte : ¬ t < l.length := by simpa using hg0
      refine DW.qN (V' := V.one .dead) rfl rfl rfl rfl (gle rfl) rfl rfl rfl (gle rfl) (fun _ _ _ _ h => h) ?_
      refine DW.qN (V' := V.one .dead) rfl rfl rfl rfl (gle rfl) rfl rfl rfl (gle rfl) (fun _ _ _ _ h => h) ?_
      refine DW.qN (V' := V.one .dead) rfl rfl rfl rfl (gle rfl) rfl rfl rfl (gle rfl) (fun _ _ _ _ h => h) ?_
      refine DW.qN (V' := V.one .dead) rfl rfl rfl rfl (gle rfl) rfl rfl rfl (gle rfl) (fun _ _ _ _ h => h) ?_
      refine DW.qN (V' := V.one .dead) rfl rfl rfl rfl (gle rfl) rfl rfl rfl (gle rfl) (fun _ _ _ _ h => h) ?_
      refine DW.qN (V' := V.one .dead) rfl rfl rfl rfl (gle rfl) rfl rfl rfl (gle rfl) (fun _ _ _ _ h => h) ?_
      refine DW.qN (V' := V.one .dead) rfl rfl rfl rfl (gle rfl) rfl rfl rfl (gle rfl) (fun _ _ _ _ h => h) ?_
      refine DW.qN (V' := V.one .dead) rfl rfl rfl rfl (gle rfl) rfl rfl rfl (gle rfl) (fun _ _ _ _ h => h) ?_
      refine DW.q rfl (ok_pickF (v := V.one (.sc _)) rfl rfl rfl) rfl rfl (gle rfl) (fun _ _ _ _ h => h) ?_
      refine DW.stores ?_
      refine SV.zend ?_
      refine SV.tn ?_
      refine SV.cond rfl (fun hc1 => ?_) (fun hc1 => ?_)
      · skip   -- c1.T
        cases hc1
      · skip   -- c1.F
        have hput := BrokerD.put_at ht hb (fun d hd => absurd (V.get_lt hd) hte)
        refine SV.exit ?_
        refine SV.te ?_
        refine SV.te ?_
        refine SV.bh ?_
        refine SV.tn ?_
        refine SV.seq' ?_
        refine SV.draw [.q 0, .q 2, .q 3, .q 4, .m 1, .m 5, .q 6] [] (by kernel_rfl) (by kernel_rfl) ?_
        refine DW.q rfl (ok_load_bp (b := 0) (i := 0) (ag := true) (m := 3) (ys := [.sc _, .sc _, .sc _]) rfl rfl rfl agg_impl_Client sz_impl_Client (fun h => by cases h) rfl rfl (gle rfl)) rfl rfl (gle rfl) (fun _ _ _ _ h => h) ?_
        refine DW.q rfl (ok_move (v := V.one (.ro _)) (.inl rfl) rfl) rfl rfl (gle rfl) (fun _ _ _ _ h => h) ?_
        refine DW.q rfl (ok_move (v := V.one (.sc _)) (.inl rfl) rfl) rfl rfl (gle rfl) (fun _ _ _ _ h => h) ?_
        refine DW.q rfl (ok_slice (l := t) (h := (l.map tClient).length) (lf := .ro _) (yy := .ro _) rfl rfl elt_impl_Client.und sz_impl_Client rfl rfl ⟨_, rfl⟩ rfl (by simp; omega) (Nat.le_refl _)) rfl rfl (gle rfl) (fun _ _ _ _ h => h) ?_
        refine DW.m [0] rfl (ok_lit1 (kk := 0) elt_impl_Client (ag := true) (xs := [.sc _, .sc _, .sc _]) rfl rfl rfl rfl (fun h => by cases h) (outs_c rfl (outs_c rfl (outs_c rfl outs_n))) (by simp [two]) rfl (gle rfl)) rfl (gle rfl) (gle rfl) (.inl rfl) (fun j hj => by
            simp only [List.mem_cons, List.not_mem_nil, or_false] at hj
            rcases hj with rfl
            · exact .inr ⟨(gle rfl), (gle rfl), .inl rfl⟩) ?_
        refine DW.m [1, 0] rfl (ok_append_ro (kk := 1) elt_impl_Client (ls := .hd 0) (lx := .ro _) rfl rfl rfl rfl rfl rfl (flat_sub (flat_impl_Client _) _ _) (by first | omega | (simp only [List.length_map]; omega) | (simp; done) | (simp; omega)) rfl (gle rfl)) rfl (gle rfl) (gle rfl) (.inr ⟨0, rfl, .inl (by decide)⟩) (fun j hj => by
            simp only [List.mem_cons, List.not_mem_nil, or_false] at hj
            rcases hj with rfl | rfl
            · exact .inr ⟨(gle rfl), (gle rfl), .inr ⟨0, rfl, by decide⟩⟩
            · exact .inl (by decide)) ?_
        refine DW.q rfl (ok_move (v := V.one (.hd 1)) (.inr rfl) rfl) rfl rfl (gle rfl) (fun _ _ _ _ h => h) ?_
        refine DW.stores ?_
        refine SV.zend ?_
        refine SV.tn ?_
        refine SV.seq' ?_
        refine SV.region ?_
        refine SV.op (OpMk.ok (ok_lit0 (kk := 2) elt_impl_Client rfl rfl rfl (gle rfl))) rfl ?_
        refine SV.op (OpL.ok (nb := 1) (ok_move (v := V.one (.ro _)) (.inl rfl) rfl) rfl (gle rfl)) rfl ?_
        refine SV.op (OpL.ok (nb := 1) (ok_move (v := V.one (.sc _)) (.inl rfl) rfl) rfl (gle rfl)) rfl ?_
        refine SV.op (OpL.ok (nb := 1) (ok_slice (l := 0) (h := t) (lf := .ro _) (yy := .ro _) rfl rfl elt_impl_Client.und sz_impl_Client rfl rfl rfl ⟨_, rfl⟩ (by omega) (by simp; omega)) rfl (gle rfl)) rfl ?_
        refine SV.op (OpMk.ok (ok_append_ro (kk := 3) elt_impl_Client (ls := .hd 2) (lx := .ro _) rfl rfl rfl rfl rfl rfl (flat_sub (flat_impl_Client _) _ _) (by first | omega | (simp only [List.length_map]; omega) | (simp; done) | (simp; omega)) rfl (gle rfl))) rfl ?_
        refine SV.op (OpL.ok (nb := 1) (ok_move (v := V.one (.hd 1)) (.inl rfl) rfl) rfl (gle rfl)) rfl ?_
        refine SV.op (OpMk.ok (ok_append_ro (kk := 4) elt_impl_Client (ls := .hd 3) (lx := .hd 1) rfl rfl rfl rfl rfl rfl (flat_app (flat_one rfl) (flat_sub (flat_impl_Client _) _ _)) (by first | omega | (simp only [List.length_map]; omega) | (simp; done) | (simp; omega)) rfl (gle rfl))) rfl ?_
        refine SV.op (OpL.ok (nb := 1) (ok_move (v := V.one (.hd 4)) (.inr rfl) rfl) rfl (gle rfl)) rfl ?_
        refine SV.nil ?_
        refine SV.tn ?_
        refine SV.ret ?_
        apply SV.done (hf := Try.results70) (ht := rfl) (he := .inl rfl)
        case hr => exact (ResAll.cons (ResOk.tmp (ag := false) (xs := [.hd 4]) rfl) ResAll.nil')
        case h2 => simp [two]
        refine ⟨rfl, ⟨?_, trivial⟩, trivial⟩ <;> (show some (T.seq _ _) = some (T.seq _ _); refine congrArg (fun z => some (T.seq _ z)) ?_; rw [hput, List.take_length]; simp [List.map_take, List.map_drop]; rfl)
set_option maxRecDepth 100000 in
set_option maxHeartbeats 2000000 in
theorem vsamec_s (A B : List ClientD) (hA : A.length ≤ 1000000000) (hB : B.length ≤ 1000000000) : VC Try.prog 64 [(false, [.seq 35 ((A).map tClient)]), (false, [.seq 35 ((B).map tClient)])] false [(false, [.lit (.bool (decide (A = B)))])] := by
  refine VC.enter Try.func64 rfl Try.ntmps64 (gle rfl) fun E hE => ?_
  refine SV.seq' ?_
  refine SV.region ?_
  refine SV.op (OpL.ok (nb := 0) (ok_move (v := V.one (.sc _)) (.inr rfl) rfl) rfl (gle rfl)) rfl ?_
  refine SV.nil ?_
  refine SV.tn ?_
  refine SV.seq' ?_
  refine SV.seq' ?_
  refine SV.region ?_
  refine SV.op (OpL.ok (nb := 0) (ok_move (v := V.one (.ro _)) (.inl rfl) rfl) rfl (gle rfl)) rfl ?_
  refine SV.op (OpL.ok (nb := 0) (ok_len (lf := .ro _) rfl elt_impl_Client.und rfl rfl) rfl (gle rfl)) rfl ?_
  refine SV.op (OpL.ok (nb := 0) (ok_move (v := V.one (.ro _)) (.inl rfl) rfl) rfl (gle rfl)) rfl ?_
  refine SV.op (OpL.ok (nb := 0) (ok_len (lf := .ro _) rfl elt_impl_Client.und rfl rfl) rfl (gle rfl)) rfl ?_
  refine SV.op (OpL.ok (nb := 0) (ok_s2 (x := .tmp 7) (x' := .tmp 9) (VScal.one rfl) (VScal.one rfl) (fun ρ h1 h2 w => by go_simp; (try go_bits); with_reducible rfl) rfl) rfl (gle rfl)) rfl ?_
  refine SV.nil ?_
  refine SV.tn ?_
  refine SV.cond rfl (fun hc0 => ?_) (fun hc0 => ?_)
  · skip   -- c0.T
    have ho : decide (A = B) = false := by rw [decide_eq_false_iff_not]; rintro rfl; simp at hc0
    refine SV.seq' ?_
    refine SV.region ?_
    refine SV.op (OpL.ok (nb := 0) (ok_move (v := V.one (.sc _)) (.inr rfl) rfl) rfl (gle rfl)) rfl ?_
    refine SV.nil ?_
    refine SV.tn ?_
    refine SV.ret ?_
    refine SV.tr ?_
    apply SV.done (hf := Try.results64) (ht := rfl) (he := .inl rfl)
    case hr => exact (ResAll.cons (ResOk.tmp (ag := false) (xs := [.sc _]) rfl) ResAll.nil')
    case h2 => simp [two]
    refine ⟨rfl, ⟨?_, trivial⟩, trivial⟩ <;> (show some (T.lit (Value.bool _)) = some (T.lit (Value.bool _)); refine congrArg (fun z => some (T.lit (Value.bool z))) ?_; rw [ho])
  · skip   -- c0.F
    have hlen : A.length = B.length := by simp at hc0; omega
    refine SV.skip ?_
    refine SV.tn ?_
    refine SV.seq' ?_
    refine SV.seq' ?_
    refine SV.region ?_
    refine SV.op (OpL.ok (nb := 0) (ok_move (v := V.one (.sc _)) (.inr rfl) rfl) rfl (gle rfl)) rfl ?_
    refine SV.nil ?_
    refine SV.tn ?_
    refine SV.block ?_
    refine SV.loopF (X := Nat) (fun (σ : VS) t => ((((VS.nil.put 0 (σ.tm 0)).put 1 (σ.tm 1)).put 4 (σ.tm 4)).put 5 (V.flat false [.sc (.int .i64 ((t : Int)))]))) (fun t => t ≤ A.length ∧ ∀ u, u < t → A[u]? = B[u]?) (fun t => A.length - t) ?_ ?_
    · skip
      refine SV.again (fun i => [].getD i 0) 0 (⟨Nat.zero_le _, fun u h => absurd h (Nat.not_lt_zero u)⟩) (pins hE rfl rfl) (VS.le.mk' (le_put (le_put (le_put (le_put le_nil (V.le.keep (ag := false) (xs := [.ro _]) (ys := [.ro _]) rfl rfl ⟨rfl, trivial⟩)) (V.le.keep (ag := false) (xs := [.ro _]) (ys := [.ro _]) rfl rfl ⟨rfl, trivial⟩)) (V.le.keep (ag := false) (xs := [.sc _]) (ys := [.sc _]) rfl rfl ⟨rfl, trivial⟩)) (V.le.keep (ag := false) (xs := [.sc _]) (ys := [.sc _]) rfl rfl ⟨(by first | rfl | (show Leaf.sc _ = Leaf.sc _; refine congrArg Leaf.sc ?_; first | rfl | go_num | (simp [cntAll]; done)) | (simp [cntAll]; done) | (simp; omega)), trivial⟩)) trivial trivial nil_ob (fun i j hi hj e => absurd hi (Nat.not_lt_zero i)))
    · rintro t ⟨ht, hb⟩
      refine SV.seq' ?_
      refine SV.seq' ?_
      refine SV.region ?_
      refine SV.op (OpL.ok (nb := 0) (ok_move (v := V.one (.sc _)) (.inl rfl) rfl) rfl (gle rfl)) rfl ?_
      refine SV.op (OpL.ok (nb := 0) (ok_move (v := V.one (.ro _)) (.inl rfl) rfl) rfl (gle rfl)) rfl ?_
      refine SV.op (OpL.ok (nb := 0) (ok_len (lf := .ro _) rfl elt_impl_Client.und rfl rfl) rfl (gle rfl)) rfl ?_
      refine SV.op (OpL.ok (nb := 0) (ok_s2 (x := .tmp 11) (x' := .tmp 13) (VScal.one rfl) (VScal.one rfl) (fun ρ h1 h2 w => by go_simp; (try go_bits); with_reducible rfl) rfl) rfl (gle rfl)) rfl ?_
      refine SV.nil ?_
      refine SV.tn ?_
      refine SV.cond rfl (fun hc1 => ?_) (fun hc1 => ?_)
      · skip   -- c1.T
        have htl : t < A.length := by simp at hc1; omega
        have hx : A[t]? = some A[t] := by simp [htl]
        have hy : B[t]? = some (B[t]'(by omega)) := by simp
        refine SV.skip ?_
        refine SV.tn ?_
        refine SV.seq' ?_
        refine SV.block ?_
        refine SV.seq' ?_
        refine SV.draw [.q 0, .q 1, .q 2, .q 3, .q 4, .q 5, .q 6, .q 7, .q 8] [] (by kernel_rfl) (by kernel_rfl) ?_
        refine DW.q rfl (ok_move (v := V.one (.ro _)) (.inl rfl) rfl) rfl rfl (gle rfl) (fun _ _ _ _ h => h) ?_
        refine DW.q rfl (ok_move (v := V.one (.sc _)) (.inl rfl) rfl) rfl rfl (gle rfl) (fun _ _ _ _ h => h) ?_
        refine DW.q rfl (ok_index (n := 3) (lf := .ro _) rfl elt_impl_Client.und sz_impl_Client rfl rfl rfl (map_at hx)) rfl rfl (gle rfl) (fun _ _ _ _ h => h) ?_
        refine DW.q rfl (ok_load_rp (ag := true) (m := 3) (ys := [.sc _, .sc _, .sc _]) rfl rfl agg_impl_Client sz_impl_Client (fun h => by cases h) (gle rfl) rfl) rfl rfl (gle rfl) (fun _ _ _ _ h => h) ?_
        refine DW.q rfl (ok_move (v := V.one (.ro _)) (.inl rfl) rfl) rfl rfl (gle rfl) (fun _ _ _ _ h => h) ?_
        refine DW.q rfl (ok_move (v := V.one (.sc _)) (.inl rfl) rfl) rfl rfl (gle rfl) (fun _ _ _ _ h => h) ?_
        refine DW.q rfl (ok_index (n := 3) (lf := .ro _) rfl elt_impl_Client.und sz_impl_Client rfl rfl rfl (map_at hy)) rfl rfl (gle rfl) (fun _ _ _ _ h => h) ?_
        refine DW.q rfl (ok_load_rp (ag := true) (m := 3) (ys := [.sc _, .sc _, .sc _]) rfl rfl agg_impl_Client sz_impl_Client (fun h => by cases h) (gle rfl) rfl) rfl rfl (gle rfl) (fun _ _ _ _ h => h) ?_
        refine DW.q rfl (ok_s2 (v := .bool (decide (A[t] ≠ B[t]'(by omega)))) (x := .tmp 20) (x' := .tmp 24) ⟨true, [_, _, _], rfl, rfl⟩ ⟨true, [_, _, _], rfl, rfl⟩ (fun ρ h1 h2 w => neq_impl_Client A[t] (B[t]'(by omega)) ρ _ _ _ w rfl h1 h2) rfl) rfl rfl (gle rfl) (fun _ _ _ _ h => h) ?_
        refine DW.stores ?_
        refine SV.zend ?_
        refine SV.tn ?_
        refine SV.cond rfl (fun hc2 => ?_) (fun hc2 => ?_)
        · skip   -- c2.T
          have ho : decide (A = B) = false := by rw [decide_eq_false_iff_not]; rintro rfl; simp at hc2
          refine SV.seq' ?_
          refine SV.region ?_
          refine SV.op (OpL.ok (nb := 0) (ok_move (v := V.one (.sc _)) (.inr rfl) rfl) rfl (gle rfl)) rfl ?_
          refine SV.nil ?_
          refine SV.tn ?_
          refine SV.ret ?_
          refine SV.br ?_
          refine SV.tr ?_
          refine SV.tr ?_
          refine SV.br ?_
          refine SV.tr ?_
          apply SV.done (hf := Try.results64) (ht := rfl) (he := .inl rfl)
          case hr => exact (ResAll.cons (ResOk.tmp (ag := false) (xs := [.sc _]) rfl) ResAll.nil')
          case h2 => simp [two]
          refine ⟨rfl, ⟨?_, trivial⟩, trivial⟩ <;> (show some (T.lit (Value.bool _)) = some (T.lit (Value.bool _)); refine congrArg (fun z => some (T.lit (Value.bool z))) ?_; rw [ho])
        · skip   -- c2.F
          refine SV.skip ?_
          refine SV.bn ?_
          refine SV.tn ?_
          refine SV.region ?_
          refine SV.op (OpL.ok (nb := 0) (ok_move (v := V.one (.sc _)) (.inl rfl) rfl) rfl (gle rfl)) rfl ?_
          refine SV.op (OpL.ok (nb := 0) (ok_s2 (x := .tmp 15) (x' := .const ((Value.int IntKind.i64 1))) (VScal.one rfl) (VScal.one rfl) (fun ρ h1 h2 w => by go_simp; (try go_bits); with_reducible rfl) rfl) rfl (gle rfl)) rfl ?_
          refine SV.op (OpL.ok (nb := 0) (ok_move (v := V.one (.sc _)) (.inr rfl) rfl) rfl (gle rfl)) rfl ?_
          refine SV.nil ?_
          refine SV.tn ?_
          refine SV.again (fun i => [].getD i 0) (t + 1) (⟨⟨by omega, fun u hu => by rcases Nat.lt_or_ge u t with h1 | h1; (exact hb u h1); (have h2 : u = t := (by omega); subst h2; rw [hx, hy]; exact congrArg some (by simpa using hc2))⟩, by omega⟩) (pins hE rfl rfl) (VS.le.mk' (le_put (le_put (le_put (le_put le_nil (V.le.keep (ag := false) (xs := [.ro _]) (ys := [.ro _]) rfl rfl ⟨rfl, trivial⟩)) (V.le.keep (ag := false) (xs := [.ro _]) (ys := [.ro _]) rfl rfl ⟨rfl, trivial⟩)) (V.le.keep (ag := false) (xs := [.sc _]) (ys := [.sc _]) rfl rfl ⟨rfl, trivial⟩)) (V.le.keep (ag := false) (xs := [.sc _]) (ys := [.sc _]) rfl rfl ⟨(by first | rfl | (show Leaf.sc _ = Leaf.sc _; refine congrArg Leaf.sc ?_; first | rfl | go_num | (simp [cntAll]; done)) | (simp [cntAll]; done) | (simp; omega)), trivial⟩)) trivial trivial nil_ob (fun i j hi hj e => absurd hi (Nat.not_lt_zero i)))
      · skip   -- c1.F
        have hte : ¬ t < A.length := by simp at hc1; omega
        have ho : decide (A = B) = true := by rw [decide_eq_true_iff]; exact List.ext_getElem? fun u => by rcases Nat.lt_or_ge u t with h1 | h1; (exact hb u h1); (rw [List.getElem?_eq_none (by omega), List.getElem?_eq_none (by omega)])
        refine SV.exit ?_
        refine SV.te ?_
        refine SV.te ?_
        refine SV.bh ?_
        refine SV.tn ?_
        refine SV.seq' ?_
        refine SV.region ?_
        refine SV.op (OpL.ok (nb := 0) (ok_move (v := V.one (.sc _)) (.inr rfl) rfl) rfl (gle rfl)) rfl ?_
        refine SV.nil ?_
        refine SV.tn ?_
        refine SV.ret ?_
        apply SV.done (hf := Try.results64) (ht := rfl) (he := .inl rfl)
        case hr => exact (ResAll.cons (ResOk.tmp (ag := false) (xs := [.sc _]) rfl) ResAll.nil')
        case h2 => simp [two]
        refine ⟨rfl, ⟨?_, trivial⟩, trivial⟩ <;> (show some (T.lit (Value.bool _)) = some (T.lit (Value.bool _)); refine congrArg (fun z => some (T.lit (Value.bool z))) ?_; rw [ho])
set_option maxRecDepth 100000 in
set_option maxHeartbeats 2000000 in
theorem veqb_s (a b : BrokerD) (hA : a.fActive.length ≤ 1000000000 ∧ a.fWaiting.length ≤ 1000000000) (hB : b.fActive.length ≤ 1000000000 ∧ b.fWaiting.length ≤ 1000000000) : VC Try.prog 25 [(true, tBroker a), (true, tBroker b)] false [(false, [.lit (.bool (decide (a = b)))])] := by
  refine VC.enter Try.func25 rfl Try.ntmps25 (gle rfl) fun E hE => ?_
  refine SV.seq' ?_
  refine SV.region ?_
  refine SV.op (OpMk.ok (ok_box (kk := 0) (ag := true) (xs := [.sc _, .sc _, .ro _, .ro _]) rfl rfl rfl (fun h => by cases h) rfl rfl (gle rfl))) rfl ?_
  refine SV.op (OpMk.ok (ok_box (kk := 1) (ag := true) (xs := [.sc _, .sc _, .ro _, .ro _]) rfl rfl rfl (fun h => by cases h) rfl rfl (gle rfl))) rfl ?_
  refine SV.op (OpL.ok (nb := 2) (ok_move (v := V.one (.sc _)) (.inr rfl) rfl) rfl (gle rfl)) rfl ?_
  refine SV.nil ?_
  refine SV.tn ?_
  refine SV.seq' ?_
  refine SV.region ?_
  refine SV.op (OpL.ok (nb := 2) (ok_field_bp (b := 0) (o' := 0) (off := 0) rfl rfl fld_impl_Broker_0) rfl (gle rfl)) rfl ?_
  refine SV.op (OpL.ok (nb := 2) (ok_load_bp (b := 0) (i := 0) (ag := false) (m := 1) (ys := [.sc _]) rfl rfl rfl agg_int sz_int (fun _ => rfl) rfl rfl (gle rfl)) rfl (gle rfl)) rfl ?_
  refine SV.op (OpL.ok (nb := 2) (ok_field_bp (b := 1) (o' := 0) (off := 0) rfl rfl fld_impl_Broker_0) rfl (gle rfl)) rfl ?_
  refine SV.op (OpL.ok (nb := 2) (ok_load_bp (b := 1) (i := 0) (ag := false) (m := 1) (ys := [.sc _]) rfl rfl rfl agg_int sz_int (fun _ => rfl) rfl rfl (gle rfl)) rfl (gle rfl)) rfl ?_
  refine SV.op (OpL.ok (nb := 2) (ok_s2 (x := .tmp 6) (x' := .tmp 8) (VScal.one rfl) (VScal.one rfl) (fun ρ h1 h2 w => by go_simp; (try go_bits); with_reducible rfl) rfl) rfl (gle rfl)) rfl ?_
  refine SV.op (OpL.ok (nb := 2) (ok_move (v := V.one (.sc _)) (.inl rfl) rfl) rfl (gle rfl)) rfl ?_
  refine SV.split (d := 10) rfl (fun hg0 => ?_) (fun hg0 => ?_)
  · skip   -- g0.T
    refine SV.opY (OpL.ok (nb := 2) (ok_field_bp (b := 0) (o' := 0) (off := 1) rfl rfl fld_impl_Broker_1) rfl (gle rfl)) rfl rfl rfl (gle rfl) rfl rfl ?_
    refine SV.opY (OpL.ok (nb := 2) (ok_load_bp (b := 0) (i := 1) (ag := false) (m := 1) (ys := [.sc _]) rfl rfl rfl agg_int sz_int (fun _ => rfl) rfl rfl (gle rfl)) rfl (gle rfl)) rfl rfl rfl (gle rfl) rfl rfl ?_
    refine SV.opY (OpL.ok (nb := 2) (ok_field_bp (b := 1) (o' := 0) (off := 1) rfl rfl fld_impl_Broker_1) rfl (gle rfl)) rfl rfl rfl (gle rfl) rfl rfl ?_
    refine SV.opY (OpL.ok (nb := 2) (ok_load_bp (b := 1) (i := 1) (ag := false) (m := 1) (ys := [.sc _]) rfl rfl rfl agg_int sz_int (fun _ => rfl) rfl rfl (gle rfl)) rfl (gle rfl)) rfl rfl rfl (gle rfl) rfl rfl ?_
    refine SV.opY (OpL.ok (nb := 2) (ok_s2 (x := .tmp 12) (x' := .tmp 14) (VScal.one rfl) (VScal.one rfl) (fun ρ h1 h2 w => by go_simp; (try go_bits); with_reducible rfl) rfl) rfl (gle rfl)) rfl rfl rfl (gle rfl) rfl rfl ?_
    refine SV.op (OpL.ok (nb := 2) (ok_pickT (v := V.one (.sc _)) rfl rfl rfl) rfl (gle rfl)) rfl ?_
    refine SV.op (OpL.ok (nb := 2) (ok_move (v := V.one (.sc _)) (.inl rfl) rfl) rfl (gle rfl)) rfl ?_
    refine SV.split (d := 17) rfl (fun hg1 => ?_) (fun hg1 => ?_)
    · skip   -- g1.T
      refine SV.opY (OpL.ok (nb := 2) (ok_field_bp (b := 0) (o' := 0) (off := 2) rfl rfl fld_impl_Broker_2) rfl (gle rfl)) rfl rfl rfl (gle rfl) rfl rfl ?_
      refine SV.opY (OpL.ok (nb := 2) (ok_load_bp (b := 0) (i := 2) (ag := false) (m := 1) (ys := [.ro _]) rfl rfl rfl agg_s_impl_Client sz_s_impl_Client (fun _ => rfl) rfl rfl (gle rfl)) rfl (gle rfl)) rfl rfl rfl (gle rfl) rfl rfl ?_
      refine SV.opY (OpL.ok (nb := 2) (ok_field_bp (b := 1) (o' := 0) (off := 2) rfl rfl fld_impl_Broker_2) rfl (gle rfl)) rfl rfl rfl (gle rfl) rfl rfl ?_
      refine SV.opY (OpL.ok (nb := 2) (ok_load_bp (b := 1) (i := 2) (ag := false) (m := 1) (ys := [.ro _]) rfl rfl rfl agg_s_impl_Client sz_s_impl_Client (fun _ => rfl) rfl rfl (gle rfl)) rfl (gle rfl)) rfl rfl rfl (gle rfl) rfl rfl ?_
      refine SV.opY (OpMk.ok (ok_call (ls := [(false, [.sc _])]) rfl rfl ⟨_, _, Try.func64, rfl, by decide⟩ (vsamec_s a.fActive b.fActive (by omega) (by omega)) ⟨⟨[.ro _], rfl, ⟨rfl, trivial⟩⟩, ⟨[.ro _], rfl, ⟨rfl, trivial⟩⟩, trivial⟩ rfl (gle rfl))) rfl rfl rfl (gle rfl) rfl rfl ?_
      refine SV.op (OpL.ok (nb := 2) (ok_pickT (v := V.one (.sc _)) rfl rfl rfl) rfl (gle rfl)) rfl ?_
      refine SV.op (OpL.ok (nb := 2) (ok_move (v := V.one (.sc _)) (.inl rfl) rfl) rfl (gle rfl)) rfl ?_
      refine SV.split (d := 24) rfl (fun hg2 => ?_) (fun hg2 => ?_)
      · skip   -- g2.T
        refine SV.opY (OpL.ok (nb := 2) (ok_field_bp (b := 0) (o' := 0) (off := 3) rfl rfl fld_impl_Broker_3) rfl (gle rfl)) rfl rfl rfl (gle rfl) rfl rfl ?_
        refine SV.opY (OpL.ok (nb := 2) (ok_load_bp (b := 0) (i := 3) (ag := false) (m := 1) (ys := [.ro _]) rfl rfl rfl agg_s_impl_Client sz_s_impl_Client (fun _ => rfl) rfl rfl (gle rfl)) rfl (gle rfl)) rfl rfl rfl (gle rfl) rfl rfl ?_
        refine SV.opY (OpL.ok (nb := 2) (ok_field_bp (b := 1) (o' := 0) (off := 3) rfl rfl fld_impl_Broker_3) rfl (gle rfl)) rfl rfl rfl (gle rfl) rfl rfl ?_
        refine SV.opY (OpL.ok (nb := 2) (ok_load_bp (b := 1) (i := 3) (ag := false) (m := 1) (ys := [.ro _]) rfl rfl rfl agg_s_impl_Client sz_s_impl_Client (fun _ => rfl) rfl rfl (gle rfl)) rfl (gle rfl)) rfl rfl rfl (gle rfl) rfl rfl ?_
        refine SV.opY (OpMk.ok (ok_call (ls := [(false, [.sc _])]) rfl rfl ⟨_, _, Try.func64, rfl, by decide⟩ (vsamec_s a.fWaiting b.fWaiting (by omega) (by omega)) ⟨⟨[.ro _], rfl, ⟨rfl, trivial⟩⟩, ⟨[.ro _], rfl, ⟨rfl, trivial⟩⟩, trivial⟩ rfl (gle rfl))) rfl rfl rfl (gle rfl) rfl rfl ?_
        refine SV.op (OpL.ok (nb := 2) (ok_pickT (v := V.one (.sc _)) rfl rfl rfl) rfl (gle rfl)) rfl ?_
        refine SV.op (OpL.ok (nb := 2) (ok_move (v := V.one (.sc _)) (.inr rfl) rfl) rfl (gle rfl)) rfl ?_
        refine SV.nil ?_
        refine SV.tn ?_
        refine SV.ret ?_
        apply SV.done (hf := Try.results25) (ht := rfl) (he := .inl rfl)
        case hr => exact (ResAll.cons (ResOk.tmp (ag := false) (xs := [.sc _]) rfl) ResAll.nil')
        case h2 => simp [two]
        refine ⟨rfl, ⟨?_, trivial⟩, trivial⟩ <;> (show some (T.lit (Value.bool _)) = some (T.lit (Value.bool _)); refine congrArg (fun z => some (T.lit (Value.bool z))) ?_; (obtain ⟨a1, a2, a3, a4⟩ := a; obtain ⟨b1, b2, b3, b4⟩ := b; rw [Bool.eq_iff_iff]; simp only [BrokerD.mk.injEq, decide_eq_true_eq]; first | (simp_all; done) | (simp at *; simp_all; done) | (constructor <;> intro h <;> simp_all; done)))
      · skip   -- g2.F
        refine SV.opN rfl rfl rfl (gle rfl) rfl rfl rfl (gle rfl) ?_
        refine SV.opN rfl rfl rfl (gle rfl) rfl rfl rfl (gle rfl) ?_
        refine SV.opN rfl rfl rfl (gle rfl) rfl rfl rfl (gle rfl) ?_
        refine SV.opN rfl rfl rfl (gle rfl) rfl rfl rfl (gle rfl) ?_
        refine SV.opN rfl rfl rfl (gle rfl) rfl rfl rfl (gle rfl) ?_
        refine SV.op (OpL.ok (nb := 2) (ok_pickF (v := V.one (.sc _)) rfl rfl rfl) rfl (gle rfl)) rfl ?_
        refine SV.op (OpL.ok (nb := 2) (ok_move (v := V.one (.sc _)) (.inr rfl) rfl) rfl (gle rfl)) rfl ?_
        refine SV.nil ?_
        refine SV.tn ?_
        refine SV.ret ?_
        apply SV.done (hf := Try.results25) (ht := rfl) (he := .inl rfl)
        case hr => exact (ResAll.cons (ResOk.tmp (ag := false) (xs := [.sc _]) rfl) ResAll.nil')
        case h2 => simp [two]
        refine ⟨rfl, ⟨?_, trivial⟩, trivial⟩ <;> (show some (T.lit (Value.bool _)) = some (T.lit (Value.bool _)); refine congrArg (fun z => some (T.lit (Value.bool z))) ?_; (obtain ⟨a1, a2, a3, a4⟩ := a; obtain ⟨b1, b2, b3, b4⟩ := b; rw [Bool.eq_iff_iff]; simp only [BrokerD.mk.injEq, decide_eq_true_eq]; first | (simp_all; done) | (simp at *; simp_all; done) | (constructor <;> intro h <;> simp_all; done)))
    · skip   -- g1.F
      refine SV.opN rfl rfl rfl (gle rfl) rfl rfl rfl (gle rfl) ?_
      refine SV.opN rfl rfl rfl (gle rfl) rfl rfl rfl (gle rfl) ?_
      refine SV.opN rfl rfl rfl (gle rfl) rfl rfl rfl (gle rfl) ?_
      refine SV.opN rfl rfl rfl (gle rfl) rfl rfl rfl (gle rfl) ?_
      refine SV.opN rfl rfl rfl (gle rfl) rfl rfl rfl (gle rfl) ?_
      refine SV.op (OpL.ok (nb := 2) (ok_pickF (v := V.one (.sc _)) rfl rfl rfl) rfl (gle rfl)) rfl ?_
      refine SV.op (OpL.ok (nb := 2) (ok_move (v := V.one (.sc _)) (.inl rfl) rfl) rfl (gle rfl)) rfl ?_
      refine SV.split (d := 24) rfl (fun hg3 => ?_) (fun hg3 => ?_)
      · skip   -- g3.T
        refine SV.opY (OpL.ok (nb := 2) (ok_field_bp (b := 0) (o' := 0) (off := 3) rfl rfl fld_impl_Broker_3) rfl (gle rfl)) rfl rfl rfl (gle rfl) rfl rfl ?_
        refine SV.opY (OpL.ok (nb := 2) (ok_load_bp (b := 0) (i := 3) (ag := false) (m := 1) (ys := [.ro _]) rfl rfl rfl agg_s_impl_Client sz_s_impl_Client (fun _ => rfl) rfl rfl (gle rfl)) rfl (gle rfl)) rfl rfl rfl (gle rfl) rfl rfl ?_
        refine SV.opY (OpL.ok (nb := 2) (ok_field_bp (b := 1) (o' := 0) (off := 3) rfl rfl fld_impl_Broker_3) rfl (gle rfl)) rfl rfl rfl (gle rfl) rfl rfl ?_
        refine SV.opY (OpL.ok (nb := 2) (ok_load_bp (b := 1) (i := 3) (ag := false) (m := 1) (ys := [.ro _]) rfl rfl rfl agg_s_impl_Client sz_s_impl_Client (fun _ => rfl) rfl rfl (gle rfl)) rfl (gle rfl)) rfl rfl rfl (gle rfl) rfl rfl ?_
        refine SV.opY (OpMk.ok (ok_call (ls := [(false, [.sc _])]) rfl rfl ⟨_, _, Try.func64, rfl, by decide⟩ (vsamec_s a.fWaiting b.fWaiting (by omega) (by omega)) ⟨⟨[.ro _], rfl, ⟨rfl, trivial⟩⟩, ⟨[.ro _], rfl, ⟨rfl, trivial⟩⟩, trivial⟩ rfl (gle rfl))) rfl rfl rfl (gle rfl) rfl rfl ?_
        refine SV.op (OpL.ok (nb := 2) (ok_pickT (v := V.one (.sc _)) rfl rfl rfl) rfl (gle rfl)) rfl ?_
        refine SV.op (OpL.ok (nb := 2) (ok_move (v := V.one (.sc _)) (.inr rfl) rfl) rfl (gle rfl)) rfl ?_
        refine SV.nil ?_
        refine SV.tn ?_
        refine SV.ret ?_
        apply SV.done (hf := Try.results25) (ht := rfl) (he := .inl rfl)
        case hr => exact (ResAll.cons (ResOk.tmp (ag := false) (xs := [.sc _]) rfl) ResAll.nil')
        case h2 => simp [two]
        refine ⟨rfl, ⟨?_, trivial⟩, trivial⟩ <;> (show some (T.lit (Value.bool _)) = some (T.lit (Value.bool _)); refine congrArg (fun z => some (T.lit (Value.bool z))) ?_; (obtain ⟨a1, a2, a3, a4⟩ := a; obtain ⟨b1, b2, b3, b4⟩ := b; rw [Bool.eq_iff_iff]; simp only [BrokerD.mk.injEq, decide_eq_true_eq]; first | (simp_all; done) | (simp at *; simp_all; done) | (constructor <;> intro h <;> simp_all; done)))
      · skip   -- g3.F
        refine SV.opN rfl rfl rfl (gle rfl) rfl rfl rfl (gle rfl) ?_
        refine SV.opN rfl rfl rfl (gle rfl) rfl rfl rfl (gle rfl) ?_
        refine SV.opN rfl rfl rfl (gle rfl) rfl rfl rfl (gle rfl) ?_
        refine SV.opN rfl rfl rfl (gle rfl) rfl rfl rfl (gle rfl) ?_
        refine SV.opN rfl rfl rfl (gle rfl) rfl rfl rfl (gle rfl) ?_
        refine SV.op (OpL.ok (nb := 2) (ok_pickF (v := V.one (.sc _)) rfl rfl rfl) rfl (gle rfl)) rfl ?_
        refine SV.op (OpL.ok (nb := 2) (ok_move (v := V.one (.sc _)) (.inr rfl) rfl) rfl (gle rfl)) rfl ?_
        refine SV.nil ?_
        refine SV.tn ?_
        refine SV.ret ?_
        apply SV.done (hf := Try.results25) (ht := rfl) (he := .inl rfl)
        case hr => exact (ResAll.cons (ResOk.tmp (ag := false) (xs := [.sc _]) rfl) ResAll.nil')
        case h2 => simp [two]
        refine ⟨rfl, ⟨?_, trivial⟩, trivial⟩ <;> (show some (T.lit (Value.bool _)) = some (T.lit (Value.bool _)); refine congrArg (fun z => some (T.lit (Value.bool z))) ?_; (obtain ⟨a1, a2, a3, a4⟩ := a; obtain ⟨b1, b2, b3, b4⟩ := b; rw [Bool.eq_iff_iff]; simp only [BrokerD.mk.injEq, decide_eq_true_eq]; first | (simp_all; done) | (simp at *; simp_all; done) | (constructor <;> intro h <;> simp_all; done)))
  · skip   -- g0.F
    refine SV.opN rfl rfl rfl (gle rfl) rfl rfl rfl (gle rfl) ?_
    refine SV.opN rfl rfl rfl (gle rfl) rfl rfl rfl (gle rfl) ?_
    refine SV.opN rfl rfl rfl (gle rfl) rfl rfl rfl (gle rfl) ?_
    refine SV.opN rfl rfl rfl (gle rfl) rfl rfl rfl (gle rfl) ?_
    refine SV.opN rfl rfl rfl (gle rfl) rfl rfl rfl (gle rfl) ?_
    refine SV.op (OpL.ok (nb := 2) (ok_pickF (v := V.one (.sc _)) rfl rfl rfl) rfl (gle rfl)) rfl ?_
    refine SV.op (OpL.ok (nb := 2) (ok_move (v := V.one (.sc _)) (.inl rfl) rfl) rfl (gle rfl)) rfl ?_
    refine SV.split (d := 17) rfl (fun hg4 => ?_) (fun hg4 => ?_)
    · skip   -- g4.T
      refine SV.opY (OpL.ok (nb := 2) (ok_field_bp (b := 0) (o' := 0) (off := 2) rfl rfl fld_impl_Broker_2) rfl (gle rfl)) rfl rfl rfl (gle rfl) rfl rfl ?_
      refine SV.opY (OpL.ok (nb := 2) (ok_load_bp (b := 0) (i := 2) (ag := false) (m := 1) (ys := [.ro _]) rfl rfl rfl agg_s_impl_Client sz_s_impl_Client (fun _ => rfl) rfl rfl (gle rfl)) rfl (gle rfl)) rfl rfl rfl (gle rfl) rfl rfl ?_
      refine SV.opY (OpL.ok (nb := 2) (ok_field_bp (b := 1) (o' := 0) (off := 2) rfl rfl fld_impl_Broker_2) rfl (gle rfl)) rfl rfl rfl (gle rfl) rfl rfl ?_
      refine SV.opY (OpL.ok (nb := 2) (ok_load_bp (b := 1) (i := 2) (ag := false) (m := 1) (ys := [.ro _]) rfl rfl rfl agg_s_impl_Client sz_s_impl_Client (fun _ => rfl) rfl rfl (gle rfl)) rfl (gle rfl)) rfl rfl rfl (gle rfl) rfl rfl ?_
      refine SV.opY (OpMk.ok (ok_call (ls := [(false, [.sc _])]) rfl rfl ⟨_, _, Try.func64, rfl, by decide⟩ (vsamec_s a.fActive b.fActive (by omega) (by omega)) ⟨⟨[.ro _], rfl, ⟨rfl, trivial⟩⟩, ⟨[.ro _], rfl, ⟨rfl, trivial⟩⟩, trivial⟩ rfl (gle rfl))) rfl rfl rfl (gle rfl) rfl rfl ?_
      refine SV.op (OpL.ok (nb := 2) (ok_pickT (v := V.one (.sc _)) rfl rfl rfl) rfl (gle rfl)) rfl ?_
      refine SV.op (OpL.ok (nb := 2) (ok_move (v := V.one (.sc _)) (.inl rfl) rfl) rfl (gle rfl)) rfl ?_
      refine SV.split (d := 24) rfl (fun hg5 => ?_) (fun hg5 => ?_)
      · skip   -- g5.T
        refine SV.opY (OpL.ok (nb := 2) (ok_field_bp (b := 0) (o' := 0) (off := 3) rfl rfl fld_impl_Broker_3) rfl (gle rfl)) rfl rfl rfl (gle rfl) rfl rfl ?_
        refine SV.opY (OpL.ok (nb := 2) (ok_load_bp (b := 0) (i := 3) (ag := false) (m := 1) (ys := [.ro _]) rfl rfl rfl agg_s_impl_Client sz_s_impl_Client (fun _ => rfl) rfl rfl (gle rfl)) rfl (gle rfl)) rfl rfl rfl (gle rfl) rfl rfl ?_
        refine SV.opY (OpL.ok (nb := 2) (ok_field_bp (b := 1) (o' := 0) (off := 3) rfl rfl fld_impl_Broker_3) rfl (gle rfl)) rfl rfl rfl (gle rfl) rfl rfl ?_
        refine SV.opY (OpL.ok (nb := 2) (ok_load_bp (b := 1) (i := 3) (ag := false) (m := 1) (ys := [.ro _]) rfl rfl rfl agg_s_impl_Client sz_s_impl_Client (fun _ => rfl) rfl rfl (gle rfl)) rfl (gle rfl)) rfl rfl rfl (gle rfl) rfl rfl ?_
        refine SV.opY (OpMk.ok (ok_call (ls := [(false, [.sc _])]) rfl rfl ⟨_, _, Try.func64, rfl, by decide⟩ (vsamec_s a.fWaiting b.fWaiting (by omega) (by omega)) ⟨⟨[.ro _], rfl, ⟨rfl, trivial⟩⟩, ⟨[.ro _], rfl, ⟨rfl, trivial⟩⟩, trivial⟩ rfl (gle rfl))) rfl rfl rfl (gle rfl) rfl rfl ?_
        refine SV.op (OpL.ok (nb := 2) (ok_pickT (v := V.one (.sc _)) rfl rfl rfl) rfl (gle rfl)) rfl ?_
        refine SV.op (OpL.ok (nb := 2) (ok_move (v := V.one (.sc _)) (.inr rfl) rfl) rfl (gle rfl)) rfl ?_
        refine SV.nil ?_
        refine SV.tn ?_
        refine SV.ret ?_
        apply SV.done (hf := Try.results25) (ht := rfl) (he := .inl rfl)
        case hr => exact (ResAll.cons (ResOk.tmp (ag := false) (xs := [.sc _]) rfl) ResAll.nil')
        case h2 => simp [two]
        refine ⟨rfl, ⟨?_, trivial⟩, trivial⟩ <;> (show some (T.lit (Value.bool _)) = some (T.lit (Value.bool _)); refine congrArg (fun z => some (T.lit (Value.bool z))) ?_; (obtain ⟨a1, a2, a3, a4⟩ := a; obtain ⟨b1, b2, b3, b4⟩ := b; rw [Bool.eq_iff_iff]; simp only [BrokerD.mk.injEq, decide_eq_true_eq]; first | (simp_all; done) | (simp at *; simp_all; done) | (constructor <;> intro h <;> simp_all; done)))
      · skip   -- g5.F
        refine SV.opN rfl rfl rfl (gle rfl) rfl rfl rfl (gle rfl) ?_
        refine SV.opN rfl rfl rfl (gle rfl) rfl rfl rfl (gle rfl) ?_
        refine SV.opN rfl rfl rfl (gle rfl) rfl rfl rfl (gle rfl) ?_
        refine SV.opN rfl rfl rfl (gle rfl) rfl rfl rfl (gle rfl) ?_
        refine SV.opN rfl rfl rfl (gle rfl) rfl rfl rfl (gle rfl) ?_
        refine SV.op (OpL.ok (nb := 2) (ok_pickF (v := V.one (.sc _)) rfl rfl rfl) rfl (gle rfl)) rfl ?_
        refine SV.op (OpL.ok (nb := 2) (ok_move (v := V.one (.sc _)) (.inr rfl) rfl) rfl (gle rfl)) rfl ?_
        refine SV.nil ?_
        refine SV.tn ?_
        refine SV.ret ?_
        apply SV.done (hf := Try.results25) (ht := rfl) (he := .inl rfl)
        case hr => exact (ResAll.cons (ResOk.tmp (ag := false) (xs := [.sc _]) rfl) ResAll.nil')
        case h2 => simp [two]
        refine ⟨rfl, ⟨?_, trivial⟩, trivial⟩ <;> (show some (T.lit (Value.bool _)) = some (T.lit (Value.bool _)); refine congrArg (fun z => some (T.lit (Value.bool z))) ?_; (obtain ⟨a1, a2, a3, a4⟩ := a; obtain ⟨b1, b2, b3, b4⟩ := b; rw [Bool.eq_iff_iff]; simp only [BrokerD.mk.injEq, decide_eq_true_eq]; first | (simp_all; done) | (simp at *; simp_all; done) | (constructor <;> intro h <;> simp_all; done)))
    · skip   -- g4.F
      refine SV.opN rfl rfl rfl (gle rfl) rfl rfl rfl (gle rfl) ?_
      refine SV.opN rfl rfl rfl (gle rfl) rfl rfl rfl (gle rfl) ?_
      refine SV.opN rfl rfl rfl (gle rfl) rfl rfl rfl (gle rfl) ?_
      refine SV.opN rfl rfl rfl (gle rfl) rfl rfl rfl (gle rfl) ?_
      refine SV.opN rfl rfl rfl (gle rfl) rfl rfl rfl (gle rfl) ?_
      refine SV.op (OpL.ok (nb := 2) (ok_pickF (v := V.one (.sc _)) rfl rfl rfl) rfl (gle rfl)) rfl ?_
      refine SV.op (OpL.ok (nb := 2) (ok_move (v := V.one (.sc _)) (.inl rfl) rfl) rfl (gle rfl)) rfl ?_
      refine SV.split (d := 24) rfl (fun hg6 => ?_) (fun hg6 => ?_)
      · skip   -- g6.T
        refine SV.opY (OpL.ok (nb := 2) (ok_field_bp (b := 0) (o' := 0) (off := 3) rfl rfl fld_impl_Broker_3) rfl (gle rfl)) rfl rfl rfl (gle rfl) rfl rfl ?_
        refine SV.opY (OpL.ok (nb := 2) (ok_load_bp (b := 0) (i := 3) (ag := false) (m := 1) (ys := [.ro _]) rfl rfl rfl agg_s_impl_Client sz_s_impl_Client (fun _ => rfl) rfl rfl (gle rfl)) rfl (gle rfl)) rfl rfl rfl (gle rfl) rfl rfl ?_
        refine SV.opY (OpL.ok (nb := 2) (ok_field_bp (b := 1) (o' := 0) (off := 3) rfl rfl fld_impl_Broker_3) rfl (gle rfl)) rfl rfl rfl (gle rfl) rfl rfl ?_
        refine SV.opY (OpL.ok (nb := 2) (ok_load_bp (b := 1) (i := 3) (ag := false) (m := 1) (ys := [.ro _]) rfl rfl rfl agg_s_impl_Client sz_s_impl_Client (fun _ => rfl) rfl rfl (gle rfl)) rfl (gle rfl)) rfl rfl rfl (gle rfl) rfl rfl ?_
        refine SV.opY (OpMk.ok (ok_call (ls := [(false, [.sc _])]) rfl rfl ⟨_, _, Try.func64, rfl, by decide⟩ (vsamec_s a.fWaiting b.fWaiting (by omega) (by omega)) ⟨⟨[.ro _], rfl, ⟨rfl, trivial⟩⟩, ⟨[.ro _], rfl, ⟨rfl, trivial⟩⟩, trivial⟩ rfl (gle rfl))) rfl rfl rfl (gle rfl) rfl rfl ?_
        refine SV.op (OpL.ok (nb := 2) (ok_pickT (v := V.one (.sc _)) rfl rfl rfl) rfl (gle rfl)) rfl ?_
        refine SV.op (OpL.ok (nb := 2) (ok_move (v := V.one (.sc _)) (.inr rfl) rfl) rfl (gle rfl)) rfl ?_
        refine SV.nil ?_
        refine SV.tn ?_
        refine SV.ret ?_
        apply SV.done (hf := Try.results25) (ht := rfl) (he := .inl rfl)
        case hr => exact (ResAll.cons (ResOk.tmp (ag := false) (xs := [.sc _]) rfl) ResAll.nil')
        case h2 => simp [two]
        refine ⟨rfl, ⟨?_, trivial⟩, trivial⟩ <;> (show some (T.lit (Value.bool _)) = some (T.lit (Value.bool _)); refine congrArg (fun z => some (T.lit (Value.bool z))) ?_; (obtain ⟨a1, a2, a3, a4⟩ := a; obtain ⟨b1, b2, b3, b4⟩ := b; rw [Bool.eq_iff_iff]; simp only [BrokerD.mk.injEq, decide_eq_true_eq]; first | (simp_all; done) | (simp at *; simp_all; done) | (constructor <;> intro h <;> simp_all; done)))
      · skip   -- g6.F
        refine SV.opN rfl rfl rfl (gle rfl) rfl rfl rfl (gle rfl) ?_
        refine SV.opN rfl rfl rfl (gle rfl) rfl rfl rfl (gle rfl) ?_
        refine SV.opN rfl rfl rfl (gle rfl) rfl rfl rfl (gle rfl) ?_
        refine SV.opN rfl rfl rfl (gle rfl) rfl rfl rfl (gle rfl) ?_
        refine SV.opN rfl rfl rfl (gle rfl) rfl rfl rfl (gle rfl) ?_
        refine SV.op (OpL.ok (nb := 2) (ok_pickF (v := V.one (.sc _)) rfl rfl rfl) rfl (gle rfl)) rfl ?_
        refine SV.op (OpL.ok (nb := 2) (ok_move (v := V.one (.sc _)) (.inr rfl) rfl) rfl (gle rfl)) rfl ?_
        refine SV.nil ?_
        refine SV.tn ?_
        refine SV.ret ?_
        apply SV.done (hf := Try.results25) (ht := rfl) (he := .inl rfl)
        case hr => exact (ResAll.cons (ResOk.tmp (ag := false) (xs := [.sc _]) rfl) ResAll.nil')
        case h2 => simp [two]
        refine ⟨rfl, ⟨?_, trivial⟩, trivial⟩ <;> (show some (T.lit (Value.bool _)) = some (T.lit (Value.bool _)); refine congrArg (fun z => some (T.lit (Value.bool z))) ?_; (obtain ⟨a1, a2, a3, a4⟩ := a; obtain ⟨b1, b2, b3, b4⟩ := b; rw [Bool.eq_iff_iff]; simp only [BrokerD.mk.injEq, decide_eq_true_eq]; first | (simp_all; done) | (simp at *; simp_all; done) | (constructor <;> intro h <;> simp_all; done)))
end Go.Proofs.Ytfghhjcfmmhacaa
/- What an argument's slice is as a value: opened, it is a plain value that may be stored and copied; shut, it may be read as the tree again. -/
namespace Go.Proofs.Ytfghhjcfmmhacaa.V
open Go Go.RowKit
set_option linter.unusedVariables false
variable {P : Program} {E : Env} {N : Nat} {σ : VS} {K : Act → World → Prop}
theorem Inn.move {ok : Nat → Prop} {w w' : World} {t : T} {v : Value} (h : Inn ok w t v) (hk : ∀ b, ok b → b < w.heap.size → b < w'.heap.size ∧ w'.heap[b]? = w.heap[b]?) : Inn ok w' t v := by
  induction h with
  | any h => exact .any h
  | lit h => exact .lit h
  | @seq ty es a c n hp hz hn hc hm h0 b o us ha hb hcell hr ih =>
    refine .seq n hp hz hn hc hm h0 b o us ha (fun h => ?_) (fun k e j t h1 h2 => ?_) ih
    · obtain ⟨h1, h2⟩ := hb h
      exact ⟨h1, (hk b h1 h2).1⟩
    · have hne : es ≠ [] := fun h => by rw [h] at h1; simp at h1
      obtain ⟨h3, h4⟩ := hb hne
      exact (World.cell?_of_block (hk b h3 h4).2).trans (hcell k e j t h1 h2)
def Reads (E : Env) (t : T) (u : Value) : Prop := ∀ w, Same E E.w0 w → Inn E.old w t u
theorem Rel.reads {a : Act} {w : World} {G : Ghost} (h : Rel E N σ a w G) {t : T} {u : Value} (hu : Inn E.old w t u) : Reads E t u := fun w' hs => hu.move fun b hb _ => ⟨Nat.lt_of_lt_of_le hb.1 hs.size, (hs.block b hb).trans (h.below.block b hb).symm⟩
theorem Rel.reput {a : Act} {w : World} {G : Ghost} (h : Rel E N σ a w G) {d : Nat} {v : V} (hN : d < N) (hv : VHolds G σ E w v (a.tmps.getD d undef)) : Rel E N (σ.put d v) a w G := by
  have k := h.put (d := d) (v := v) (u := a.tmps.getD d undef) hN hv
  have e : a.put (some d) (a.tmps.getD d undef) = a := by
    have hs' : d < a.tmps.size := by rw [h.nsz]; exact hN
    cases a with
    | mk tmps defers =>
      have : tmps.setIfInBounds d (tmps.getD d undef) = tmps := by
        apply Array.ext_getElem?
        intro i
        rw [Array.getElem?_setIfInBounds]
        split
        · rename_i hi; subst hi
          simp at hs'
          simp [hs']
        · rfl
      show (⟨tmps.setIfInBounds d (tmps.getD d undef), defers⟩ : Act) = ⟨tmps, defers⟩
      rw [this]
  rwa [e] at k
theorem SV.openRo {d : Nat} {t : T} (hs : σ.tm d = V.one (.ro t)) (hN : d < N) (k : ∀ u, Reads E t u → SV E N (σ.put d (V.one (.sc u))) K) : SV E N σ K := fun a w G h => by
  have h1 := h.tmps d
  rw [hs, vone] at h1
  have h2 : Inn E.old w t (a.tmps.getD d undef) := h1.1
  exact k _ (h.reads h2) a w G (h.reput hN (vone.2 ⟨rfl, .inr h2.one⟩))
theorem SV.shutRo {d : Nat} {t : T} {u : Value} (hs : σ.tm d = V.one (.sc u)) (hu : Reads E t u) (hN : d < N) (k : SV E N (σ.put d (V.one (.ro t))) K) : SV E N σ K := fun a w G h => by
  have h1 := h.tmps d
  rw [hs, vone] at h1
  have h2 : a.tmps.getD d undef = u := h1.1
  exact k a w G (h.reput hN (vone.2 ⟨by rw [h2]; exact hu w h.below, .inr (by rw [h2]; exact (hu w h.below).one)⟩))
theorem DW.shutRo {τ : VS} {fr : List Nat} {cl : Bool} {Ψ : World → Ghost → Act → World → Prop} {d : Nat} {t : T} {u : Value} (hs : σ.tm d = V.one (.sc u)) (hu : Reads E t u) (hN : d < N) (k : DW E N τ fr cl (σ.put d (V.one (.ro t))) Ψ) : DW E N τ fr cl σ Ψ := fun ws Gs a w G h hl => by
  have h1 := h.tmps d
  rw [hs, vone] at h1
  have h2 : a.tmps.getD d undef = u := h1.1
  exact k ws Gs a w G (h.reput hN (vone.2 ⟨by rw [h2]; exact hu w h.below, .inr (by rw [h2]; exact (hu w h.below).one)⟩)) hl.put
end Go.Proofs.Ytfghhjcfmmhacaa.V
/- Operations that are passed over because the operation that guards them was passed over. -/
namespace Go.Proofs.Ytfghhjcfmmhacaa.V
open Go Go.RowKit
set_option linter.unusedVariables false
variable {P : Program} {E : Env} {N nb : Nat} {σ σ' τ : VS} {o : Oper} {a : Act} {w : World} {G : Ghost} {Q : Exit → Act → World → Prop} {K : Act → World → Prop}
abbrev V.no : V := ⟨true, []⟩
theorem vno {G : Ghost} {E : Env} {w : World} {u : Value} : VHolds G σ E w V.no u ↔ u = undef := by
  constructor
  · rintro ⟨uss, h1, h2, -⟩
    match uss, h1 with
    | [], _ => exact h2
  · rintro rfl
    exact ⟨[], rfl, rfl, fun c ag xs us h => by simp at h⟩
theorem yielded_no {ops : Array Oper} {j d : Nat} {oj : Oper} (h : Rel E N σ a w G) (hj : ops[j]? = some oj) (hd : oj.dst = some d) (hdN : d < N) (hv : σ.tm d = V.no) : yielded ops a.tmps j = none := by
  have h1 : a.tmps[d]? = some undef := by
    have h2 := h.tmps d
    rw [hv, vno] at h2
    have h4 : d < a.tmps.size := by rw [h.nsz]; exact hdN
    simp only [Array.getD_eq_getD_getElem?] at h2
    rw [Array.getElem?_eq_getElem h4] at h2 ⊢
    simpa using h2
  simp [yielded, hj, hd, h1, undef]
theorem DW.qNu {l : List Oper} {zs : List Nat} {ps : Pl} {fr : List Nat} {cl : Bool} {i j d d' : Nat} {oj : Oper} {b c : Bool} (ho : nthO l i = some o) (hg : o.guard = some (j, b)) (hj : l.toArray[j]? = some oj) (hd : oj.dst = some d) (hdN : d < N) (hv : σ.tm d = V.one (.sc (.bool c))) (hc : c = !b) (hd' : o.dst = some d') (hdN' : d' < N) (hQ : ∀ c (a : Act) v w, Q (.panic c) (a.put o.dst v) w → Q (.panic c) a w)
    (k : DW E N τ fr cl (σ.put d' V.no) fun ws Gs a w => wpPi P l.toArray Q (SW E τ ws Gs) zs ps a w) : DW E N τ fr cl σ fun ws Gs a w => wpPi P l.toArray Q (SW E τ ws Gs) zs (.q i ps) a w := fun ws Gs a w G hr hl => by
  refine pi_pass ho (fun c a w => hQ c a undef w) ?_ ?_
  · have := yielded_at hr hj hd hdN hv
    cases b <;> simp [Region.wanted, hg, this, hc]
  · rw [hd']
    exact k ws Gs _ w G (hr.put hdN' (vno.2 rfl)) hl.put
theorem DW.qNN {l : List Oper} {zs : List Nat} {ps : Pl} {fr : List Nat} {cl : Bool} {i j d d' : Nat} {oj : Oper} {b : Bool} (ho : nthO l i = some o) (hg : o.guard = some (j, b)) (hj : l.toArray[j]? = some oj) (hd : oj.dst = some d) (hdN : d < N) (hv : σ.tm d = V.no) (hd' : o.dst = some d') (hdN' : d' < N) (hQ : ∀ c (a : Act) v w, Q (.panic c) (a.put o.dst v) w → Q (.panic c) a w)
    (k : DW E N τ fr cl (σ.put d' V.no) fun ws Gs a w => wpPi P l.toArray Q (SW E τ ws Gs) zs ps a w) : DW E N τ fr cl σ fun ws Gs a w => wpPi P l.toArray Q (SW E τ ws Gs) zs (.q i ps) a w := fun ws Gs a w G hr hl => by
  refine pi_pass ho (fun c a w => hQ c a undef w) ?_ ?_
  · have := yielded_no hr hj hd hdN hv
    simp [Region.wanted, hg, this]
  · rw [hd']
    exact k ws Gs _ w G (hr.put hdN' (vno.2 rfl)) hl.put
theorem DW.mNN {l : List Oper} {zs : List Nat} {ps : Pl} {fr : List Nat} {cl : Bool} {i j d d' : Nat} {oj : Oper} {b : Bool} (ho : nthO l i = some o) (hg : o.guard = some (j, b)) (hj : l.toArray[j]? = some oj) (hd : oj.dst = some d) (hdN : d < N) (hv : σ.tm d = V.no) (hd' : o.dst = some d') (hdN' : d' < N)
    (k : DW E N τ fr cl (σ.put d' V.no) fun ws Gs a w => wpPi P l.toArray Q (SW E τ ws Gs) zs ps a w) : DW E N τ fr cl σ fun ws Gs a w => wpPi P l.toArray Q (SW E τ ws Gs) zs (.m i ps) a w := fun ws Gs a w G hr hl => by
  refine pi_step ho fun K hK => ?_
  have hw : Region.wanted o (yielded l.toArray a.tmps) = false := by
    have := yielded_no hr hj hd hdN hv
    simp [Region.wanted, hg, this]
  rw [if_neg (by rw [hw]; simp)]
  refine hK.out _ w hl.same fun _ => ?_
  rw [hd']
  exact k ws Gs _ w G (hr.put hdN' (vno.2 rfl)) hl.put
end Go.Proofs.Ytfghhjcfmmhacaa.V
