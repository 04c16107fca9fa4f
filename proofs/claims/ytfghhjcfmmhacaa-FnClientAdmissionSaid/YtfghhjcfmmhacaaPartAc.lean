/- Texts joined: BrokerR BrokerS InT VQ BrkA BrkB BrokerV VFg VRo VNo BrkV BrokerW. -/
import Derived.Test.YtfghhjcfmmhacaaPartAb
set_option linter.unusedSimpArgs false
set_option linter.unusedVariables false
/- Brokers as plain mathematics: removing a client, and what the grants of the others become; no function of program or reference is walked here. -/
namespace Go.Proofs.Ytfghhjcfmmhacaa
open Go.RowKit
set_option linter.unusedVariables false
namespace BrokerD
/-! ### A client by ID -/
theorem at_some {l : List ClientD} {id : Int} {t : Nat} (ht : t < l.length) (hl : l[t].fID = id) (hb : ∀ u c, u < t → l[u]? = some c → c.fID ≠ id) : at? l id = some t := by
  unfold at?
  rw [List.findIdx?_eq_some_iff_getElem]
  refine ⟨ht, by simpa using hl, fun j hj => ?_⟩
  have := hb j l[j] hj (List.getElem?_eq_getElem (Nat.lt_trans hj ht))
  simpa using this
theorem at_none {l : List ClientD} {id : Int} (hb : ∀ c ∈ l, c.fID ≠ id) : at? l id = none := by
  unfold at?
  rw [List.findIdx?_eq_none_iff]
  exact fun c hc => by simpa using hb c hc
theorem of_at {l : List ClientD} {id : Int} {k : Nat} (h : at? l id = some k) : ∃ c, l[k]? = some c ∧ c.fID = id ∧ k < l.length := by
  unfold at? at h
  rw [List.findIdx?_eq_some_iff_getElem] at h
  obtain ⟨hk, h1, -⟩ := h
  exact ⟨l[k], List.getElem?_eq_getElem hk, by simpa using h1, hk⟩
theorem of_at_none {l : List ClientD} {id : Int} (h : at? l id = none) : ∀ c ∈ l, c.fID ≠ id := by
  unfold at? at h
  rw [List.findIdx?_eq_none_iff] at h
  exact fun c hc => by simpa using h c hc
theorem atI_some {l : List ClientD} {id : Int} {k : Nat} (h : at? l id = some k) : atI l id = k := by unfold atI; rw [h]
theorem atI_none {l : List ClientD} {id : Int} (h : at? l id = none) : atI l id = -1 := by unfold atI; rw [h]
theorem at_self {n : Int} {l : List ClientD} (h : OkL n l) {t : Nat} (ht : t < l.length) : at? l l[t].fID = some t := at_some ht rfl fun u c hu hc => by
  have hul : u < l.length := Nat.lt_trans hu ht
  rw [List.getElem?_eq_getElem hul] at hc
  cases hc
  exact Int.ne_of_lt (List.pairwise_iff_getElem.1 h.asc u t hul ht hu)
/-! ### Lists with one less, with one more -/
theorem OkL.sub {n : Int} {l m : List ClientD} (h : OkL n l) (hs : m.Sublist l) : OkL n m := ⟨fun c hc => h.each c (hs.subset hc), h.asc.sublist hs⟩
theorem OkL.erase {n : Int} {l : List ClientD} (h : OkL n l) (k : Nat) : OkL n (l.eraseIdx k) := h.sub (List.eraseIdx_sublist l k)
theorem erase_ne {n : Int} {l : List ClientD} (h : OkL n l) {k : Nat} (hk : k < l.length) : ∀ c ∈ l.eraseIdx k, c.fID ≠ l[k].fID := fun c hc => by
  obtain ⟨j, hjk, hj⟩ := List.mem_eraseIdx_iff_getElem.1 hc
  obtain ⟨hne, hl⟩ := hj
  rcases Nat.lt_or_ge j k with h1 | h1
  · rw [← hl]
    exact Int.ne_of_lt (List.pairwise_iff_getElem.1 h.asc j k hjk hk h1)
  · rw [← hl]
    exact (Int.ne_of_lt (List.pairwise_iff_getElem.1 h.asc k j hk hjk (by omega))).symm
theorem mem_put {l : List ClientD} {c d : ClientD} : d ∈ put l c ↔ d = c ∨ d ∈ l := by
  unfold put
  rw [List.mem_append, List.mem_cons]
  constructor
  · rintro (h | h | h)
    · exact .inr ((List.takeWhile_sublist _).subset h)
    · exact .inl h
    · exact .inr ((List.dropWhile_sublist _).subset h)
  · rintro (h | h)
    · exact .inr (.inl h)
    · rw [← List.takeWhile_append_dropWhile (p := fun d => decide (d.fID < c.fID)) (l := l), List.mem_append] at h
      rcases h with h | h
      · exact .inl h
      · exact .inr (.inr h)
theorem put_length (l : List ClientD) (c : ClientD) : (put l c).length = l.length + 1 := by
  unfold put
  rw [List.length_append, List.length_cons]
  have := congrArg List.length (List.takeWhile_append_dropWhile (p := fun d => decide (d.fID < c.fID)) (l := l))
  rw [List.length_append] at this
  omega
theorem takeWhile_all {p : ClientD → Bool} : ∀ {l : List ClientD}, ∀ c ∈ l.takeWhile p, p c = true
  | [], c, h => by cases h
  | a :: l, c, h => by
    rw [List.takeWhile_cons] at h
    split at h
    · rename_i hp
      rcases List.mem_cons.1 h with rfl | h
      · exact hp
      · exact takeWhile_all c h
    · cases h
theorem drop_above {c : ClientD} : ∀ {l : List ClientD}, l.Pairwise (fun a b => a.fID < b.fID) → (∀ d ∈ l, d.fID ≠ c.fID) → ∀ d ∈ l.dropWhile (fun d => decide (d.fID < c.fID)), c.fID < d.fID
  | [], _, _, d, h => by cases h
  | a :: l, hp, hn, d, h => by
    rw [List.dropWhile_cons] at h
    split at h
    · exact drop_above (List.pairwise_cons.1 hp).2 (fun d hd => hn d (List.mem_cons_of_mem _ hd)) d h
    · rename_i ha
      have h1 : c.fID < a.fID := by
        have h2 := hn a (List.mem_cons_self ..)
        have h3 : ¬ a.fID < c.fID := by simpa using ha
        omega
      rcases List.mem_cons.1 h with rfl | h
      · exact h1
      · exact Int.lt_trans h1 ((List.pairwise_cons.1 hp).1 d h)
theorem OkL.put {n : Int} {l : List ClientD} {c : ClientD} (h : OkL n l) (hc : okC n c = true) (hn : ∀ d ∈ l, d.fID ≠ c.fID) : OkL n (put l c) := ⟨fun d hd => by
  rcases mem_put.1 hd with rfl | hd
  · exact hc
  · exact h.each d hd, by
  unfold BrokerD.put
  refine List.pairwise_append.2 ⟨h.asc.sublist (List.takeWhile_sublist _), List.pairwise_cons.2 ⟨drop_above h.asc hn, h.asc.sublist (List.dropWhile_sublist _)⟩, fun a ha b hb => ?_⟩
  have h1 : a.fID < c.fID := by simpa using takeWhile_all a ha
  rcases List.mem_cons.1 hb with rfl | hb
  · exact h1
  · exact Int.lt_trans h1 (drop_above h.asc hn b hb)⟩
theorem bestAt_le (l : List ClientD) : ∀ t, bestAt l t ≤ t
  | 0 => Nat.le_refl 0
  | t + 1 => by
    unfold bestAt
    split
    · split
      · exact Nat.le_refl _
      · exact Nat.le_succ_of_le (bestAt_le l t)
    · exact Nat.le_succ_of_le (bestAt_le l t)
theorem best_lt {l : List ClientD} (h : 0 < l.length) : best l < l.length := by
  have := bestAt_le l (l.length - 1)
  unfold best
  omega
/-! ### A client removed -/
def total (b : BrokerD) : Nat := b.fActive.length + b.fWaiting.length
theorem Ok.quit {b : BrokerD} {k : Nat} (h : Ok b) (hk : k < b.fWaiting.length) : Ok ⟨b.fPool, b.fNextID, b.fActive, b.fWaiting.eraseIdx k⟩ := by
  have h1 := (okN_iff b).1 h.num
  refine ⟨?_, h.act, h.wai.erase k, fun c hc d hd => h.off c hc d ((List.eraseIdx_sublist _ _).subset hd)⟩
  rw [okN_iff]
  dsimp only
  rw [List.length_eraseIdx_of_lt hk]
  omega
theorem Ok.letIn {b : BrokerD} {k : Nat} (h : Ok b) (hk : k < b.fActive.length) : Ok (letIn b (b.fActive.eraseIdx k)) ∧ total (letIn b (b.fActive.eraseIdx k)) + 1 = total b ∧ (∀ c ∈ (letIn b (b.fActive.eraseIdx k)).fActive, c.fID ≠ b.fActive[k].fID) ∧ (∀ c ∈ (letIn b (b.fActive.eraseIdx k)).fWaiting, c.fID ≠ b.fActive[k].fID) := by
  have h1 := (okN_iff b).1 h.num
  have hoff : ∀ d ∈ b.fWaiting, d.fID ≠ b.fActive[k].fID := fun d hd => (h.off _ (List.getElem_mem hk) d hd).symm
  have hsub := (List.eraseIdx_sublist b.fActive k).subset
  unfold BrokerD.letIn total
  cases hb : b.fWaiting[best b.fWaiting]? with
  | none =>
    have hw : b.fWaiting.length = 0 := by
      rcases Nat.eq_zero_or_pos b.fWaiting.length with h2 | h2
      · exact h2
      · rw [List.getElem?_eq_getElem (best_lt h2)] at hb; cases hb
    refine ⟨⟨?_, h.act.erase k, h.wai, fun c hc d hd => h.off c (hsub hc) d hd⟩, ?_, erase_ne h.act hk, hoff⟩
    · rw [okN_iff]
      dsimp only
      rw [List.length_eraseIdx_of_lt hk]
      omega
    · dsimp only
      rw [List.length_eraseIdx_of_lt hk]
      omega
  | some c =>
    have hbl : best b.fWaiting < b.fWaiting.length := by
      rcases Nat.lt_or_ge (best b.fWaiting) b.fWaiting.length with h2 | h2
      · exact h2
      · rw [List.getElem?_eq_none h2] at hb; cases hb
    have hce : c = b.fWaiting[best b.fWaiting] := by rw [List.getElem?_eq_getElem hbl] at hb; exact (Option.some.inj hb).symm
    have hcm : c ∈ b.fWaiting := List.mem_of_getElem? hb
    refine ⟨⟨?_, (h.act.erase k).put (h.wai.each c hcm) fun d hd => h.off d (hsub hd) c hcm, h.wai.erase _, fun d hd e he => ?_⟩, ?_, fun d hd => ?_, fun d hd => hoff d ((List.eraseIdx_sublist _ _).subset hd)⟩
    · rw [okN_iff]
      dsimp only
      rw [put_length, List.length_eraseIdx_of_lt hk, List.length_eraseIdx_of_lt hbl]
      omega
    · have he' := (List.eraseIdx_sublist _ _).subset he
      rcases mem_put.1 hd with rfl | hd
      · rw [hce]
        exact (erase_ne h.wai hbl e he).symm
      · exact h.off d (hsub hd) e he'
    · dsimp only
      rw [put_length, List.length_eraseIdx_of_lt hk, List.length_eraseIdx_of_lt hbl]
      omega
    · rcases mem_put.1 hd with rfl | hd
      · exact hoff _ hcm
      · exact erase_ne h.act hk d hd
theorem removed_facts {b z : BrokerD} {id : Int} (h : removed b id = some z) : Ok b ∧ Ok z ∧ total z + 1 = total b ∧ at? z.fActive id = none := by
  unfold removed at h
  split at h
  · rename_i ho
    have ho := Ok.of ho
    split at h
    · rename_i k hk
      cases h
      obtain ⟨c, hc, hid, hl⟩ := of_at hk
      refine ⟨ho, ho.quit hl, ?_, at_none fun d hd => ?_⟩
      · unfold total
        dsimp only
        rw [List.length_eraseIdx_of_lt hl]
        omega
      · rw [← hid]
        exact ho.off d hd c (List.mem_of_getElem? hc)
    · split at h
      · rename_i k hk
        cases h
        obtain ⟨c, hc, hid, hl⟩ := of_at hk
        have hce : b.fActive[k] = c := by rw [List.getElem?_eq_getElem hl] at hc; exact Option.some.inj hc
        obtain ⟨h1, h2, h3, -⟩ := ho.letIn hl
        refine ⟨ho, h1, h2, at_none fun d hd => ?_⟩
        rw [← hid, ← hce]
        exact h3 d hd
      · cases h
  · cases h
/-! ### The grants of those who remain -/
def skip (k j : Nat) : Nat := if j < k then j else j + 1
theorem sumTo_skip {f : Nat → Int} {k : Nat} : ∀ {n : Nat}, k ≤ n → sumTo (fun j => f (skip k j)) n + f k = sumTo f (n + 1)
  | 0, h => by
    have : k = 0 := by omega
    subst this
    rfl
  | n + 1, h => by
    show sumTo (fun j => f (skip k j)) n + f (skip k n) + f k = sumTo f (n + 1) + f (n + 1)
    rcases Nat.lt_or_ge n k with h1 | h1
    · have e : k = n + 1 := by omega
      subst e
      have e2 : sumTo (fun j => f (skip (n + 1) j)) n = sumTo f n := sumTo_congr fun j hj => by show f (skip (n + 1) j) = f j; unfold skip; rw [if_pos (by omega)]
      rw [e2]
      have e3 : skip (n + 1) n = n := by unfold skip; rw [if_pos (by omega)]
      rw [e3]
      rfl
    · have ih := sumTo_skip (f := f) h1
      have e3 : skip k n = n + 1 := by unfold skip; rw [if_neg (by omega)]
      rw [e3]
      omega
theorem erase_get {l : List ClientD} {k : Nat} (j : Nat) : (l.eraseIdx k)[j]? = l[skip k j]? := by
  rw [List.getElem?_eraseIdx]
  unfold skip
  split <;> rfl
theorem need_erase {l : List ClientD} {k : Nat} (j : Nat) : need (l.eraseIdx k) j = need l (skip k j) := by unfold need; rw [erase_get]
theorem prio_erase {l : List ClientD} {k : Nat} (j : Nat) : prio (l.eraseIdx k) j = prio l (skip k j) := by unfold prio; rw [erase_get]
theorem upTo_erase {n : Int} {A : List ClientD} (h : OkL n A) {k : Nat} (hk : k < A.length) (p : Int) (i : Nat) : upTo (A.eraseIdx k) p i ≤ upTo A p (skip k i) := by
  obtain ⟨m, hm⟩ : ∃ m, A.length = m + 1 := ⟨A.length - 1, by omega⟩
  have hl : (A.eraseIdx k).length = m := by rw [List.length_eraseIdx_of_lt hk]; omega
  unfold upTo
  rw [hl, hm, ← sumTo_skip (k := k) (n := m) (by omega)]
  have h1 : 0 ≤ (if p < prio A k ∨ (prio A k = p ∧ k < skip k i) then need A k else 0) := by
    have := need_nonneg h k
    split <;> omega
  have h2 : sumTo (fun j => if p < prio (A.eraseIdx k) j ∨ (prio (A.eraseIdx k) j = p ∧ j < i) then need (A.eraseIdx k) j else 0) m = sumTo (fun j => if p < prio A (skip k j) ∨ (prio A (skip k j) = p ∧ skip k j < skip k i) then need A (skip k j) else 0) m := sumTo_congr fun j _ => by
    rw [need_erase, prio_erase]
    have e : (j < i) = (skip k j < skip k i) := by
      apply propext
      unfold skip
      split <;> split <;> omega
    simp only [e]
  rw [h2]
  omega
theorem grant_grows {n r : Int} {A : List ClientD} (h : OkL n A) {k : Nat} (hk : k < A.length) (i : Nat) : grantAt r A (skip k i) ≤ grantAt (r + 8) (A.eraseIdx k) i := by
  have h1 := upTo_erase h hk (prio A (skip k i)) i
  unfold grantAt give
  rw [need_erase, prio_erase]
  omega
theorem setReq_ok {b : BrokerD} {id w : Int} (h : canReq b id w = true) : ok b = true ∧ isWant w = true := by
  unfold canReq at h
  simp only [Bool.and_eq_true] at h
  exact h.1
theorem OkL.setAt {n : Int} {l : List ClientD} {id w : Int} (h : OkL n l) (hw : isWant w = true) : OkL n (setAt l id w) ∧ (setAt l id w).map (fun c => c.fID) = l.map fun c => c.fID := by
  have hw' : 8 ≤ w ∧ w ≤ 60 := by unfold isWant at hw; exact of_decide_eq_true hw
  unfold BrokerD.setAt
  cases hk : at? l id with
  | none => exact ⟨h, rfl⟩
  | some k =>
    have hm : (l.modify k fun c => ⟨c.fID, w, c.fPriority⟩).map (fun c => c.fID) = l.map fun c => c.fID := by
      apply List.ext_getElem?
      intro i
      rw [List.getElem?_map, List.getElem?_map, List.getElem?_modify]
      cases l[i]? with
      | none => rfl
      | some c => by_cases e : k = i <;> simp [e]
    refine ⟨⟨fun c hc => ?_, ?_⟩, hm⟩
    · obtain ⟨i, hi⟩ := List.mem_iff_getElem?.1 hc
      rw [List.getElem?_modify] at hi
      cases hli : l[i]? with
      | none => rw [hli] at hi; simp at hi
      | some d =>
        rw [hli] at hi
        have hd := (okC_iff n d).1 (h.each d (List.mem_of_getElem? hli))
        by_cases e : k = i
        · simp [e] at hi
          subst hi
          exact (okC_iff n _).2 (by dsimp only; omega)
        · simp [e] at hi
          subst hi
          exact (okC_iff n _).2 hd
    · have h1 : (l.map fun c => c.fID).Pairwise (· < ·) := List.pairwise_map.2 h.asc
      rw [← hm] at h1
      exact List.pairwise_map.1 h1
theorem Ok.setReq {b : BrokerD} {id w : Int} (h : canReq b id w = true) : Ok (setReq b id w) := by
  obtain ⟨ho, hw⟩ := setReq_ok h
  have hO := Ok.of ho
  have h1 := (okN_iff b).1 hO.num
  unfold BrokerD.setReq
  rw [if_pos (by rw [ho, hw]; rfl)]
  obtain ⟨ha, hma⟩ := hO.act.setAt (id := id) hw
  obtain ⟨hv, hmv⟩ := hO.wai.setAt (id := id) hw
  have la : (setAt b.fActive id w).length = b.fActive.length := by simpa using congrArg List.length hma
  have lv : (setAt b.fWaiting id w).length = b.fWaiting.length := by simpa using congrArg List.length hmv
  refine ⟨?_, ha, hv, fun c hc d hd e => ?_⟩
  · rw [okN_iff]
    dsimp only
    rw [la, lv]
    exact h1
  · have hc' : c.fID ∈ b.fActive.map fun c => c.fID := by rw [← hma]; exact List.mem_map.2 ⟨c, hc, rfl⟩
    have hd' : d.fID ∈ b.fWaiting.map fun c => c.fID := by rw [← hmv]; exact List.mem_map.2 ⟨d, hd, rfl⟩
    obtain ⟨c', hc1, hc2⟩ := List.mem_map.1 hc'
    obtain ⟨d', hd1, hd2⟩ := List.mem_map.1 hd'
    exact hO.off c' hc1 d' hd1 (by rw [hc2, hd2, e])
end BrokerD
end Go.Proofs.Ytfghhjcfmmhacaa
/- Brokers as plain mathematics: what the loops of the reference keep; no function of program or reference is walked here. -/
namespace Go.Proofs.Ytfghhjcfmmhacaa
open Go.RowKit
set_option linter.unusedVariables false
namespace BrokerD
theorem put_at {c : ClientD} : ∀ {l : List ClientD} {k : Nat}, k ≤ l.length → (∀ u d, u < k → l[u]? = some d → d.fID < c.fID) → (∀ d, l[k]? = some d → ¬ d.fID < c.fID) → put l c = l.take k ++ c :: l.drop k
  | [], k, hk, _, _ => by
    have : k = 0 := by simpa using hk
    subst this
    rfl
  | a :: l, 0, _, _, he => by
    have := he a rfl
    unfold put
    simp [List.takeWhile_cons, List.dropWhile_cons, this]
  | a :: l, k + 1, hk, hb, he => by
    have h0 := hb 0 a (Nat.succ_pos k) rfl
    have ih := put_at (l := l) (k := k) (by simpa using hk) (fun u d hu hd => hb (u + 1) d (by omega) (by simpa using hd)) (fun d hd => he d (by simpa using hd))
    unfold put at ih ⊢
    simp only [List.takeWhile_cons, List.dropWhile_cons, h0, decide_true, if_true, List.take_succ_cons, List.drop_succ_cons, List.cons_append]
    rw [ih]
theorem erase_at (l : List ClientD) (k : Nat) : l.eraseIdx k = l.take k ++ l.drop (k + 1) := List.eraseIdx_eq_take_drop_succ l k
theorem best_step {l : List ClientD} {t : Nat} {c d : ClientD} (hc : l[t + 1]? = some c) (hd : l[bestAt l t]? = some d) : bestAt l (t + 1) = if d.fPriority < c.fPriority then t + 1 else bestAt l t := by
  rw [bestAt, hc, hd]
/-! ### Grants, list by list -/
def grantsT (r : Int) (A : List ClientD) (p : Int) (t : Nat) : List Int := (List.range A.length).map (grantAtT r A p t)
theorem grantsT_length {r : Int} {A : List ClientD} {p : Int} {t : Nat} : (grantsT r A p t).length = A.length := by simp [grantsT]
theorem grantsT_get {r : Int} {A : List ClientD} {p : Int} {t i : Nat} (hi : i < A.length) : (grantsT r A p t)[i]? = some (grantAtT r A p t i) := by simp [grantsT, hi]
theorem grantsT_start {n r : Int} {A : List ClientD} (h : OkL n A) : List.replicate A.length 8 = grantsT r A 9 0 := by
  apply List.ext_getElem?
  intro i
  rcases Nat.lt_or_ge i A.length with hi | hi
  · rw [grantsT_get hi, List.getElem?_replicate, if_pos hi]
    have := prio_range h i
    unfold grantAtT
    rw [if_neg (by omega)]
  · rw [List.getElem?_eq_none (by simpa using hi), List.getElem?_eq_none (by rw [grantsT_length]; exact hi)]
theorem grantsT_skip {r : Int} {A : List ClientD} {p : Int} {t : Nat} (h : prio A t ≠ p) : grantsT r A p (t + 1) = grantsT r A p t := List.map_congr_left fun i _ => grantT_skip h i
theorem grantsT_take {n r : Int} {A : List ClientD} {p : Int} {t : Nat} (h : OkL n A) (ht : t < A.length) (hp : prio A t = p) : grantsT r A p (t + 1) = (grantsT r A p t).set t (8 + min (leftT r A p t) (need A t)) := by
  apply List.ext_getElem?
  intro i
  rcases Nat.lt_or_ge i A.length with hi | hi
  · rw [grantsT_get hi, List.getElem?_set, grantsT_length]
    by_cases e : t = i
    · subst e
      rw [if_pos rfl, if_pos ht, (left_take h ht hp).2]
      subst hp
      rw [grantT_at.2]
    · rw [if_neg e, grantsT_get hi, grantT_ne (Ne.symm e)]
  · rw [List.getElem?_eq_none (by rw [grantsT_length]; exact hi), List.getElem?_eq_none (by rw [List.length_set, grantsT_length]; exact hi)]
theorem grantsT_at {r : Int} {A : List ClientD} {p : Int} {t : Nat} (ht : t < A.length) (hp : prio A t = p) : (grantsT r A p t)[t]? = some 8 := by
  subst hp
  rw [grantsT_get ht, grantT_at.1]
theorem grantsT_next {r : Int} {A : List ClientD} {p : Int} : grantsT r A p A.length = grantsT r A (p - 1) 0 := List.map_congr_left fun i hi => grantT_next (List.mem_range.1 hi)
theorem grantsT_end {n r : Int} {A : List ClientD} (h : OkL n A) : grantsT r A (-1) 0 = grantsOf r A := List.map_congr_left fun i _ => grantT_end h i
theorem grants_length {b : BrokerD} (h : ok b = true) : (grants b).length = b.fActive.length := by
  unfold grants
  rw [if_pos h]
  simp [grantsOf]
theorem grants_get {b : BrokerD} (h : ok b = true) {i : Nat} (hi : i < b.fActive.length) : (grants b)[i]? = some (grantAt (rest b) b.fActive i) := by
  unfold grants
  rw [if_pos h]
  simp [grantsOf, hi]
theorem grants_bad {b : BrokerD} (h : ok b = false) : grants b = [] := by
  unfold grants
  rw [if_neg (by rw [h]; decide)]
def grantFor (b : BrokerD) (id : Int) : Option Int := if ok b = true then (at? b.fActive id).map fun k => grantAt (rest b) b.fActive k else none
theorem setAt_some {l : List ClientD} {id w : Int} {k : Nat} {c : ClientD} (h : at? l id = some k) (hc : l[k]? = some c) : setAt l id w = l.set k ⟨c.fID, w, c.fPriority⟩ := by
  unfold setAt
  rw [h]
  show l.modify k _ = _
  apply List.ext_getElem?
  intro i
  rw [List.getElem?_modify, List.getElem?_set]
  by_cases e : k = i
  · subst e
    have hk : k < l.length := by
      rcases Nat.lt_or_ge k l.length with h1 | h1
      · exact h1
      · rw [List.getElem?_eq_none h1] at hc; cases hc
    have he : l[k] = c := by rw [List.getElem?_eq_getElem hk] at hc; exact Option.some.inj hc
    simp [hk, he]
  · simp [e]
theorem setAt_none {l : List ClientD} {id w : Int} (h : at? l id = none) : setAt l id w = l := by unfold setAt; rw [h]
theorem leftT_range {n r : Int} {A : List ClientD} (h : OkL n A) (hr : 0 ≤ r) (p : Int) (t : Nat) : 0 ≤ leftT r A p t ∧ leftT r A p t ≤ r := by
  have := upTo_nonneg h p t
  unfold leftT
  omega
theorem need_at {A : List ClientD} {t : Nat} {c : ClientD} (h : A[t]? = some c) : need A t = c.fRequested - 8 ∧ prio A t = c.fPriority := by
  unfold need prio
  rw [h]
  exact ⟨rfl, rfl⟩
end BrokerD
end Go.Proofs.Ytfghhjcfmmhacaa
/- Numbers within bounds: told by trees. -/
namespace Go.Proofs.Ytfghhjcfmmhacaa
open Go Go.RowKit V
set_option linter.unusedVariables false
set_option maxRecDepth 100000 in
set_option maxHeartbeats 2000000 in
theorem vin_s' (x lo hi : Int) : VC Try.prog 56 [(false, [.lit (.int .i64 (x))]), (false, [.lit (.int .i64 (lo))]), (false, [.lit (.int .i64 (hi))])] false [(false, [.lit (.bool (decide (lo ≤ x ∧ x ≤ hi)))])] := by
  refine VC.enter Try.func56 rfl Try.ntmps56 (gle rfl) fun E hE => ?_
  refine SV.seq' ?_
  refine SV.region ?_
  refine SV.op (OpL.ok (nb := 0) (ok_move (v := V.one (.sc _)) (.inr rfl) rfl) rfl (gle rfl)) rfl ?_
  refine SV.nil ?_
  refine SV.tn ?_
  refine SV.seq' ?_
  refine SV.region ?_
  refine SV.op (OpL.ok (nb := 0) (ok_move (v := V.one (.sc _)) (.inl rfl) rfl) rfl (gle rfl)) rfl ?_
  refine SV.op (OpL.ok (nb := 0) (ok_move (v := V.one (.sc _)) (.inl rfl) rfl) rfl (gle rfl)) rfl ?_
  refine SV.op (OpL.ok (nb := 0) (ok_s2 (x := .tmp 7) (x' := .tmp 8) (VScal.one rfl) (VScal.one rfl) (fun ρ h1 h2 w => by go_simp; (try go_bits); with_reducible rfl) rfl) rfl (gle rfl)) rfl ?_
  refine SV.op (OpL.ok (nb := 0) (ok_move (v := V.one (.sc _)) (.inl rfl) rfl) rfl (gle rfl)) rfl ?_
  refine SV.split (d := 10) rfl (fun hg0 => ?_) (fun hg0 => ?_)
  · skip   -- g0.T
    have h0 := hg0
    refine SV.opY (OpL.ok (nb := 0) (ok_move (v := V.one (.sc _)) (.inl rfl) rfl) rfl (gle rfl)) rfl rfl rfl (gle rfl) rfl rfl ?_
    refine SV.opY (OpL.ok (nb := 0) (ok_move (v := V.one (.sc _)) (.inl rfl) rfl) rfl (gle rfl)) rfl rfl rfl (gle rfl) rfl rfl ?_
    refine SV.opY (OpL.ok (nb := 0) (ok_s2 (x := .tmp 11) (x' := .tmp 12) (VScal.one rfl) (VScal.one rfl) (fun ρ h1 h2 w => by go_simp; (try go_bits); with_reducible rfl) rfl) rfl (gle rfl)) rfl rfl rfl (gle rfl) rfl rfl ?_
    refine SV.op (OpL.ok (nb := 0) (ok_pickT (v := V.one (.sc _)) rfl rfl rfl) rfl (gle rfl)) rfl ?_
    refine SV.op (OpL.ok (nb := 0) (ok_move (v := V.one (.sc _)) (.inr rfl) rfl) rfl (gle rfl)) rfl ?_
    refine SV.nil ?_
    refine SV.tn ?_
    refine SV.ret ?_
    apply SV.done (hf := Try.results56) (ht := rfl) (he := .inl rfl)
    case hr => exact (ResAll.cons (ResOk.tmp (ag := false) (xs := [.sc _]) rfl) ResAll.nil')
    case h2 => simp [two]
    refine ⟨rfl, ⟨?_, trivial⟩, trivial⟩ <;> (show some (T.lit (Value.bool _)) = some (T.lit (Value.bool _)); refine congrArg (fun z => some (T.lit (Value.bool z))) ?_; (simp at hg0; simp; omega))
  · skip   -- g0.F
    have h0 := hg0
    refine SV.opN rfl rfl rfl (gle rfl) rfl rfl rfl (gle rfl) ?_
    refine SV.opN rfl rfl rfl (gle rfl) rfl rfl rfl (gle rfl) ?_
    refine SV.opN rfl rfl rfl (gle rfl) rfl rfl rfl (gle rfl) ?_
    refine SV.op (OpL.ok (nb := 0) (ok_pickF (v := V.one (.sc _)) rfl rfl rfl) rfl (gle rfl)) rfl ?_
    refine SV.op (OpL.ok (nb := 0) (ok_move (v := V.one (.sc _)) (.inr rfl) rfl) rfl (gle rfl)) rfl ?_
    refine SV.nil ?_
    refine SV.tn ?_
    refine SV.ret ?_
    apply SV.done (hf := Try.results56) (ht := rfl) (he := .inl rfl)
    case hr => exact (ResAll.cons (ResOk.tmp (ag := false) (xs := [.sc _]) rfl) ResAll.nil')
    case h2 => simp [two]
    refine ⟨rfl, ⟨?_, trivial⟩, trivial⟩ <;> (show some (T.lit (Value.bool _)) = some (T.lit (Value.bool _)); refine congrArg (fun z => some (T.lit (Value.bool z))) ?_; (simp at hg0; simp; omega))
end Go.Proofs.Ytfghhjcfmmhacaa
/- States told by trees: comparisons with nil, calls that write into what they are lent and answer nothing. -/
namespace Go.Proofs.Ytfghhjcfmmhacaa.V
open Go Go.RowKit
set_option linter.unusedVariables false
variable {P : Program} {E : Env} {N nb : Nat} {σ σ' τ : VS} {o : Oper} {a : Act} {w : World} {G : Ghost} {Q : Exit → Act → World → Prop} {K : Act → World → Prop}
def VU (P : Program) (f : FuncId) (ins : List (Bool × List AC)) (ls ls' : List T) : Prop :=
  ∀ (w : World) (lv : Nat → Value) (F : Nat → Nat → Prop) (hF : ∀ i b, i < ls.length → F i b → b < w.heap.size) (vs : List Value), (∀ i t, ls[i]? = some t → Own w 0 t (lv i) (F i) ∧ ∃ ty es, t = .seq ty es) → (∀ i j b, i < ls.length → j < ls.length → i ≠ j → F i b → ¬ F j b) → ArgsM (Env.lend w lv F ls.length hF) ins vs →
    Calls P f vs.toArray w fun e w' => (∃ v, e = .returned v ∧ Same (Env.lend w lv F ls.length hF) (Env.lend w lv F ls.length hF).w0 w') ∧ Lents (Env.lend w lv F ls.length hF) ls' w'
theorem flat_sub {fs : List (List T)} (h : Flat fs) (l n : Nat) : Flat ((fs.take n).drop l) := fun k e j t h1 h2 => by
  rw [List.getElem?_drop, List.getElem?_take] at h1
  split at h1
  · exact h _ e j t h1 h2
  · cases h1
theorem flat_app {fs gs : List (List T)} (h : Flat fs) (k : Flat gs) : Flat (fs ++ gs) := fun q e j t h1 h2 => by
  rcases cat_el h1 with ⟨-, h3⟩ | ⟨-, h3⟩
  · exact h q e j t h3 h2
  · exact k _ e j t h3 h2
theorem flat_one {ts : List T} (h : ts.all isLit = true) : Flat [ts] := flat_of (f := fun _ : Unit => ts) (fun _ => h) [()]
theorem SV.isnil {d : Nat} {x y : Operand} {ty : TypeId} {es : List (List T)} {rest : List Oper} {ops : Array Oper} (hx : σ.ev x = V.one (.ro (.seq ty es))) (hy : σ.ev y = V.one (.sc (.slice none 0 0))) (hd : o.dst = some d) (hdN : d < N) (hg : o.guard = none)
    (hrun : ∀ (ρ : Operand → Value) (ad : Option Addr) (n c : Nat) (w : World), ρ x = .slice ad n c → ρ y = .slice none 0 0 → (execOp ρ o).run P w = .ok (.value (.bool ad.isNone)) w)
    (ht : es = [] → SV E N (σ.put d (V.one (.sc (.bool true)))) (wpList P ops Q rest)) (hf : SV E N (σ.put d (V.one (.sc (.bool false)))) (wpList P ops Q rest)) : SV E N σ (wpList P ops Q (o :: rest)) := fun a w G hr => by
  have h1 := hr.ev x
  rw [hx, vone] at h1
  have h2 := hr.sc hy
  have h3 : Inn E.old w (.seq ty es) (a.eval x) := h1.1
  cases hv : a.eval x with
  | slice ad n c =>
    rw [hv] at h3
    refine wpList_step fun K hK => ?_
    rw [if_pos (by simp [Region.wanted, hg])]
    refine wp_value (v := .bool ad.isNone) (w' := w) (hrun _ ad n c w hv h2) ?_
    rw [hd]
    cases ad with
    | none =>
      have he : es = [] := by
        cases h3 with
        | seq n' hp hz hn hc hm h0 => have := h0 rfl; subst this; exact List.eq_nil_of_length_eq_zero (by omega)
      exact hK _ _ (ht he _ _ G (hr.put hdN (vone.2 ⟨rfl, .inr rfl⟩)))
    | some ad => exact hK _ _ (hf _ _ G (hr.put hdN (vone.2 ⟨rfl, .inr rfl⟩)))
  | _ => rw [hv] at h3; cases h3
end Go.Proofs.Ytfghhjcfmmhacaa.V
/- Brokers' lists: copies, places: told by trees. -/
namespace Go.Proofs.Ytfghhjcfmmhacaa
open Go Go.RowKit V
set_option linter.unusedVariables false
set_option maxRecDepth 100000 in
set_option maxHeartbeats 2000000 in
theorem vroom_s (p : Int) (h0 : 0 ≤ p) (h1 : p ≤ 1000000) : VC Try.prog 57 [(false, [.lit (.int .i64 (p))])] false [(false, [.lit (.int .i64 (BrokerD.room p))])] := by
  refine VC.enter Try.func57 rfl Try.ntmps57 (gle rfl) fun E hE => ?_
  refine SV.seq' ?_
  refine SV.region ?_
  refine SV.op (OpL.ok (nb := 0) (ok_move (v := V.one (.sc _)) (.inr rfl) rfl) rfl (gle rfl)) rfl ?_
  refine SV.nil ?_
  refine SV.tn ?_
  refine SV.seq' ?_
  refine SV.region ?_
  refine SV.op (OpL.ok (nb := 0) (ok_move (v := V.one (.sc _)) (.inl rfl) rfl) rfl (gle rfl)) rfl ?_
  refine SV.op (OpL.ok (nb := 0) (ok_s2 (v := .int .i64 (p / 8)) (x := .tmp 3) (x' := .const ((Value.int IntKind.i64 8))) (VScal.one rfl) (VScal.one rfl) (fun ρ h1 h2 w => by go_simp; simp [Int.tdiv_eq_ediv_of_nonneg h0]; rw [IntWalk.i64_left, IntWalk.wrap64_in _ ⟨by omega, by omega⟩]) rfl) rfl (gle rfl)) rfl ?_
  refine SV.op (OpL.ok (nb := 0) (ok_s2 (x := .const ((Value.int IntKind.i64 5))) (x' := .tmp 4) (VScal.one rfl) (VScal.one rfl) (fun ρ h1 h2 w => by go_simp; (try go_bits); with_reducible rfl) rfl) rfl (gle rfl)) rfl ?_
  refine SV.op (OpL.ok (nb := 0) (ok_move (v := V.one (.sc _)) (.inr rfl) rfl) rfl (gle rfl)) rfl ?_
  refine SV.nil ?_
  refine SV.tn ?_
  refine SV.ret ?_
  apply SV.done (hf := Try.results57) (ht := rfl) (he := .inl rfl)
  case hr => exact (ResAll.cons (ResOk.tmp (ag := false) (xs := [.sc _]) rfl) ResAll.nil')
  case h2 => simp [two]
  refine ⟨rfl, ⟨?_, trivial⟩, trivial⟩ <;> (show some (T.lit (Value.int .i64 _)) = some (T.lit (Value.int .i64 _)); refine congrArg (fun z => some (T.lit (Value.int .i64 z))) ?_; unfold BrokerD.room; omega)
set_option maxRecDepth 100000 in
set_option maxHeartbeats 2000000 in
theorem vnewb_s (n : Int) : VC Try.prog 36 [(false, [.lit (.int .i64 (n))])] true [(true, tBroker (BrokerD.new n)), (false, [.lit (.bool (BrokerD.isPool n))])] := by
  refine VC.enter Try.func36 rfl Try.ntmps36 (gle rfl) fun E hE => ?_
  refine SV.seq' ?_
  refine SV.region ?_
  refine SV.op (OpMk.ok (ok_alloc (kk := 0) (xs := [.sc _, .sc _, .nl _, .nl _]) rfl rfl zero_impl_Broker ⟨rfl, rfl, rfl, rfl, rfl, ⟨3, by decide, sz_impl_Client⟩, rfl, ⟨3, by decide, sz_impl_Client⟩, trivial⟩ rfl (gle rfl))) rfl ?_
  refine SV.op (OpL.ok (nb := 1) (ok_move (v := V.one (.sc _)) (.inr rfl) rfl) rfl (gle rfl)) rfl ?_
  refine SV.nil ?_
  refine SV.tn ?_
  refine SV.seq' ?_
  refine SV.seq' ?_
  refine SV.region ?_
  refine SV.op (OpL.ok (nb := 1) (ok_move (v := V.one (.sc _)) (.inl rfl) rfl) rfl (gle rfl)) rfl ?_
  refine SV.op (OpMk.ok (ok_call (ls := [(false, [.sc _])]) rfl rfl ⟨_, _, Try.func56, rfl, by decide⟩ (vin_s' n 8 120) ⟨⟨[.sc _], rfl, ⟨rfl, trivial⟩⟩, ⟨[.sc _], rfl, ⟨rfl, trivial⟩⟩, ⟨[.sc _], rfl, ⟨rfl, trivial⟩⟩, trivial⟩ rfl (gle rfl))) rfl ?_
  refine SV.op (OpL.ok (nb := 1) (ok_s1 (x := .tmp 5) (VScal.one rfl) (fun ρ h1 w => by go_simp; (try go_bits); with_reducible rfl) rfl) rfl (gle rfl)) rfl ?_
  refine SV.nil ?_
  refine SV.tn ?_
  refine SV.cond rfl (fun hc0 => ?_) (fun hc0 => ?_)
  · skip   -- c0.T
    have ho : BrokerD.isPool n = false := by simp [BrokerD.isPool] at *; omega
    refine SV.seq' ?_
    refine SV.region ?_
    refine SV.op (OpL.ok (nb := 1) (ok_build (zs := [.sc _, .sc _, .nl _, .nl _]) (ys := [.sc _, .sc _, .nl _, .nl _]) (qs := []) (pl := fun i => ([(0, 1), (1, 1), (2, 1), (3, 1)] : List (Nat × Nat))[i]?) rfl zero_impl_Broker ⟨rfl, rfl, rfl, rfl, rfl, ⟨3, by decide, sz_impl_Client⟩, rfl, ⟨3, by decide, sz_impl_Client⟩, trivial⟩ trivial bld_impl_Broker rfl) rfl (gle rfl)) rfl ?_
    refine SV.op (ok_store_bp (b := 0) (i := 0) (m := 4) (ag := true) (zs := [.sc _, .sc _, .nl _, .nl _]) (ys := [.sc _, .sc _, .nl _, .nl _]) rfl rfl rfl rfl sz_impl_Broker (fun h => by cases h) rfl (gle rfl) rfl rfl rfl) rfl ?_
    refine SV.op (OpL.ok (nb := 1) (ok_move (v := V.one (.sc _)) (.inr rfl) rfl) rfl (gle rfl)) rfl ?_
    refine SV.nil ?_
    refine SV.tn ?_
    refine SV.ret ?_
    refine SV.tr ?_
    apply SV.done (hf := Try.results36) (ht := rfl) (he := .inl rfl)
    case hr => exact (ResAll.cons (ResOk.cell (b := 0) (ag := true) (xs := [.sc _, .sc _, .nl _, .nl _]) rfl rfl agg_impl_Broker sz_impl_Broker (fun h => by cases h)) (ResAll.cons (ResOk.tmp (ag := false) (xs := [.sc _]) rfl) ResAll.nil'))
    case h2 => simp [two]
    refine ⟨rfl, ⟨?_, ?_, ?_, ?_, trivial⟩, ⟨rfl, ⟨?_, trivial⟩, trivial⟩⟩ <;> first | rfl | (unfold BrokerD.new; first | (rw [if_pos ho]; rfl) | (rw [if_neg (by rw [ho]; decide)]; rfl)) | ((show some (T.lit (Value.bool _)) = some (T.lit (Value.bool _)); refine congrArg (fun z => some (T.lit (Value.bool z))) ?_; rw [ho]))
  · skip   -- c0.F
    have ho : BrokerD.isPool n = true := by simp [BrokerD.isPool] at *; omega
    refine SV.skip ?_
    refine SV.tn ?_
    refine SV.seq' ?_
    refine SV.region ?_
    refine SV.op (OpL.ok (nb := 1) (ok_move (v := V.one (.sc _)) (.inl rfl) rfl) rfl (gle rfl)) rfl ?_
    refine SV.op (OpL.ok (nb := 1) (ok_build (zs := [.sc _, .sc _, .nl _, .nl _]) (ys := [.sc _, .sc _, .nl _, .nl _]) (qs := [(0, [.sc _])]) (pl := fun i => ([(0, 1), (1, 1), (2, 1), (3, 1)] : List (Nat × Nat))[i]?) rfl zero_impl_Broker ⟨rfl, rfl, rfl, rfl, rfl, ⟨3, by decide, sz_impl_Client⟩, rfl, ⟨3, by decide, sz_impl_Client⟩, trivial⟩ ⟨⟨rfl, false, rfl, (fun _ => rfl), rfl⟩, trivial⟩ bld_impl_Broker rfl) rfl (gle rfl)) rfl ?_
    refine SV.op (ok_store_bp (b := 0) (i := 0) (m := 4) (ag := true) (zs := [.sc _, .sc _, .nl _, .nl _]) (ys := [.sc _, .sc _, .nl _, .nl _]) rfl rfl rfl rfl sz_impl_Broker (fun h => by cases h) rfl (gle rfl) rfl rfl rfl) rfl ?_
    refine SV.op (OpL.ok (nb := 1) (ok_move (v := V.one (.sc _)) (.inr rfl) rfl) rfl (gle rfl)) rfl ?_
    refine SV.nil ?_
    refine SV.tn ?_
    refine SV.ret ?_
    apply SV.done (hf := Try.results36) (ht := rfl) (he := .inl rfl)
    case hr => exact (ResAll.cons (ResOk.cell (b := 0) (ag := true) (xs := [.sc _, .sc _, .nl _, .nl _]) rfl rfl agg_impl_Broker sz_impl_Broker (fun h => by cases h)) (ResAll.cons (ResOk.tmp (ag := false) (xs := [.sc _]) rfl) ResAll.nil'))
    case h2 => simp [two]
    refine ⟨rfl, ⟨?_, ?_, ?_, ?_, trivial⟩, ⟨rfl, ⟨?_, trivial⟩, trivial⟩⟩ <;> first | rfl | (unfold BrokerD.new; first | (rw [if_pos ho]; rfl) | (rw [if_neg (by rw [ho]; decide)]; rfl)) | ((show some (T.lit (Value.bool _)) = some (T.lit (Value.bool _)); refine congrArg (fun z => some (T.lit (Value.bool z))) ?_; rw [ho]))
set_option maxRecDepth 100000 in
set_option maxHeartbeats 2000000 in
theorem vcopyb_s (b : BrokerD) (hA : b.fActive.length ≤ 1000000000) (hW : b.fWaiting.length ≤ 1000000000) : VC Try.prog 63 [(true, tBroker b)] false [(true, tBroker (b))] := by
  refine VC.enter Try.func63 rfl Try.ntmps63 (gle rfl) fun E hE => ?_
  refine SV.seq' ?_
  refine SV.region ?_
  refine SV.op (OpMk.ok (ok_box (kk := 0) (ag := true) (xs := [.sc _, .sc _, .ro _, .ro _]) rfl rfl rfl (fun h => by cases h) rfl rfl (gle rfl))) rfl ?_
  refine SV.op (OpMk.ok (ok_alloc (kk := 1) (xs := [.sc _, .sc _, .nl _, .nl _]) rfl rfl zero_impl_Broker ⟨rfl, rfl, rfl, rfl, rfl, ⟨3, by decide, sz_impl_Client⟩, rfl, ⟨3, by decide, sz_impl_Client⟩, trivial⟩ rfl (gle rfl))) rfl ?_
  refine SV.nil ?_
  refine SV.tn ?_
  refine SV.seq' ?_
  refine SV.joinF (fun (σ : VS) => (((((VS.nil.new (.seq 35 (b.fActive.map tClient))).new (.seq 35 (b.fWaiting.map tClient))).box 26 [σ.bl 0 0, σ.bl 0 1, σ.bl 0 2, σ.bl 0 3]).box 26 [.sc (.int .i64 (b.fPool)), .sc (.int .i64 (b.fNextID)), .hd 0, .hd 1]).put 2 (V.flat false [.bp 1 0]))) ?h ?k
  case k =>
    intro hjn
    refine SV.drawT (.q 0 (.q 1 (.q 2 (.q 3 (.q 5 (.q 6 (.q 9 (.q 10 (.alt 4 (.alt 7 (.m 8 (.m 11 (.q 12 .nil))) 8 (.m 7 (.m 11 (.q 12 .nil)))) 8 (.m 4 (.m 7 (.m 11 (.q 12 .nil))))))))))))) [13] (by kernel_rfl) (by kernel_rfl) ?_
    refine DW.q rfl (ok_field_bp (b := 0) (o' := 0) (off := 0) rfl rfl fld_impl_Broker_0) rfl rfl (gle rfl) (fun _ _ _ _ h => h) ?_
    refine DW.q rfl (ok_load_bp (b := 0) (i := 0) (ag := false) (m := 1) (ys := [.sc _]) rfl rfl rfl agg_int sz_int (fun _ => rfl) rfl rfl (gle rfl)) rfl rfl (gle rfl) (fun _ _ _ _ h => h) ?_
    refine DW.q rfl (ok_field_bp (b := 0) (o' := 0) (off := 1) rfl rfl fld_impl_Broker_1) rfl rfl (gle rfl) (fun _ _ _ _ h => h) ?_
    refine DW.q rfl (ok_load_bp (b := 0) (i := 1) (ag := false) (m := 1) (ys := [.sc _]) rfl rfl rfl agg_int sz_int (fun _ => rfl) rfl rfl (gle rfl)) rfl rfl (gle rfl) (fun _ _ _ _ h => h) ?_
    refine DW.q rfl (ok_field_bp (b := 0) (o' := 0) (off := 2) rfl rfl fld_impl_Broker_2) rfl rfl (gle rfl) (fun _ _ _ _ h => h) ?_
    refine DW.q rfl (ok_load_bp (b := 0) (i := 2) (ag := false) (m := 1) (ys := [.ro _]) rfl rfl rfl agg_s_impl_Client sz_s_impl_Client (fun _ => rfl) rfl rfl (gle rfl)) rfl rfl (gle rfl) (fun _ _ _ _ h => h) ?_
    refine DW.q rfl (ok_field_bp (b := 0) (o' := 0) (off := 3) rfl rfl fld_impl_Broker_3) rfl rfl (gle rfl) (fun _ _ _ _ h => h) ?_
    refine DW.q rfl (ok_load_bp (b := 0) (i := 3) (ag := false) (m := 1) (ys := [.ro _]) rfl rfl rfl agg_s_impl_Client sz_s_impl_Client (fun _ => rfl) rfl rfl (gle rfl)) rfl rfl (gle rfl) (fun _ _ _ _ h => h) ?_
    refine DW.alt ?_ ?_
    · skip   -- first 4
      refine DW.m [0] rfl (ok_lit0 (kk := 0) elt_impl_Client rfl rfl rfl (gle rfl)) rfl (gle rfl) (gle rfl) (.inl rfl) (fun j hj => by
          simp only [List.mem_cons, List.not_mem_nil, or_false] at hj
          rcases hj with rfl
          · exact .inr ⟨(gle rfl), (gle rfl), .inl rfl⟩) ?_
      refine DW.alt ?_ ?_
      · skip   -- first 7
        refine DW.m [1, 0] rfl (ok_append_ro (kk := 1) elt_impl_Client (ls := .hd 0) (lx := .ro _) rfl rfl rfl rfl rfl rfl (flat_impl_Client _) (by first | omega | (simp only [List.length_map]; omega) | (simp; done) | (simp; omega)) rfl (gle rfl)) rfl (gle rfl) (gle rfl) (.inr ⟨0, rfl, .inl (by decide)⟩) (fun j hj => by
            simp only [List.mem_cons, List.not_mem_nil, or_false] at hj
            rcases hj with rfl | rfl
            · exact .inr ⟨(gle rfl), (gle rfl), .inr ⟨0, rfl, by decide⟩⟩
            · exact .inl (by decide)) ?_
        refine DW.m [2, 1, 0] rfl (ok_lit0 (kk := 2) elt_impl_Client rfl rfl rfl (gle rfl)) rfl (gle rfl) (gle rfl) (.inl rfl) (fun j hj => by
            simp only [List.mem_cons, List.not_mem_nil, or_false] at hj
            rcases hj with rfl | rfl | rfl
            · exact .inr ⟨(gle rfl), (gle rfl), .inl rfl⟩
            · exact .inl (by decide)
            · exact .inl (by decide)) ?_
        refine DW.m [3, 2, 1, 0] rfl (ok_append_ro (kk := 3) elt_impl_Client (ls := .hd 2) (lx := .ro _) rfl rfl rfl rfl rfl rfl (flat_impl_Client _) (by first | omega | (simp only [List.length_map]; omega) | (simp; done) | (simp; omega)) rfl (gle rfl)) rfl (gle rfl) (gle rfl) (.inr ⟨2, rfl, .inl (by decide)⟩) (fun j hj => by
            simp only [List.mem_cons, List.not_mem_nil, or_false] at hj
            rcases hj with rfl | rfl | rfl | rfl
            · exact .inr ⟨(gle rfl), (gle rfl), .inr ⟨2, rfl, by decide⟩⟩
            · exact .inl (by decide)
            · exact .inl (by decide)
            · exact .inl (by decide)) ?_
        refine DW.q rfl (ok_build (zs := [.sc _, .sc _, .nl _, .nl _]) (ys := [.sc _, .sc _, .hd 1, .hd 3]) (qs := [(0, [.sc _]), (1, [.sc _]), (2, [.hd 1]), (3, [.hd 3])]) (pl := fun i => ([(0, 1), (1, 1), (2, 1), (3, 1)] : List (Nat × Nat))[i]?) rfl zero_impl_Broker ⟨rfl, rfl, rfl, rfl, rfl, ⟨3, by decide, sz_impl_Client⟩, rfl, ⟨3, by decide, sz_impl_Client⟩, trivial⟩ ⟨⟨rfl, false, rfl, (fun _ => rfl), rfl⟩, ⟨rfl, false, rfl, (fun _ => rfl), rfl⟩, ⟨rfl, false, rfl, (fun _ => rfl), rfl⟩, ⟨rfl, false, rfl, (fun _ => rfl), rfl⟩, trivial⟩ bld_impl_Broker rfl) rfl rfl (gle rfl) (fun _ _ _ _ h => h) ?_
        refine DW.stores ?_
        refine SV.z rfl (ok_store_bp (b := 1) (i := 0) (m := 4) (ag := true) (zs := [.sc _, .sc _, .hd 1, .hd 3]) (ys := [.sc _, .sc _, .hd 1, .hd 3]) rfl rfl rfl rfl sz_impl_Broker (fun h => by cases h) rfl (gle rfl) rfl rfl rfl) rfl ?_
        refine SV.zend ?_
        refine (fun pp le => SV.weaken (fun i => [1, 3].getD i 0) pp le hjn) (pins hE rfl rfl) (VS.le.mk' (le_put (le_box (le_box (le_new (le_new le_nil)))) (V.le.keep (ag := false) (xs := [.bp 1 0]) (ys := [.bp 1 0]) rfl rfl ⟨⟨rfl, (gle rfl)⟩, trivial⟩)) ⟨⟨rfl, ⟨rfl, rfl, rfl, rfl, trivial⟩⟩, ⟨⟨rfl, ⟨(by first | rfl | (show Leaf.sc _ = Leaf.sc _; refine congrArg Leaf.sc ?_; first | rfl | go_num | (simp [cntAll]; done)) | (simp [cntAll]; done) | (simp; omega)), (by first | rfl | (show Leaf.sc _ = Leaf.sc _; refine congrArg Leaf.sc ?_; first | rfl | go_num | (simp [cntAll]; done)) | (simp [cntAll]; done) | (simp; omega)), ⟨rfl, (gle rfl), (gle rfl)⟩, ⟨rfl, (gle rfl), (gle rfl)⟩, trivial⟩⟩, trivial⟩⟩ ⟨.inr ⟨_, _, rfl, ?ob2_1, (gle rfl)⟩, ⟨.inr ⟨_, _, rfl, ?ob2_0, (gle rfl)⟩, trivial⟩⟩ (new_ob (new_ob nil_ob)) (fun i j hi hj e => inj_list (l := [1, 3]) (by decide) i j hi hj e))
        case ob2_0 =>
          show some (T.seq _ _) = some (T.seq _ _)
          first | rfl | exact congrArg some (congrArg (T.seq _) (by simp))
        case ob2_1 =>
          show some (T.seq _ _) = some (T.seq _ _)
          first | rfl | exact congrArg some (congrArg (T.seq _) (by simp))
      · skip   -- first 8
        refine DW.m [1, 0] rfl (ok_lit0 (kk := 1) elt_impl_Client rfl rfl rfl (gle rfl)) rfl (gle rfl) (gle rfl) (.inl rfl) (fun j hj => by
            simp only [List.mem_cons, List.not_mem_nil, or_false] at hj
            rcases hj with rfl | rfl
            · exact .inr ⟨(gle rfl), (gle rfl), .inl rfl⟩
            · exact .inl (by decide)) ?_
        refine DW.m [2, 1, 0] rfl (ok_append_ro (kk := 2) elt_impl_Client (ls := .hd 0) (lx := .ro _) rfl rfl rfl rfl rfl rfl (flat_impl_Client _) (by first | omega | (simp only [List.length_map]; omega) | (simp; done) | (simp; omega)) rfl (gle rfl)) rfl (gle rfl) (gle rfl) (.inr ⟨0, rfl, .inl (by decide)⟩) (fun j hj => by
            simp only [List.mem_cons, List.not_mem_nil, or_false] at hj
            rcases hj with rfl | rfl | rfl
            · exact .inr ⟨(gle rfl), (gle rfl), .inr ⟨0, rfl, by decide⟩⟩
            · exact .inl (by decide)
            · exact .inl (by decide)) ?_
        refine DW.m [3, 2, 1, 0] rfl (ok_append_ro (kk := 3) elt_impl_Client (ls := .hd 1) (lx := .ro _) rfl rfl rfl rfl rfl rfl (flat_impl_Client _) (by first | omega | (simp only [List.length_map]; omega) | (simp; done) | (simp; omega)) rfl (gle rfl)) rfl (gle rfl) (gle rfl) (.inr ⟨1, rfl, .inl (by decide)⟩) (fun j hj => by
            simp only [List.mem_cons, List.not_mem_nil, or_false] at hj
            rcases hj with rfl | rfl | rfl | rfl
            · exact .inr ⟨(gle rfl), (gle rfl), .inr ⟨1, rfl, by decide⟩⟩
            · exact .inl (by decide)
            · exact .inl (by decide)
            · exact .inl (by decide)) ?_
        refine DW.q rfl (ok_build (zs := [.sc _, .sc _, .nl _, .nl _]) (ys := [.sc _, .sc _, .hd 2, .hd 3]) (qs := [(0, [.sc _]), (1, [.sc _]), (2, [.hd 2]), (3, [.hd 3])]) (pl := fun i => ([(0, 1), (1, 1), (2, 1), (3, 1)] : List (Nat × Nat))[i]?) rfl zero_impl_Broker ⟨rfl, rfl, rfl, rfl, rfl, ⟨3, by decide, sz_impl_Client⟩, rfl, ⟨3, by decide, sz_impl_Client⟩, trivial⟩ ⟨⟨rfl, false, rfl, (fun _ => rfl), rfl⟩, ⟨rfl, false, rfl, (fun _ => rfl), rfl⟩, ⟨rfl, false, rfl, (fun _ => rfl), rfl⟩, ⟨rfl, false, rfl, (fun _ => rfl), rfl⟩, trivial⟩ bld_impl_Broker rfl) rfl rfl (gle rfl) (fun _ _ _ _ h => h) ?_
        refine DW.stores ?_
        refine SV.z rfl (ok_store_bp (b := 1) (i := 0) (m := 4) (ag := true) (zs := [.sc _, .sc _, .hd 2, .hd 3]) (ys := [.sc _, .sc _, .hd 2, .hd 3]) rfl rfl rfl rfl sz_impl_Broker (fun h => by cases h) rfl (gle rfl) rfl rfl rfl) rfl ?_
        refine SV.zend ?_
        refine (fun pp le => SV.weaken (fun i => [2, 3].getD i 0) pp le hjn) (pins hE rfl rfl) (VS.le.mk' (le_put (le_box (le_box (le_new (le_new le_nil)))) (V.le.keep (ag := false) (xs := [.bp 1 0]) (ys := [.bp 1 0]) rfl rfl ⟨⟨rfl, (gle rfl)⟩, trivial⟩)) ⟨⟨rfl, ⟨rfl, rfl, rfl, rfl, trivial⟩⟩, ⟨⟨rfl, ⟨(by first | rfl | (show Leaf.sc _ = Leaf.sc _; refine congrArg Leaf.sc ?_; first | rfl | go_num | (simp [cntAll]; done)) | (simp [cntAll]; done) | (simp; omega)), (by first | rfl | (show Leaf.sc _ = Leaf.sc _; refine congrArg Leaf.sc ?_; first | rfl | go_num | (simp [cntAll]; done)) | (simp [cntAll]; done) | (simp; omega)), ⟨rfl, (gle rfl), (gle rfl)⟩, ⟨rfl, (gle rfl), (gle rfl)⟩, trivial⟩⟩, trivial⟩⟩ ⟨.inr ⟨_, _, rfl, ?ob4_1, (gle rfl)⟩, ⟨.inr ⟨_, _, rfl, ?ob4_0, (gle rfl)⟩, trivial⟩⟩ (new_ob (new_ob nil_ob)) (fun i j hi hj e => inj_list (l := [2, 3]) (by decide) i j hi hj e))
        case ob4_0 =>
          show some (T.seq _ _) = some (T.seq _ _)
          first | rfl | exact congrArg some (congrArg (T.seq _) (by simp))
        case ob4_1 =>
          show some (T.seq _ _) = some (T.seq _ _)
          first | rfl | exact congrArg some (congrArg (T.seq _) (by simp))
    · skip   -- first 8
      refine DW.m [0] rfl (ok_lit0 (kk := 0) elt_impl_Client rfl rfl rfl (gle rfl)) rfl (gle rfl) (gle rfl) (.inl rfl) (fun j hj => by
          simp only [List.mem_cons, List.not_mem_nil, or_false] at hj
          rcases hj with rfl
          · exact .inr ⟨(gle rfl), (gle rfl), .inl rfl⟩) ?_
      refine DW.m [1, 0] rfl (ok_lit0 (kk := 1) elt_impl_Client rfl rfl rfl (gle rfl)) rfl (gle rfl) (gle rfl) (.inl rfl) (fun j hj => by
          simp only [List.mem_cons, List.not_mem_nil, or_false] at hj
          rcases hj with rfl | rfl
          · exact .inr ⟨(gle rfl), (gle rfl), .inl rfl⟩
          · exact .inl (by decide)) ?_
      refine DW.m [2, 1, 0] rfl (ok_append_ro (kk := 2) elt_impl_Client (ls := .hd 1) (lx := .ro _) rfl rfl rfl rfl rfl rfl (flat_impl_Client _) (by first | omega | (simp only [List.length_map]; omega) | (simp; done) | (simp; omega)) rfl (gle rfl)) rfl (gle rfl) (gle rfl) (.inr ⟨1, rfl, .inl (by decide)⟩) (fun j hj => by
          simp only [List.mem_cons, List.not_mem_nil, or_false] at hj
          rcases hj with rfl | rfl | rfl
          · exact .inr ⟨(gle rfl), (gle rfl), .inr ⟨1, rfl, by decide⟩⟩
          · exact .inl (by decide)
          · exact .inl (by decide)) ?_
      refine DW.m [3, 2, 1, 0] rfl (ok_append_ro (kk := 3) elt_impl_Client (ls := .hd 0) (lx := .ro _) rfl rfl rfl rfl rfl rfl (flat_impl_Client _) (by first | omega | (simp only [List.length_map]; omega) | (simp; done) | (simp; omega)) rfl (gle rfl)) rfl (gle rfl) (gle rfl) (.inr ⟨0, rfl, .inl (by decide)⟩) (fun j hj => by
          simp only [List.mem_cons, List.not_mem_nil, or_false] at hj
          rcases hj with rfl | rfl | rfl | rfl
          · exact .inr ⟨(gle rfl), (gle rfl), .inr ⟨0, rfl, by decide⟩⟩
          · exact .inl (by decide)
          · exact .inl (by decide)
          · exact .inl (by decide)) ?_
      refine DW.q rfl (ok_build (zs := [.sc _, .sc _, .nl _, .nl _]) (ys := [.sc _, .sc _, .hd 2, .hd 3]) (qs := [(0, [.sc _]), (1, [.sc _]), (2, [.hd 2]), (3, [.hd 3])]) (pl := fun i => ([(0, 1), (1, 1), (2, 1), (3, 1)] : List (Nat × Nat))[i]?) rfl zero_impl_Broker ⟨rfl, rfl, rfl, rfl, rfl, ⟨3, by decide, sz_impl_Client⟩, rfl, ⟨3, by decide, sz_impl_Client⟩, trivial⟩ ⟨⟨rfl, false, rfl, (fun _ => rfl), rfl⟩, ⟨rfl, false, rfl, (fun _ => rfl), rfl⟩, ⟨rfl, false, rfl, (fun _ => rfl), rfl⟩, ⟨rfl, false, rfl, (fun _ => rfl), rfl⟩, trivial⟩ bld_impl_Broker rfl) rfl rfl (gle rfl) (fun _ _ _ _ h => h) ?_
      refine DW.stores ?_
      refine SV.z rfl (ok_store_bp (b := 1) (i := 0) (m := 4) (ag := true) (zs := [.sc _, .sc _, .hd 2, .hd 3]) (ys := [.sc _, .sc _, .hd 2, .hd 3]) rfl rfl rfl rfl sz_impl_Broker (fun h => by cases h) rfl (gle rfl) rfl rfl rfl) rfl ?_
      refine SV.zend ?_
      refine (fun pp le => SV.weaken (fun i => [2, 3].getD i 0) pp le hjn) (pins hE rfl rfl) (VS.le.mk' (le_put (le_box (le_box (le_new (le_new le_nil)))) (V.le.keep (ag := false) (xs := [.bp 1 0]) (ys := [.bp 1 0]) rfl rfl ⟨⟨rfl, (gle rfl)⟩, trivial⟩)) ⟨⟨rfl, ⟨rfl, rfl, rfl, rfl, trivial⟩⟩, ⟨⟨rfl, ⟨(by first | rfl | (show Leaf.sc _ = Leaf.sc _; refine congrArg Leaf.sc ?_; first | rfl | go_num | (simp [cntAll]; done)) | (simp [cntAll]; done) | (simp; omega)), (by first | rfl | (show Leaf.sc _ = Leaf.sc _; refine congrArg Leaf.sc ?_; first | rfl | go_num | (simp [cntAll]; done)) | (simp [cntAll]; done) | (simp; omega)), ⟨rfl, (gle rfl), (gle rfl)⟩, ⟨rfl, (gle rfl), (gle rfl)⟩, trivial⟩⟩, trivial⟩⟩ ⟨.inr ⟨_, _, rfl, ?ob6_1, (gle rfl)⟩, ⟨.inr ⟨_, _, rfl, ?ob6_0, (gle rfl)⟩, trivial⟩⟩ (new_ob (new_ob nil_ob)) (fun i j hi hj e => inj_list (l := [2, 3]) (by decide) i j hi hj e))
      case ob6_0 =>
        show some (T.seq _ _) = some (T.seq _ _)
        first | rfl | exact congrArg some (congrArg (T.seq _) (by simp))
      case ob6_1 =>
        show some (T.seq _ _) = some (T.seq _ _)
        first | rfl | exact congrArg some (congrArg (T.seq _) (by simp))
  case h =>
    refine SV.tn ?_
    refine SV.ret ?_
    apply SV.done (hf := Try.results63) (ht := rfl) (he := .inl rfl)
    case hr => exact (ResAll.cons (ResOk.cell (b := 1) (ag := true) (xs := [.sc _, .sc _, .hd 0, .hd 1]) rfl rfl agg_impl_Broker sz_impl_Broker (fun h => by cases h)) ResAll.nil')
    case h2 => simp [two]
    refine ⟨rfl, ⟨?_, ?_, ?_, ?_, trivial⟩, trivial⟩ <;> rfl
set_option maxRecDepth 100000 in
set_option maxHeartbeats 2000000 in
theorem vatc_s (l : List ClientD) (id : Int) (hL : l.length ≤ 1000000000) : VC Try.prog 68 [(false, [.seq 35 ((l).map tClient)]), (false, [.lit (.int .i64 (id))])] false [(false, [.lit (.int .i64 (BrokerD.atI l id))])] := by
  refine VC.enter Try.func68 rfl Try.ntmps68 (gle rfl) fun E hE => ?_
  refine SV.seq' ?_
  refine SV.region ?_
  refine SV.op (OpL.ok (nb := 0) (ok_move (v := V.one (.sc _)) (.inr rfl) rfl) rfl (gle rfl)) rfl ?_
  refine SV.nil ?_
  refine SV.tn ?_
  refine SV.seq' ?_
  refine SV.seq' ?_
  refine SV.region ?_
  refine SV.op (OpL.ok (nb := 0) (ok_move (v := V.one (.sc _)) (.inr rfl) rfl) rfl (gle rfl)) rfl ?_
  refine SV.nil ?_
  refine SV.tn ?_
  refine SV.block ?_
  refine SV.loopF (X := Nat) (fun (σ : VS) t => ((((VS.nil.put 0 (σ.tm 0)).put 1 (σ.tm 1)).put 4 (σ.tm 4)).put 5 (V.flat false [.sc (.int .i64 ((t : Int)))]))) (fun t => t ≤ l.length ∧ ∀ u c, u < t → l[u]? = some c → c.fID ≠ id) (fun t => l.length - t) ?_ ?_
  · skip
    refine SV.again (fun i => [].getD i 0) 0 (⟨Nat.zero_le _, fun u c h => absurd h (Nat.not_lt_zero u)⟩) (pins hE rfl rfl) (VS.le.mk' (le_put (le_put (le_put (le_put le_nil (V.le.keep (ag := false) (xs := [.ro _]) (ys := [.ro _]) rfl rfl ⟨rfl, trivial⟩)) (V.le.keep (ag := false) (xs := [.sc _]) (ys := [.sc _]) rfl rfl ⟨rfl, trivial⟩)) (V.le.keep (ag := false) (xs := [.sc _]) (ys := [.sc _]) rfl rfl ⟨rfl, trivial⟩)) (V.le.keep (ag := false) (xs := [.sc _]) (ys := [.sc _]) rfl rfl ⟨(by first | rfl | (show Leaf.sc _ = Leaf.sc _; refine congrArg Leaf.sc ?_; first | rfl | go_num | (simp [cntAll]; done)) | (simp [cntAll]; done) | (simp; omega)), trivial⟩)) trivial trivial nil_ob (fun i j hi hj e => absurd hi (Nat.not_lt_zero i)))
  · rintro t ⟨ht, hb⟩
    refine SV.seq' ?_
    refine SV.seq' ?_
    refine SV.region ?_
    refine SV.op (OpL.ok (nb := 0) (ok_move (v := V.one (.sc _)) (.inl rfl) rfl) rfl (gle rfl)) rfl ?_
    refine SV.op (OpL.ok (nb := 0) (ok_move (v := V.one (.ro _)) (.inl rfl) rfl) rfl (gle rfl)) rfl ?_
    refine SV.op (OpL.ok (nb := 0) (ok_len (lf := .ro _) rfl elt_impl_Client.und rfl rfl) rfl (gle rfl)) rfl ?_
    refine SV.op (OpL.ok (nb := 0) (ok_s2 (x := .tmp 6) (x' := .tmp 8) (VScal.one rfl) (VScal.one rfl) (fun ρ h1 h2 w => by go_simp; (try go_bits); with_reducible rfl) rfl) rfl (gle rfl)) rfl ?_
    refine SV.nil ?_
    refine SV.tn ?_
    refine SV.cond rfl (fun hc0 => ?_) (fun hc0 => ?_)
    · skip   -- c0.T
      have htl : t < l.length := by simpa using hc0
      have hx : l[t]? = some l[t] := by simp [htl]
      refine SV.skip ?_
      refine SV.tn ?_
      refine SV.seq' ?_
      refine SV.block ?_
      refine SV.seq' ?_
      refine SV.region ?_
      refine SV.op (OpL.ok (nb := 0) (ok_move (v := V.one (.ro _)) (.inl rfl) rfl) rfl (gle rfl)) rfl ?_
      refine SV.op (OpL.ok (nb := 0) (ok_move (v := V.one (.sc _)) (.inl rfl) rfl) rfl (gle rfl)) rfl ?_
      refine SV.op (OpL.ok (nb := 0) (ok_index (n := 3) (lf := .ro _) rfl elt_impl_Client.und sz_impl_Client rfl rfl rfl (map_at hx)) rfl (gle rfl)) rfl ?_
      refine SV.op (OpL.ok (nb := 0) (ok_field_el (p := .rp _) (off := 0) rfl rfl rfl fld_impl_Client_0) rfl (gle rfl)) rfl ?_
      refine SV.op (OpL.ok (nb := 0) (ok_load_rp (ag := false) (m := 1) (ys := [.sc _]) rfl rfl agg_int sz_int (fun _ => rfl) (gle rfl) rfl) rfl (gle rfl)) rfl ?_
      refine SV.op (OpL.ok (nb := 0) (ok_move (v := V.one (.sc _)) (.inl rfl) rfl) rfl (gle rfl)) rfl ?_
      refine SV.op (OpL.ok (nb := 0) (ok_s2 (x := .tmp 16) (x' := .tmp 17) (VScal.one rfl) (VScal.one rfl) (fun ρ h1 h2 w => by go_simp; (try go_bits); with_reducible rfl) rfl) rfl (gle rfl)) rfl ?_
      refine SV.nil ?_
      refine SV.tn ?_
      refine SV.cond rfl (fun hc1 => ?_) (fun hc1 => ?_)
      · skip   -- c1.T
        have hat : BrokerD.atI l id = t := BrokerD.atI_some (BrokerD.at_some htl (by simpa using hc1) hb)
        refine SV.seq' ?_
        refine SV.region ?_
        refine SV.op (OpL.ok (nb := 0) (ok_move (v := V.one (.sc _)) (.inl rfl) rfl) rfl (gle rfl)) rfl ?_
        refine SV.op (OpL.ok (nb := 0) (ok_move (v := V.one (.sc _)) (.inr rfl) rfl) rfl (gle rfl)) rfl ?_
        refine SV.nil ?_
        refine SV.tn ?_
        refine SV.ret ?_
        refine SV.br ?_
        refine SV.tr ?_
        refine SV.tr ?_
        refine SV.br ?_
        refine SV.tr ?_
        apply SV.done (hf := Try.results68) (ht := rfl) (he := .inl rfl)
        case hr => exact (ResAll.cons (ResOk.tmp (ag := false) (xs := [.sc _]) rfl) ResAll.nil')
        case h2 => simp [two]
        refine ⟨rfl, ⟨?_, trivial⟩, trivial⟩ <;> (show some (T.lit (Value.int .i64 _)) = some (T.lit (Value.int .i64 _)); refine congrArg (fun z => some (T.lit (Value.int .i64 z))) ?_; rw [hat])
      · skip   -- c1.F
        refine SV.skip ?_
        refine SV.bn ?_
        refine SV.tn ?_
        refine SV.region ?_
        refine SV.op (OpL.ok (nb := 0) (ok_move (v := V.one (.sc _)) (.inl rfl) rfl) rfl (gle rfl)) rfl ?_
        refine SV.op (OpL.ok (nb := 0) (ok_s2 (x := .tmp 10) (x' := .const ((Value.int IntKind.i64 1))) (VScal.one rfl) (VScal.one rfl) (fun ρ h1 h2 w => by go_simp; (try go_bits); with_reducible rfl) rfl) rfl (gle rfl)) rfl ?_
        refine SV.op (OpL.ok (nb := 0) (ok_move (v := V.one (.sc _)) (.inr rfl) rfl) rfl (gle rfl)) rfl ?_
        refine SV.nil ?_
        refine SV.tn ?_
        refine SV.again (fun i => [].getD i 0) (t + 1) (⟨⟨by omega, fun u c hu hc => by rcases Nat.lt_or_ge u t with h1 | h1; (exact hb u c h1 hc); (have h2 : u = t := (by omega); subst h2; rw [hx] at hc; cases hc; simpa using hc1)⟩, by omega⟩) (pins hE rfl rfl) (VS.le.mk' (le_put (le_put (le_put (le_put le_nil (V.le.keep (ag := false) (xs := [.ro _]) (ys := [.ro _]) rfl rfl ⟨rfl, trivial⟩)) (V.le.keep (ag := false) (xs := [.sc _]) (ys := [.sc _]) rfl rfl ⟨rfl, trivial⟩)) (V.le.keep (ag := false) (xs := [.sc _]) (ys := [.sc _]) rfl rfl ⟨rfl, trivial⟩)) (V.le.keep (ag := false) (xs := [.sc _]) (ys := [.sc _]) rfl rfl ⟨(by first | rfl | (show Leaf.sc _ = Leaf.sc _; refine congrArg Leaf.sc ?_; first | rfl | go_num | (simp [cntAll]; done)) | (simp [cntAll]; done) | (simp; omega)), trivial⟩)) trivial trivial nil_ob (fun i j hi hj e => absurd hi (Nat.not_lt_zero i)))
    · skip   -- c0.F
      have hte : ¬ t < l.length := by simpa using hc0
      have hat : BrokerD.atI l id = -1 := BrokerD.atI_none (BrokerD.at_none fun c hc => by obtain ⟨u, hu, rfl⟩ := List.mem_iff_getElem.1 hc; exact hb u _ (by omega) (List.getElem?_eq_getElem hu))
      refine SV.exit ?_
      refine SV.te ?_
      refine SV.te ?_
      refine SV.bh ?_
      refine SV.tn ?_
      refine SV.seq' ?_
      refine SV.region ?_
      refine SV.op (OpL.ok (nb := 0) (ok_move (v := V.one (.sc _)) (.inr rfl) rfl) rfl (gle rfl)) rfl ?_
      refine SV.nil ?_
      refine SV.tn ?_
      refine SV.ret ?_
      apply SV.done (hf := Try.results68) (ht := rfl) (he := .inl rfl)
      case hr => exact (ResAll.cons (ResOk.tmp (ag := false) (xs := [.sc _]) rfl) ResAll.nil')
      case h2 => simp [two]
      refine ⟨rfl, ⟨?_, trivial⟩, trivial⟩ <;> (show some (T.lit (Value.int .i64 _)) = some (T.lit (Value.int .i64 _)); refine congrArg (fun z => some (T.lit (Value.int .i64 z))) ?_; rw [hat])
set_option maxRecDepth 100000 in
set_option maxHeartbeats 2000000 in
theorem vdrop_s (l : List ClientD) (k : Nat) (hk : k < l.length) (hL : l.length ≤ 1000000000) : VC Try.prog 69 [(false, [.seq 35 ((l).map tClient)]), (false, [.lit (.int .i64 ((k : Nat)))])] false [(false, [.seq 35 ((l.eraseIdx k).map tClient)])] := by
  refine VC.enter Try.func69 rfl Try.ntmps69 (gle rfl) fun E hE => ?_
  refine SV.seq' ?_
  refine SV.region ?_
  refine SV.op (OpL.ok (nb := 0) (ok_move (v := V.one (.sc _)) (.inr rfl) rfl) rfl (gle rfl)) rfl ?_
  refine SV.nil ?_
  refine SV.tn ?_
  refine SV.seq' ?_
  refine SV.draw [.q 1, .q 2, .q 3, .q 5, .q 6, .q 7, .q 8, .m 0, .m 4, .m 9, .q 10] [] (by kernel_rfl) (by kernel_rfl) ?_
  refine DW.q rfl (ok_move (v := V.one (.ro _)) (.inl rfl) rfl) rfl rfl (gle rfl) (fun _ _ _ _ h => h) ?_
  refine DW.q rfl (ok_move (v := V.one (.sc _)) (.inl rfl) rfl) rfl rfl (gle rfl) (fun _ _ _ _ h => h) ?_
  refine DW.q rfl (ok_slice (l := 0) (h := k) (lf := .ro _) (yy := .ro _) rfl rfl elt_impl_Client.und sz_impl_Client rfl rfl rfl ⟨_, rfl⟩ (by omega) (by simp; omega)) rfl rfl (gle rfl) (fun _ _ _ _ h => h) ?_
  refine DW.q rfl (ok_move (v := V.one (.ro _)) (.inl rfl) rfl) rfl rfl (gle rfl) (fun _ _ _ _ h => h) ?_
  refine DW.q rfl (ok_move (v := V.one (.sc _)) (.inl rfl) rfl) rfl rfl (gle rfl) (fun _ _ _ _ h => h) ?_
  refine DW.q rfl (ok_s2 (v := .int .i64 ((k + 1 : Nat) : Int)) (x := .tmp 11) (x' := .const ((Value.int IntKind.i64 1))) (VScal.one rfl) (VScal.one rfl) (fun ρ h1 h2 w => by go_simp; all_goals ((try go_bits); first | with_reducible rfl | go_num | (simp; done) | (simp; omega))) rfl) rfl rfl (gle rfl) (fun _ _ _ _ h => h) ?_
  refine DW.q rfl (ok_slice (l := k + 1) (h := (l.map tClient).length) (lf := .ro _) (yy := .ro _) rfl rfl elt_impl_Client.und sz_impl_Client rfl rfl ⟨_, rfl⟩ rfl (by simp; omega) (Nat.le_refl _)) rfl rfl (gle rfl) (fun _ _ _ _ h => h) ?_
  refine DW.m [0] rfl (ok_lit0 (kk := 0) elt_impl_Client rfl rfl rfl (gle rfl)) rfl (gle rfl) (gle rfl) (.inl rfl) (fun j hj => by
      simp only [List.mem_cons, List.not_mem_nil, or_false] at hj
      rcases hj with rfl
      · exact .inr ⟨(gle rfl), (gle rfl), .inl rfl⟩) ?_
  refine DW.m [1, 0] rfl (ok_append_ro (kk := 1) elt_impl_Client (ls := .hd 0) (lx := .ro _) rfl rfl rfl rfl rfl rfl (flat_sub (flat_impl_Client _) _ _) (by first | omega | (simp only [List.length_map]; omega) | (simp; done) | (simp; omega)) rfl (gle rfl)) rfl (gle rfl) (gle rfl) (.inr ⟨0, rfl, .inl (by decide)⟩) (fun j hj => by
      simp only [List.mem_cons, List.not_mem_nil, or_false] at hj
      rcases hj with rfl | rfl
      · exact .inr ⟨(gle rfl), (gle rfl), .inr ⟨0, rfl, by decide⟩⟩
      · exact .inl (by decide)) ?_
  refine DW.m [2, 1, 0] rfl (ok_append_ro (kk := 2) elt_impl_Client (ls := .hd 1) (lx := .ro _) rfl rfl rfl rfl rfl rfl (flat_sub (flat_impl_Client _) _ _) (by first | omega | (simp only [List.length_map]; omega) | (simp; done) | (simp; omega)) rfl (gle rfl)) rfl (gle rfl) (gle rfl) (.inr ⟨1, rfl, .inl (by decide)⟩) (fun j hj => by
      simp only [List.mem_cons, List.not_mem_nil, or_false] at hj
      rcases hj with rfl | rfl | rfl
      · exact .inr ⟨(gle rfl), (gle rfl), .inr ⟨1, rfl, by decide⟩⟩
      · exact .inl (by decide)
      · exact .inl (by decide)) ?_
  refine DW.q rfl (ok_move (v := V.one (.hd 2)) (.inr rfl) rfl) rfl rfl (gle rfl) (fun _ _ _ _ h => h) ?_
  refine DW.stores ?_
  refine SV.zend ?_
  refine SV.tn ?_
  refine SV.ret ?_
  apply SV.done (hf := Try.results69) (ht := rfl) (he := .inl rfl)
  case hr => exact (ResAll.cons (ResOk.tmp (ag := false) (xs := [.hd 2]) rfl) ResAll.nil')
  case h2 => simp [two]
  refine ⟨rfl, ⟨?_, trivial⟩, trivial⟩ <;> (show some (T.seq _ _) = some (T.seq _ _); refine congrArg (fun z => some (T.seq _ z)) ?_; rw [BrokerD.erase_at, List.take_length]; simp [List.map_take, List.map_drop])
end Go.Proofs.Ytfghhjcfmmhacaa
/- Brokers' lists: a client put in, comparisons: told by trees. -/
namespace Go.Proofs.Ytfghhjcfmmhacaa
open Go Go.RowKit V
set_option linter.unusedVariables false
set_option maxRecDepth 100000 in
set_option maxHeartbeats 2000000 in
theorem vput_s (l : List ClientD) (c : ClientD) (hL : l.length ≤ 1000000000) : VC Try.prog 70 [(false, [.seq 35 ((l).map tClient)]), (true, tClient c)] false [(false, [.seq 35 ((BrokerD.put l c).map tClient)])] := by
  refine VC.enter Try.func70 rfl Try.ntmps70 (gle rfl) fun E hE => ?_
  refine SV.seq' ?_
  refine SV.region ?_
  refine SV.op (OpMk.ok (ok_box (kk := 0) (ag := true) (xs := [.sc _, .sc _, .sc _]) rfl rfl rfl (fun h => by cases h) rfl rfl (gle rfl))) rfl ?_
  refine SV.op (OpL.ok (nb := 1) (ok_move (v := V.one (.sc _)) (.inr rfl) rfl) rfl (gle rfl)) rfl ?_
  refine SV.nil ?_
  refine SV.tn ?_
  refine SV.seq' ?_
  refine SV.region ?_
  refine SV.op (OpL.ok (nb := 1) (ok_move (v := V.one (.sc _)) (.inr rfl) rfl) rfl (gle rfl)) rfl ?_
  refine SV.nil ?_
  refine SV.tn ?_
  refine SV.seq' ?_
  refine SV.block ?_
  refine SV.loopF (X := Nat) (fun (σ : VS) t => (((((VS.nil.box 35 [σ.bl 0 0, σ.bl 0 1, σ.bl 0 2]).put 0 (σ.tm 0)).put 3 (V.flat false [.bp 0 0])).put 4 (σ.tm 4)).put 5 (V.flat false [.sc (.int .i64 ((t : Int)))]))) (fun t => t ≤ l.length ∧ ∀ u d, u < t → l[u]? = some d → d.fID < c.fID) (fun t => l.length - t) ?_ ?_
  · skip
    refine SV.again (fun i => [].getD i 0) 0 (⟨Nat.zero_le _, fun u c h => absurd h (Nat.not_lt_zero u)⟩) (pins hE rfl rfl) (VS.le.mk' (le_put (le_put (le_put (le_put (le_box le_nil) (V.le.keep (ag := false) (xs := [.ro _]) (ys := [.ro _]) rfl rfl ⟨rfl, trivial⟩)) (V.le.keep (ag := false) (xs := [.bp 0 0]) (ys := [.bp 0 0]) rfl rfl ⟨⟨rfl, (gle rfl)⟩, trivial⟩)) (V.le.keep (ag := false) (xs := [.sc _]) (ys := [.sc _]) rfl rfl ⟨rfl, trivial⟩)) (V.le.keep (ag := false) (xs := [.sc _]) (ys := [.sc _]) rfl rfl ⟨(by first | rfl | (show Leaf.sc _ = Leaf.sc _; refine congrArg Leaf.sc ?_; first | rfl | go_num | (simp [cntAll]; done)) | (simp [cntAll]; done) | (simp; omega)), trivial⟩)) ⟨⟨rfl, ⟨rfl, rfl, rfl, trivial⟩⟩, trivial⟩ trivial nil_ob (fun i j hi hj e => absurd hi (Nat.not_lt_zero i)))
  · rintro t ⟨ht, hb⟩
    refine SV.seq' ?_
    refine SV.seq' ?_
    refine SV.draw [.q 0, .q 1, .q 2, .q 3, .q 4, .q 5, .q 6, .q 7, .q 8, .q 9, .q 10, .q 11, .q 12, .q 13] [] (by kernel_rfl) (by kernel_rfl) ?_
    refine DW.q rfl (ok_move (v := V.one (.sc _)) (.inl rfl) rfl) rfl rfl (gle rfl) (fun _ _ _ _ h => h) ?_
    refine DW.q rfl (ok_move (v := V.one (.ro _)) (.inl rfl) rfl) rfl rfl (gle rfl) (fun _ _ _ _ h => h) ?_
    refine DW.q rfl (ok_len (lf := .ro _) rfl elt_impl_Client.und rfl rfl) rfl rfl (gle rfl) (fun _ _ _ _ h => h) ?_
    refine DW.q rfl (ok_s2 (x := .tmp 7) (x' := .tmp 9) (VScal.one rfl) (VScal.one rfl) (fun ρ h1 h2 w => by go_simp; (try go_bits); with_reducible rfl) rfl) rfl rfl (gle rfl) (fun _ _ _ _ h => h) ?_
    refine DW.q rfl (ok_move (v := V.one (.sc _)) (.inl rfl) rfl) rfl rfl (gle rfl) (fun _ _ _ _ h => h) ?_
    refine DW.split (d := 11) rfl (fun hg0 => ?_) (fun hg0 => ?_)
    · skip   -- g0.T
      have htl : t < l.length := by simpa using hg0
      have hx : l[t]? = some l[t] := by simp [htl]
      refine DW.qY rfl (ok_move (v := V.one (.ro _)) (.inl rfl) rfl) rfl rfl rfl (gle rfl) rfl rfl rfl (gle rfl) (fun _ _ _ _ h => h) ?_
      refine DW.qY rfl (ok_move (v := V.one (.sc _)) (.inl rfl) rfl) rfl rfl rfl (gle rfl) rfl rfl rfl (gle rfl) (fun _ _ _ _ h => h) ?_
      refine DW.qY rfl (ok_index (n := 3) (lf := .ro _) rfl elt_impl_Client.und sz_impl_Client rfl rfl rfl (map_at hx)) rfl rfl rfl (gle rfl) rfl rfl rfl (gle rfl) (fun _ _ _ _ h => h) ?_
      refine DW.qY rfl (ok_field_el (p := .rp _) (off := 0) rfl rfl rfl fld_impl_Client_0) rfl rfl rfl (gle rfl) rfl rfl rfl (gle rfl) (fun _ _ _ _ h => h) ?_
      refine DW.qY rfl (ok_load_rp (ag := false) (m := 1) (ys := [.sc _]) rfl rfl agg_int sz_int (fun _ => rfl) (gle rfl) rfl) rfl rfl rfl (gle rfl) rfl rfl rfl (gle rfl) (fun _ _ _ _ h => h) ?_
      refine DW.qY rfl (ok_field_bp (b := 0) (o' := 0) (off := 0) rfl rfl fld_impl_Client_0) rfl rfl rfl (gle rfl) rfl rfl rfl (gle rfl) (fun _ _ _ _ h => h) ?_
      refine DW.qY rfl (ok_load_bp (b := 0) (i := 0) (ag := false) (m := 1) (ys := [.sc _]) rfl rfl rfl agg_int sz_int (fun _ => rfl) rfl rfl (gle rfl)) rfl rfl rfl (gle rfl) rfl rfl rfl (gle rfl) (fun _ _ _ _ h => h) ?_
      refine DW.qY rfl (ok_s2 (x := .tmp 16) (x' := .tmp 18) (VScal.one rfl) (VScal.one rfl) (fun ρ h1 h2 w => by go_simp; (try go_bits); with_reducible rfl) rfl) rfl rfl rfl (gle rfl) rfl rfl rfl (gle rfl) (fun _ _ _ _ h => h) ?_
      refine DW.q rfl (ok_pickT (v := V.one (.sc _)) rfl rfl rfl) rfl rfl (gle rfl) (fun _ _ _ _ h => h) ?_
      refine DW.stores ?_
      refine SV.zend ?_
      refine SV.tn ?_
      refine SV.cond rfl (fun hc0 => ?_) (fun hc0 => ?_)
      · skip   -- c0.T
        refine SV.skip ?_
        refine SV.tn ?_
        refine SV.block ?_
        refine SV.region ?_
        refine SV.op (OpL.ok (nb := 1) (ok_move (v := V.one (.sc _)) (.inl rfl) rfl) rfl (gle rfl)) rfl ?_
        refine SV.op (OpL.ok (nb := 1) (ok_s2 (x := .tmp 21) (x' := .const ((Value.int IntKind.i64 1))) (VScal.one rfl) (VScal.one rfl) (fun ρ h1 h2 w => by go_simp; (try go_bits); with_reducible rfl) rfl) rfl (gle rfl)) rfl ?_
        refine SV.op (OpL.ok (nb := 1) (ok_move (v := V.one (.sc _)) (.inr rfl) rfl) rfl (gle rfl)) rfl ?_
        refine SV.nil ?_
        refine SV.bn ?_
        refine SV.tn ?_
        refine SV.again (fun i => [].getD i 0) (t + 1) (⟨⟨by omega, fun u d hu hd => by rcases Nat.lt_or_ge u t with h1 | h1; (exact hb u d h1 hd); (have h2 : u = t := (by omega); subst h2; rw [hx] at hd; cases hd; simpa using hc0)⟩, by omega⟩) (pins hE rfl rfl) (VS.le.mk' (le_put (le_put (le_put (le_put (le_box le_nil) (V.le.keep (ag := false) (xs := [.ro _]) (ys := [.ro _]) rfl rfl ⟨rfl, trivial⟩)) (V.le.keep (ag := false) (xs := [.bp 0 0]) (ys := [.bp 0 0]) rfl rfl ⟨⟨rfl, (gle rfl)⟩, trivial⟩)) (V.le.keep (ag := false) (xs := [.sc _]) (ys := [.sc _]) rfl rfl ⟨rfl, trivial⟩)) (V.le.keep (ag := false) (xs := [.sc _]) (ys := [.sc _]) rfl rfl ⟨(by first | rfl | (show Leaf.sc _ = Leaf.sc _; refine congrArg Leaf.sc ?_; first | rfl | go_num | (simp [cntAll]; done)) | (simp [cntAll]; done) | (simp; omega)), trivial⟩)) ⟨⟨rfl, ⟨rfl, rfl, rfl, trivial⟩⟩, trivial⟩ trivial nil_ob (fun i j hi hj e => absurd hi (Nat.not_lt_zero i)))
      · skip   -- c0.F
        have hput := BrokerD.put_at ht hb (fun d hd => by rw [hx] at hd; cases hd; simpa using hc0)
        refine SV.exit ?_
        refine SV.te ?_
        refine SV.te ?_
        refine SV.bh ?_
        refine SV.tn ?_
        refine SV.seq' ?_
        refine SV.draw [.q 0, .q 2, .q 3, .q 4, .m 1, .m 5, .q 6] [] (by kernel_rfl) (by kernel_rfl) ?_
        refine DW.q rfl (ok_load_bp (b := 0) (i := 0) (ag := true) (m := 3) (ys := [.sc _, .sc _, .sc _]) rfl rfl rfl agg_impl_Client sz_impl_Client (fun h => by cases h) rfl rfl (gle rfl)) rfl rfl (gle rfl) (fun _ _ _ _ h => h) ?_
        refine DW.q rfl (ok_move (v := V.one (.ro _)) (.inl rfl) rfl) rfl rfl (gle rfl) (fun _ _ _ _ h => h) ?_
        refine DW.q rfl (ok_move (v := V.one (.sc _)) (.inl rfl) rfl) rfl rfl (gle rfl) (fun _ _ _ _ h => h) ?_
        refine DW.q rfl (ok_slice (l := t) (h := (l.map tClient).length) (lf := .ro _) (yy := .ro _) rfl rfl elt_impl_Client.und sz_impl_Client rfl rfl ⟨_, rfl⟩ rfl (by simp; omega) (Nat.le_refl _)) rfl rfl (gle rfl) (fun _ _ _ _ h => h) ?_
        refine DW.m [0] rfl (ok_lit1 (kk := 0) elt_impl_Client (ag := true) (xs := [.sc _, .sc _, .sc _]) rfl rfl rfl rfl (fun h => by cases h) (outs_c rfl (outs_c rfl (outs_c rfl outs_n))) (by simp [two]) rfl (gle rfl)) rfl (gle rfl) (gle rfl) (.inl rfl) (fun j hj => by
            simp only [List.mem_cons, List.not_mem_nil, or_false] at hj
            rcases hj with rfl
            · exact .inr ⟨(gle rfl), (gle rfl), .inl rfl⟩) ?_
        refine DW.m [1, 0] rfl (ok_append_ro (kk := 1) elt_impl_Client (ls := .hd 0) (lx := .ro _) rfl rfl rfl rfl rfl rfl (flat_sub (flat_impl_Client _) _ _) (by first | omega | (simp only [List.length_map]; omega) | (simp; done) | (simp; omega)) rfl (gle rfl)) rfl (gle rfl) (gle rfl) (.inr ⟨0, rfl, .inl (by decide)⟩) (fun j hj => by
            simp only [List.mem_cons, List.not_mem_nil, or_false] at hj
            rcases hj with rfl | rfl
            · exact .inr ⟨(gle rfl), (gle rfl), .inr ⟨0, rfl, by decide⟩⟩
            · exact .inl (by decide)) ?_
        refine DW.q rfl (ok_move (v := V.one (.hd 1)) (.inr rfl) rfl) rfl rfl (gle rfl) (fun _ _ _ _ h => h) ?_
        refine DW.stores ?_
        refine SV.zend ?_
        refine SV.tn ?_
        refine SV.seq' ?_
        refine SV.region ?_
        refine SV.op (OpMk.ok (ok_lit0 (kk := 2) elt_impl_Client rfl rfl rfl (gle rfl))) rfl ?_
        refine SV.op (OpL.ok (nb := 1) (ok_move (v := V.one (.ro _)) (.inl rfl) rfl) rfl (gle rfl)) rfl ?_
        refine SV.op (OpL.ok (nb := 1) (ok_move (v := V.one (.sc _)) (.inl rfl) rfl) rfl (gle rfl)) rfl ?_
        refine SV.op (OpL.ok (nb := 1) (ok_slice (l := 0) (h := t) (lf := .ro _) (yy := .ro _) rfl rfl elt_impl_Client.und sz_impl_Client rfl rfl rfl ⟨_, rfl⟩ (by omega) (by simp; omega)) rfl (gle rfl)) rfl ?_
        refine SV.op (OpMk.ok (ok_append_ro (kk := 3) elt_impl_Client (ls := .hd 2) (lx := .ro _) rfl rfl rfl rfl rfl rfl (flat_sub (flat_impl_Client _) _ _) (by first | omega | (simp only [List.length_map]; omega) | (simp; done) | (simp; omega)) rfl (gle rfl))) rfl ?_
        refine SV.op (OpL.ok (nb := 1) (ok_move (v := V.one (.hd 1)) (.inl rfl) rfl) rfl (gle rfl)) rfl ?_
        refine SV.op (OpMk.ok (ok_append_ro (kk := 4) elt_impl_Client (ls := .hd 3) (lx := .hd 1) rfl rfl rfl rfl rfl rfl (flat_app (flat_one rfl) (flat_sub (flat_impl_Client _) _ _)) (by first | omega | (simp only [List.length_map]; omega) | (simp; done) | (simp; omega)) rfl (gle rfl))) rfl ?_
        refine SV.op (OpL.ok (nb := 1) (ok_move (v := V.one (.hd 4)) (.inr rfl) rfl) rfl (gle rfl)) rfl ?_
        refine SV.nil ?_
        refine SV.tn ?_
        refine SV.ret ?_
        apply SV.done (hf := Try.results70) (ht := rfl) (he := .inl rfl)
        case hr => exact (ResAll.cons (ResOk.tmp (ag := false) (xs := [.hd 4]) rfl) ResAll.nil')
        case h2 => simp [two]
        refine ⟨rfl, ⟨?_, trivial⟩, trivial⟩ <;> (show some (T.seq _ _) = some (T.seq _ _); refine congrArg (fun z => some (T.seq _ z)) ?_; rw [hput, List.take_length]; simp [List.map_take, List.map_drop]; rfl)
    · skip   -- g0.F
      have hte : ¬ t < l.length := by simpa using hg0
      refine DW.qN (V' := V.one .dead) rfl rfl rfl rfl (gle rfl) rfl rfl rfl (gle rfl) (fun _ _ _ _ h => h) ?_
      refine DW.qN (V' := V.one .dead) rfl rfl rfl rfl (gle rfl) rfl rfl rfl (gle rfl) (fun _ _ _ _ h => h) ?_
      refine DW.qN (V' := V.one .dead) rfl rfl rfl rfl (gle rfl) rfl rfl rfl (gle rfl) (fun _ _ _ _ h => h) ?_
      refine DW.qN (V' := V.one .dead) rfl rfl rfl rfl (gle rfl) rfl rfl rfl (gle rfl) (fun _ _ _ _ h => h) ?_
      refine DW.qN (V' := V.one .dead) rfl rfl rfl rfl (gle rfl) rfl rfl rfl (gle rfl) (fun _ _ _ _ h => h) ?_
      refine DW.qN (V' := V.one .dead) rfl rfl rfl rfl (gle rfl) rfl rfl rfl (gle rfl) (fun _ _ _ _ h => h) ?_
      refine DW.qN (V' := V.one .dead) rfl rfl rfl rfl (gle rfl) rfl rfl rfl (gle rfl) (fun _ _ _ _ h => h) ?_
      refine DW.qN (V' := V.one .dead) rfl rfl rfl rfl (gle rfl) rfl rfl rfl (gle rfl) (fun _ _ _ _ h => h) ?_
      refine DW.q rfl (ok_pickF (v := V.one (.sc _)) rfl rfl rfl) rfl rfl (gle rfl) (fun _ _ _ _ h => h) ?_
      refine DW.stores ?_
      refine SV.zend ?_
      refine SV.tn ?_
      refine SV.cond rfl (fun hc1 => ?_) (fun hc1 => ?_)
      · skip   -- c1.T
        cases hc1
      · skip   -- c1.F
        have hput := BrokerD.put_at ht hb (fun d hd => absurd (V.get_lt hd) hte)
        refine SV.exit ?_
        refine SV.te ?_
        refine SV.te ?_
        refine SV.bh ?_
        refine SV.tn ?_
        refine SV.seq' ?_
        refine SV.draw [.q 0, .q 2, .q 3, .q 4, .m 1, .m 5, .q 6] [] (by kernel_rfl) (by kernel_rfl) ?_
        refine DW.q rfl (ok_load_bp (b := 0) (i := 0) (ag := true) (m := 3) (ys := [.sc _, .sc _, .sc _]) rfl rfl rfl agg_impl_Client sz_impl_Client (fun h => by cases h) rfl rfl (gle rfl)) rfl rfl (gle rfl) (fun _ _ _ _ h => h) ?_
        refine DW.q rfl (ok_move (v := V.one (.ro _)) (.inl rfl) rfl) rfl rfl (gle rfl) (fun _ _ _ _ h => h) ?_
        refine DW.q rfl (ok_move (v := V.one (.sc _)) (.inl rfl) rfl) rfl rfl (gle rfl) (fun _ _ _ _ h => h) ?_
        refine DW.q rfl (ok_slice (l := t) (h := (l.map tClient).length) (lf := .ro _) (yy := .ro _) rfl rfl elt_impl_Client.und sz_impl_Client rfl rfl ⟨_, rfl⟩ rfl (by simp; omega) (Nat.le_refl _)) rfl rfl (gle rfl) (fun _ _ _ _ h => h) ?_
        refine DW.m [0] rfl (ok_lit1 (kk := 0) elt_impl_Client (ag := true) (xs := [.sc _, .sc _, .sc _]) rfl rfl rfl rfl (fun h => by cases h) (outs_c rfl (outs_c rfl (outs_c rfl outs_n))) (by simp [two]) rfl (gle rfl)) rfl (gle rfl) (gle rfl) (.inl rfl) (fun j hj => by
            simp only [List.mem_cons, List.not_mem_nil, or_false] at hj
            rcases hj with rfl
            · exact .inr ⟨(gle rfl), (gle rfl), .inl rfl⟩) ?_
        refine DW.m [1, 0] rfl (ok_append_ro (kk := 1) elt_impl_Client (ls := .hd 0) (lx := .ro _) rfl rfl rfl rfl rfl rfl (flat_sub (flat_impl_Client _) _ _) (by first | omega | (simp only [List.length_map]; omega) | (simp; done) | (simp; omega)) rfl (gle rfl)) rfl (gle rfl) (gle rfl) (.inr ⟨0, rfl, .inl (by decide)⟩) (fun j hj => by
            simp only [List.mem_cons, List.not_mem_nil, or_false] at hj
            rcases hj with rfl | rfl
            · exact .inr ⟨(gle rfl), (gle rfl), .inr ⟨0, rfl, by decide⟩⟩
            · exact .inl (by decide)) ?_
        refine DW.q rfl (ok_move (v := V.one (.hd 1)) (.inr rfl) rfl) rfl rfl (gle rfl) (fun _ _ _ _ h => h) ?_
        refine DW.stores ?_
        refine SV.zend ?_
        refine SV.tn ?_
        refine SV.seq' ?_
        refine SV.region ?_
        refine SV.op (OpMk.ok (ok_lit0 (kk := 2) elt_impl_Client rfl rfl rfl (gle rfl))) rfl ?_
        refine SV.op (OpL.ok (nb := 1) (ok_move (v := V.one (.ro _)) (.inl rfl) rfl) rfl (gle rfl)) rfl ?_
        refine SV.op (OpL.ok (nb := 1) (ok_move (v := V.one (.sc _)) (.inl rfl) rfl) rfl (gle rfl)) rfl ?_
        refine SV.op (OpL.ok (nb := 1) (ok_slice (l := 0) (h := t) (lf := .ro _) (yy := .ro _) rfl rfl elt_impl_Client.und sz_impl_Client rfl rfl rfl ⟨_, rfl⟩ (by omega) (by simp; omega)) rfl (gle rfl)) rfl ?_
        refine SV.op (OpMk.ok (ok_append_ro (kk := 3) elt_impl_Client (ls := .hd 2) (lx := .ro _) rfl rfl rfl rfl rfl rfl (flat_sub (flat_impl_Client _) _ _) (by first | omega | (simp only [List.length_map]; omega) | (simp; done) | (simp; omega)) rfl (gle rfl))) rfl ?_
        refine SV.op (OpL.ok (nb := 1) (ok_move (v := V.one (.hd 1)) (.inl rfl) rfl) rfl (gle rfl)) rfl ?_
        refine SV.op (OpMk.ok (ok_append_ro (kk := 4) elt_impl_Client (ls := .hd 3) (lx := .hd 1) rfl rfl rfl rfl rfl rfl (flat_app (flat_one rfl) (flat_sub (flat_impl_Client _) _ _)) (by first | omega | (simp only [List.length_map]; omega) | (simp; done) | (simp; omega)) rfl (gle rfl))) rfl ?_
        refine SV.op (OpL.ok (nb := 1) (ok_move (v := V.one (.hd 4)) (.inr rfl) rfl) rfl (gle rfl)) rfl ?_
        refine SV.nil ?_
        refine SV.tn ?_
        refine SV.ret ?_
        apply SV.done (hf := Try.results70) (ht := rfl) (he := .inl rfl)
        case hr => exact (ResAll.cons (ResOk.tmp (ag := false) (xs := [.hd 4]) rfl) ResAll.nil')
        case h2 => simp [two]
        refine ⟨rfl, ⟨?_, trivial⟩, trivial⟩ <;> (show some (T.seq _ _) = some (T.seq _ _); refine congrArg (fun z => some (T.seq _ z)) ?_; rw [hput, List.take_length]; simp [List.map_take, List.map_drop]; rfl)
set_option maxRecDepth 100000 in
set_option maxHeartbeats 2000000 in
theorem vsamec_s (A B : List ClientD) (hA : A.length ≤ 1000000000) (hB : B.length ≤ 1000000000) : VC Try.prog 64 [(false, [.seq 35 ((A).map tClient)]), (false, [.seq 35 ((B).map tClient)])] false [(false, [.lit (.bool (decide (A = B)))])] := by
  refine VC.enter Try.func64 rfl Try.ntmps64 (gle rfl) fun E hE => ?_
  refine SV.seq' ?_
  refine SV.region ?_
  refine SV.op (OpL.ok (nb := 0) (ok_move (v := V.one (.sc _)) (.inr rfl) rfl) rfl (gle rfl)) rfl ?_
  refine SV.nil ?_
  refine SV.tn ?_
  refine SV.seq' ?_
  refine SV.seq' ?_
  refine SV.region ?_
  refine SV.op (OpL.ok (nb := 0) (ok_move (v := V.one (.ro _)) (.inl rfl) rfl) rfl (gle rfl)) rfl ?_
  refine SV.op (OpL.ok (nb := 0) (ok_len (lf := .ro _) rfl elt_impl_Client.und rfl rfl) rfl (gle rfl)) rfl ?_
  refine SV.op (OpL.ok (nb := 0) (ok_move (v := V.one (.ro _)) (.inl rfl) rfl) rfl (gle rfl)) rfl ?_
  refine SV.op (OpL.ok (nb := 0) (ok_len (lf := .ro _) rfl elt_impl_Client.und rfl rfl) rfl (gle rfl)) rfl ?_
  refine SV.op (OpL.ok (nb := 0) (ok_s2 (x := .tmp 7) (x' := .tmp 9) (VScal.one rfl) (VScal.one rfl) (fun ρ h1 h2 w => by go_simp; (try go_bits); with_reducible rfl) rfl) rfl (gle rfl)) rfl ?_
  refine SV.nil ?_
  refine SV.tn ?_
  refine SV.cond rfl (fun hc0 => ?_) (fun hc0 => ?_)
  · skip   -- c0.T
    have ho : decide (A = B) = false := by rw [decide_eq_false_iff_not]; rintro rfl; simp at hc0
    refine SV.seq' ?_
    refine SV.region ?_
    refine SV.op (OpL.ok (nb := 0) (ok_move (v := V.one (.sc _)) (.inr rfl) rfl) rfl (gle rfl)) rfl ?_
    refine SV.nil ?_
    refine SV.tn ?_
    refine SV.ret ?_
    refine SV.tr ?_
    apply SV.done (hf := Try.results64) (ht := rfl) (he := .inl rfl)
    case hr => exact (ResAll.cons (ResOk.tmp (ag := false) (xs := [.sc _]) rfl) ResAll.nil')
    case h2 => simp [two]
    refine ⟨rfl, ⟨?_, trivial⟩, trivial⟩ <;> (show some (T.lit (Value.bool _)) = some (T.lit (Value.bool _)); refine congrArg (fun z => some (T.lit (Value.bool z))) ?_; rw [ho])
  · skip   -- c0.F
    have hlen : A.length = B.length := by simp at hc0; omega
    refine SV.skip ?_
    refine SV.tn ?_
    refine SV.seq' ?_
    refine SV.seq' ?_
    refine SV.region ?_
    refine SV.op (OpL.ok (nb := 0) (ok_move (v := V.one (.sc _)) (.inr rfl) rfl) rfl (gle rfl)) rfl ?_
    refine SV.nil ?_
    refine SV.tn ?_
    refine SV.block ?_
    refine SV.loopF (X := Nat) (fun (σ : VS) t => ((((VS.nil.put 0 (σ.tm 0)).put 1 (σ.tm 1)).put 4 (σ.tm 4)).put 5 (V.flat false [.sc (.int .i64 ((t : Int)))]))) (fun t => t ≤ A.length ∧ ∀ u, u < t → A[u]? = B[u]?) (fun t => A.length - t) ?_ ?_
    · skip
      refine SV.again (fun i => [].getD i 0) 0 (⟨Nat.zero_le _, fun u h => absurd h (Nat.not_lt_zero u)⟩) (pins hE rfl rfl) (VS.le.mk' (le_put (le_put (le_put (le_put le_nil (V.le.keep (ag := false) (xs := [.ro _]) (ys := [.ro _]) rfl rfl ⟨rfl, trivial⟩)) (V.le.keep (ag := false) (xs := [.ro _]) (ys := [.ro _]) rfl rfl ⟨rfl, trivial⟩)) (V.le.keep (ag := false) (xs := [.sc _]) (ys := [.sc _]) rfl rfl ⟨rfl, trivial⟩)) (V.le.keep (ag := false) (xs := [.sc _]) (ys := [.sc _]) rfl rfl ⟨(by first | rfl | (show Leaf.sc _ = Leaf.sc _; refine congrArg Leaf.sc ?_; first | rfl | go_num | (simp [cntAll]; done)) | (simp [cntAll]; done) | (simp; omega)), trivial⟩)) trivial trivial nil_ob (fun i j hi hj e => absurd hi (Nat.not_lt_zero i)))
    · rintro t ⟨ht, hb⟩
      refine SV.seq' ?_
      refine SV.seq' ?_
      refine SV.region ?_
      refine SV.op (OpL.ok (nb := 0) (ok_move (v := V.one (.sc _)) (.inl rfl) rfl) rfl (gle rfl)) rfl ?_
      refine SV.op (OpL.ok (nb := 0) (ok_move (v := V.one (.ro _)) (.inl rfl) rfl) rfl (gle rfl)) rfl ?_
      refine SV.op (OpL.ok (nb := 0) (ok_len (lf := .ro _) rfl elt_impl_Client.und rfl rfl) rfl (gle rfl)) rfl ?_
      refine SV.op (OpL.ok (nb := 0) (ok_s2 (x := .tmp 11) (x' := .tmp 13) (VScal.one rfl) (VScal.one rfl) (fun ρ h1 h2 w => by go_simp; (try go_bits); with_reducible rfl) rfl) rfl (gle rfl)) rfl ?_
      refine SV.nil ?_
      refine SV.tn ?_
      refine SV.cond rfl (fun hc1 => ?_) (fun hc1 => ?_)
      · skip   -- c1.T
        have htl : t < A.length := by simp at hc1; omega
        have hx : A[t]? = some A[t] := by simp [htl]
        have hy : B[t]? = some (B[t]'(by omega)) := by simp
        refine SV.skip ?_
        refine SV.tn ?_
        refine SV.seq' ?_
        refine SV.block ?_
        refine SV.seq' ?_
        refine SV.draw [.q 0, .q 1, .q 2, .q 3, .q 4, .q 5, .q 6, .q 7, .q 8] [] (by kernel_rfl) (by kernel_rfl) ?_
        refine DW.q rfl (ok_move (v := V.one (.ro _)) (.inl rfl) rfl) rfl rfl (gle rfl) (fun _ _ _ _ h => h) ?_
        refine DW.q rfl (ok_move (v := V.one (.sc _)) (.inl rfl) rfl) rfl rfl (gle rfl) (fun _ _ _ _ h => h) ?_
        refine DW.q rfl (ok_index (n := 3) (lf := .ro _) rfl elt_impl_Client.und sz_impl_Client rfl rfl rfl (map_at hx)) rfl rfl (gle rfl) (fun _ _ _ _ h => h) ?_
        refine DW.q rfl (ok_load_rp (ag := true) (m := 3) (ys := [.sc _, .sc _, .sc _]) rfl rfl agg_impl_Client sz_impl_Client (fun h => by cases h) (gle rfl) rfl) rfl rfl (gle rfl) (fun _ _ _ _ h => h) ?_
        refine DW.q rfl (ok_move (v := V.one (.ro _)) (.inl rfl) rfl) rfl rfl (gle rfl) (fun _ _ _ _ h => h) ?_
        refine DW.q rfl (ok_move (v := V.one (.sc _)) (.inl rfl) rfl) rfl rfl (gle rfl) (fun _ _ _ _ h => h) ?_
        refine DW.q rfl (ok_index (n := 3) (lf := .ro _) rfl elt_impl_Client.und sz_impl_Client rfl rfl rfl (map_at hy)) rfl rfl (gle rfl) (fun _ _ _ _ h => h) ?_
        refine DW.q rfl (ok_load_rp (ag := true) (m := 3) (ys := [.sc _, .sc _, .sc _]) rfl rfl agg_impl_Client sz_impl_Client (fun h => by cases h) (gle rfl) rfl) rfl rfl (gle rfl) (fun _ _ _ _ h => h) ?_
        refine DW.q rfl (ok_s2 (v := .bool (decide (A[t] ≠ B[t]'(by omega)))) (x := .tmp 20) (x' := .tmp 24) ⟨true, [_, _, _], rfl, rfl⟩ ⟨true, [_, _, _], rfl, rfl⟩ (fun ρ h1 h2 w => neq_impl_Client A[t] (B[t]'(by omega)) ρ _ _ _ w rfl h1 h2) rfl) rfl rfl (gle rfl) (fun _ _ _ _ h => h) ?_
        refine DW.stores ?_
        refine SV.zend ?_
        refine SV.tn ?_
        refine SV.cond rfl (fun hc2 => ?_) (fun hc2 => ?_)
        · skip   -- c2.T
          have ho : decide (A = B) = false := by rw [decide_eq_false_iff_not]; rintro rfl; simp at hc2
          refine SV.seq' ?_
          refine SV.region ?_
          refine SV.op (OpL.ok (nb := 0) (ok_move (v := V.one (.sc _)) (.inr rfl) rfl) rfl (gle rfl)) rfl ?_
          refine SV.nil ?_
          refine SV.tn ?_
          refine SV.ret ?_
          refine SV.br ?_
          refine SV.tr ?_
          refine SV.tr ?_
          refine SV.br ?_
          refine SV.tr ?_
          apply SV.done (hf := Try.results64) (ht := rfl) (he := .inl rfl)
          case hr => exact (ResAll.cons (ResOk.tmp (ag := false) (xs := [.sc _]) rfl) ResAll.nil')
          case h2 => simp [two]
          refine ⟨rfl, ⟨?_, trivial⟩, trivial⟩ <;> (show some (T.lit (Value.bool _)) = some (T.lit (Value.bool _)); refine congrArg (fun z => some (T.lit (Value.bool z))) ?_; rw [ho])
        · skip   -- c2.F
          refine SV.skip ?_
          refine SV.bn ?_
          refine SV.tn ?_
          refine SV.region ?_
          refine SV.op (OpL.ok (nb := 0) (ok_move (v := V.one (.sc _)) (.inl rfl) rfl) rfl (gle rfl)) rfl ?_
          refine SV.op (OpL.ok (nb := 0) (ok_s2 (x := .tmp 15) (x' := .const ((Value.int IntKind.i64 1))) (VScal.one rfl) (VScal.one rfl) (fun ρ h1 h2 w => by go_simp; (try go_bits); with_reducible rfl) rfl) rfl (gle rfl)) rfl ?_
          refine SV.op (OpL.ok (nb := 0) (ok_move (v := V.one (.sc _)) (.inr rfl) rfl) rfl (gle rfl)) rfl ?_
          refine SV.nil ?_
          refine SV.tn ?_
          refine SV.again (fun i => [].getD i 0) (t + 1) (⟨⟨by omega, fun u hu => by rcases Nat.lt_or_ge u t with h1 | h1; (exact hb u h1); (have h2 : u = t := (by omega); subst h2; rw [hx, hy]; exact congrArg some (by simpa using hc2))⟩, by omega⟩) (pins hE rfl rfl) (VS.le.mk' (le_put (le_put (le_put (le_put le_nil (V.le.keep (ag := false) (xs := [.ro _]) (ys := [.ro _]) rfl rfl ⟨rfl, trivial⟩)) (V.le.keep (ag := false) (xs := [.ro _]) (ys := [.ro _]) rfl rfl ⟨rfl, trivial⟩)) (V.le.keep (ag := false) (xs := [.sc _]) (ys := [.sc _]) rfl rfl ⟨rfl, trivial⟩)) (V.le.keep (ag := false) (xs := [.sc _]) (ys := [.sc _]) rfl rfl ⟨(by first | rfl | (show Leaf.sc _ = Leaf.sc _; refine congrArg Leaf.sc ?_; first | rfl | go_num | (simp [cntAll]; done)) | (simp [cntAll]; done) | (simp; omega)), trivial⟩)) trivial trivial nil_ob (fun i j hi hj e => absurd hi (Nat.not_lt_zero i)))
      · skip   -- c1.F
        have hte : ¬ t < A.length := by simp at hc1; omega
        have ho : decide (A = B) = true := by rw [decide_eq_true_iff]; exact List.ext_getElem? fun u => by rcases Nat.lt_or_ge u t with h1 | h1; (exact hb u h1); (rw [List.getElem?_eq_none (by omega), List.getElem?_eq_none (by omega)])
        refine SV.exit ?_
        refine SV.te ?_
        refine SV.te ?_
        refine SV.bh ?_
        refine SV.tn ?_
        refine SV.seq' ?_
        refine SV.region ?_
        refine SV.op (OpL.ok (nb := 0) (ok_move (v := V.one (.sc _)) (.inr rfl) rfl) rfl (gle rfl)) rfl ?_
        refine SV.nil ?_
        refine SV.tn ?_
        refine SV.ret ?_
        apply SV.done (hf := Try.results64) (ht := rfl) (he := .inl rfl)
        case hr => exact (ResAll.cons (ResOk.tmp (ag := false) (xs := [.sc _]) rfl) ResAll.nil')
        case h2 => simp [two]
        refine ⟨rfl, ⟨?_, trivial⟩, trivial⟩ <;> (show some (T.lit (Value.bool _)) = some (T.lit (Value.bool _)); refine congrArg (fun z => some (T.lit (Value.bool z))) ?_; rw [ho])
set_option maxRecDepth 100000 in
set_option maxHeartbeats 2000000 in
theorem veqb_s (a b : BrokerD) (hA : a.fActive.length ≤ 1000000000 ∧ a.fWaiting.length ≤ 1000000000) (hB : b.fActive.length ≤ 1000000000 ∧ b.fWaiting.length ≤ 1000000000) : VC Try.prog 25 [(true, tBroker a), (true, tBroker b)] false [(false, [.lit (.bool (decide (a = b)))])] := by
  refine VC.enter Try.func25 rfl Try.ntmps25 (gle rfl) fun E hE => ?_
  refine SV.seq' ?_
  refine SV.region ?_
  refine SV.op (OpMk.ok (ok_box (kk := 0) (ag := true) (xs := [.sc _, .sc _, .ro _, .ro _]) rfl rfl rfl (fun h => by cases h) rfl rfl (gle rfl))) rfl ?_
  refine SV.op (OpMk.ok (ok_box (kk := 1) (ag := true) (xs := [.sc _, .sc _, .ro _, .ro _]) rfl rfl rfl (fun h => by cases h) rfl rfl (gle rfl))) rfl ?_
  refine SV.op (OpL.ok (nb := 2) (ok_move (v := V.one (.sc _)) (.inr rfl) rfl) rfl (gle rfl)) rfl ?_
  refine SV.nil ?_
  refine SV.tn ?_
  refine SV.seq' ?_
  refine SV.region ?_
  refine SV.op (OpL.ok (nb := 2) (ok_field_bp (b := 0) (o' := 0) (off := 0) rfl rfl fld_impl_Broker_0) rfl (gle rfl)) rfl ?_
  refine SV.op (OpL.ok (nb := 2) (ok_load_bp (b := 0) (i := 0) (ag := false) (m := 1) (ys := [.sc _]) rfl rfl rfl agg_int sz_int (fun _ => rfl) rfl rfl (gle rfl)) rfl (gle rfl)) rfl ?_
  refine SV.op (OpL.ok (nb := 2) (ok_field_bp (b := 1) (o' := 0) (off := 0) rfl rfl fld_impl_Broker_0) rfl (gle rfl)) rfl ?_
  refine SV.op (OpL.ok (nb := 2) (ok_load_bp (b := 1) (i := 0) (ag := false) (m := 1) (ys := [.sc _]) rfl rfl rfl agg_int sz_int (fun _ => rfl) rfl rfl (gle rfl)) rfl (gle rfl)) rfl ?_
  refine SV.op (OpL.ok (nb := 2) (ok_s2 (x := .tmp 6) (x' := .tmp 8) (VScal.one rfl) (VScal.one rfl) (fun ρ h1 h2 w => by go_simp; (try go_bits); with_reducible rfl) rfl) rfl (gle rfl)) rfl ?_
  refine SV.op (OpL.ok (nb := 2) (ok_move (v := V.one (.sc _)) (.inl rfl) rfl) rfl (gle rfl)) rfl ?_
  refine SV.split (d := 10) rfl (fun hg0 => ?_) (fun hg0 => ?_)
  · skip   -- g0.T
    refine SV.opY (OpL.ok (nb := 2) (ok_field_bp (b := 0) (o' := 0) (off := 1) rfl rfl fld_impl_Broker_1) rfl (gle rfl)) rfl rfl rfl (gle rfl) rfl rfl ?_
    refine SV.opY (OpL.ok (nb := 2) (ok_load_bp (b := 0) (i := 1) (ag := false) (m := 1) (ys := [.sc _]) rfl rfl rfl agg_int sz_int (fun _ => rfl) rfl rfl (gle rfl)) rfl (gle rfl)) rfl rfl rfl (gle rfl) rfl rfl ?_
    refine SV.opY (OpL.ok (nb := 2) (ok_field_bp (b := 1) (o' := 0) (off := 1) rfl rfl fld_impl_Broker_1) rfl (gle rfl)) rfl rfl rfl (gle rfl) rfl rfl ?_
    refine SV.opY (OpL.ok (nb := 2) (ok_load_bp (b := 1) (i := 1) (ag := false) (m := 1) (ys := [.sc _]) rfl rfl rfl agg_int sz_int (fun _ => rfl) rfl rfl (gle rfl)) rfl (gle rfl)) rfl rfl rfl (gle rfl) rfl rfl ?_
    refine SV.opY (OpL.ok (nb := 2) (ok_s2 (x := .tmp 12) (x' := .tmp 14) (VScal.one rfl) (VScal.one rfl) (fun ρ h1 h2 w => by go_simp; (try go_bits); with_reducible rfl) rfl) rfl (gle rfl)) rfl rfl rfl (gle rfl) rfl rfl ?_
    refine SV.op (OpL.ok (nb := 2) (ok_pickT (v := V.one (.sc _)) rfl rfl rfl) rfl (gle rfl)) rfl ?_
    refine SV.op (OpL.ok (nb := 2) (ok_move (v := V.one (.sc _)) (.inl rfl) rfl) rfl (gle rfl)) rfl ?_
    refine SV.split (d := 17) rfl (fun hg1 => ?_) (fun hg1 => ?_)
    · skip   -- g1.T
      refine SV.opY (OpL.ok (nb := 2) (ok_field_bp (b := 0) (o' := 0) (off := 2) rfl rfl fld_impl_Broker_2) rfl (gle rfl)) rfl rfl rfl (gle rfl) rfl rfl ?_
      refine SV.opY (OpL.ok (nb := 2) (ok_load_bp (b := 0) (i := 2) (ag := false) (m := 1) (ys := [.ro _]) rfl rfl rfl agg_s_impl_Client sz_s_impl_Client (fun _ => rfl) rfl rfl (gle rfl)) rfl (gle rfl)) rfl rfl rfl (gle rfl) rfl rfl ?_
      refine SV.opY (OpL.ok (nb := 2) (ok_field_bp (b := 1) (o' := 0) (off := 2) rfl rfl fld_impl_Broker_2) rfl (gle rfl)) rfl rfl rfl (gle rfl) rfl rfl ?_
      refine SV.opY (OpL.ok (nb := 2) (ok_load_bp (b := 1) (i := 2) (ag := false) (m := 1) (ys := [.ro _]) rfl rfl rfl agg_s_impl_Client sz_s_impl_Client (fun _ => rfl) rfl rfl (gle rfl)) rfl (gle rfl)) rfl rfl rfl (gle rfl) rfl rfl ?_
      refine SV.opY (OpMk.ok (ok_call (ls := [(false, [.sc _])]) rfl rfl ⟨_, _, Try.func64, rfl, by decide⟩ (vsamec_s a.fActive b.fActive (by omega) (by omega)) ⟨⟨[.ro _], rfl, ⟨rfl, trivial⟩⟩, ⟨[.ro _], rfl, ⟨rfl, trivial⟩⟩, trivial⟩ rfl (gle rfl))) rfl rfl rfl (gle rfl) rfl rfl ?_
      refine SV.op (OpL.ok (nb := 2) (ok_pickT (v := V.one (.sc _)) rfl rfl rfl) rfl (gle rfl)) rfl ?_
      refine SV.op (OpL.ok (nb := 2) (ok_move (v := V.one (.sc _)) (.inl rfl) rfl) rfl (gle rfl)) rfl ?_
      refine SV.split (d := 24) rfl (fun hg2 => ?_) (fun hg2 => ?_)
      · skip   -- g2.T
        refine SV.opY (OpL.ok (nb := 2) (ok_field_bp (b := 0) (o' := 0) (off := 3) rfl rfl fld_impl_Broker_3) rfl (gle rfl)) rfl rfl rfl (gle rfl) rfl rfl ?_
        refine SV.opY (OpL.ok (nb := 2) (ok_load_bp (b := 0) (i := 3) (ag := false) (m := 1) (ys := [.ro _]) rfl rfl rfl agg_s_impl_Client sz_s_impl_Client (fun _ => rfl) rfl rfl (gle rfl)) rfl (gle rfl)) rfl rfl rfl (gle rfl) rfl rfl ?_
        refine SV.opY (OpL.ok (nb := 2) (ok_field_bp (b := 1) (o' := 0) (off := 3) rfl rfl fld_impl_Broker_3) rfl (gle rfl)) rfl rfl rfl (gle rfl) rfl rfl ?_
        refine SV.opY (OpL.ok (nb := 2) (ok_load_bp (b := 1) (i := 3) (ag := false) (m := 1) (ys := [.ro _]) rfl rfl rfl agg_s_impl_Client sz_s_impl_Client (fun _ => rfl) rfl rfl (gle rfl)) rfl (gle rfl)) rfl rfl rfl (gle rfl) rfl rfl ?_
        refine SV.opY (OpMk.ok (ok_call (ls := [(false, [.sc _])]) rfl rfl ⟨_, _, Try.func64, rfl, by decide⟩ (vsamec_s a.fWaiting b.fWaiting (by omega) (by omega)) ⟨⟨[.ro _], rfl, ⟨rfl, trivial⟩⟩, ⟨[.ro _], rfl, ⟨rfl, trivial⟩⟩, trivial⟩ rfl (gle rfl))) rfl rfl rfl (gle rfl) rfl rfl ?_
        refine SV.op (OpL.ok (nb := 2) (ok_pickT (v := V.one (.sc _)) rfl rfl rfl) rfl (gle rfl)) rfl ?_
        refine SV.op (OpL.ok (nb := 2) (ok_move (v := V.one (.sc _)) (.inr rfl) rfl) rfl (gle rfl)) rfl ?_
        refine SV.nil ?_
        refine SV.tn ?_
        refine SV.ret ?_
        apply SV.done (hf := Try.results25) (ht := rfl) (he := .inl rfl)
        case hr => exact (ResAll.cons (ResOk.tmp (ag := false) (xs := [.sc _]) rfl) ResAll.nil')
        case h2 => simp [two]
        refine ⟨rfl, ⟨?_, trivial⟩, trivial⟩ <;> (show some (T.lit (Value.bool _)) = some (T.lit (Value.bool _)); refine congrArg (fun z => some (T.lit (Value.bool z))) ?_; (obtain ⟨a1, a2, a3, a4⟩ := a; obtain ⟨b1, b2, b3, b4⟩ := b; rw [Bool.eq_iff_iff]; simp only [BrokerD.mk.injEq, decide_eq_true_eq]; first | (simp_all; done) | (simp at *; simp_all; done) | (constructor <;> intro h <;> simp_all; done)))
      · skip   -- g2.F
        refine SV.opN rfl rfl rfl (gle rfl) rfl rfl rfl (gle rfl) ?_
        refine SV.opN rfl rfl rfl (gle rfl) rfl rfl rfl (gle rfl) ?_
        refine SV.opN rfl rfl rfl (gle rfl) rfl rfl rfl (gle rfl) ?_
        refine SV.opN rfl rfl rfl (gle rfl) rfl rfl rfl (gle rfl) ?_
        refine SV.opN rfl rfl rfl (gle rfl) rfl rfl rfl (gle rfl) ?_
        refine SV.op (OpL.ok (nb := 2) (ok_pickF (v := V.one (.sc _)) rfl rfl rfl) rfl (gle rfl)) rfl ?_
        refine SV.op (OpL.ok (nb := 2) (ok_move (v := V.one (.sc _)) (.inr rfl) rfl) rfl (gle rfl)) rfl ?_
        refine SV.nil ?_
        refine SV.tn ?_
        refine SV.ret ?_
        apply SV.done (hf := Try.results25) (ht := rfl) (he := .inl rfl)
        case hr => exact (ResAll.cons (ResOk.tmp (ag := false) (xs := [.sc _]) rfl) ResAll.nil')
        case h2 => simp [two]
        refine ⟨rfl, ⟨?_, trivial⟩, trivial⟩ <;> (show some (T.lit (Value.bool _)) = some (T.lit (Value.bool _)); refine congrArg (fun z => some (T.lit (Value.bool z))) ?_; (obtain ⟨a1, a2, a3, a4⟩ := a; obtain ⟨b1, b2, b3, b4⟩ := b; rw [Bool.eq_iff_iff]; simp only [BrokerD.mk.injEq, decide_eq_true_eq]; first | (simp_all; done) | (simp at *; simp_all; done) | (constructor <;> intro h <;> simp_all; done)))
    · skip   -- g1.F
      refine SV.opN rfl rfl rfl (gle rfl) rfl rfl rfl (gle rfl) ?_
      refine SV.opN rfl rfl rfl (gle rfl) rfl rfl rfl (gle rfl) ?_
      refine SV.opN rfl rfl rfl (gle rfl) rfl rfl rfl (gle rfl) ?_
      refine SV.opN rfl rfl rfl (gle rfl) rfl rfl rfl (gle rfl) ?_
      refine SV.opN rfl rfl rfl (gle rfl) rfl rfl rfl (gle rfl) ?_
      refine SV.op (OpL.ok (nb := 2) (ok_pickF (v := V.one (.sc _)) rfl rfl rfl) rfl (gle rfl)) rfl ?_
      refine SV.op (OpL.ok (nb := 2) (ok_move (v := V.one (.sc _)) (.inl rfl) rfl) rfl (gle rfl)) rfl ?_
      refine SV.split (d := 24) rfl (fun hg3 => ?_) (fun hg3 => ?_)
      · skip   -- g3.T
        refine SV.opY (OpL.ok (nb := 2) (ok_field_bp (b := 0) (o' := 0) (off := 3) rfl rfl fld_impl_Broker_3) rfl (gle rfl)) rfl rfl rfl (gle rfl) rfl rfl ?_
        refine SV.opY (OpL.ok (nb := 2) (ok_load_bp (b := 0) (i := 3) (ag := false) (m := 1) (ys := [.ro _]) rfl rfl rfl agg_s_impl_Client sz_s_impl_Client (fun _ => rfl) rfl rfl (gle rfl)) rfl (gle rfl)) rfl rfl rfl (gle rfl) rfl rfl ?_
        refine SV.opY (OpL.ok (nb := 2) (ok_field_bp (b := 1) (o' := 0) (off := 3) rfl rfl fld_impl_Broker_3) rfl (gle rfl)) rfl rfl rfl (gle rfl) rfl rfl ?_
        refine SV.opY (OpL.ok (nb := 2) (ok_load_bp (b := 1) (i := 3) (ag := false) (m := 1) (ys := [.ro _]) rfl rfl rfl agg_s_impl_Client sz_s_impl_Client (fun _ => rfl) rfl rfl (gle rfl)) rfl (gle rfl)) rfl rfl rfl (gle rfl) rfl rfl ?_
        refine SV.opY (OpMk.ok (ok_call (ls := [(false, [.sc _])]) rfl rfl ⟨_, _, Try.func64, rfl, by decide⟩ (vsamec_s a.fWaiting b.fWaiting (by omega) (by omega)) ⟨⟨[.ro _], rfl, ⟨rfl, trivial⟩⟩, ⟨[.ro _], rfl, ⟨rfl, trivial⟩⟩, trivial⟩ rfl (gle rfl))) rfl rfl rfl (gle rfl) rfl rfl ?_
        refine SV.op (OpL.ok (nb := 2) (ok_pickT (v := V.one (.sc _)) rfl rfl rfl) rfl (gle rfl)) rfl ?_
        refine SV.op (OpL.ok (nb := 2) (ok_move (v := V.one (.sc _)) (.inr rfl) rfl) rfl (gle rfl)) rfl ?_
        refine SV.nil ?_
        refine SV.tn ?_
        refine SV.ret ?_
        apply SV.done (hf := Try.results25) (ht := rfl) (he := .inl rfl)
        case hr => exact (ResAll.cons (ResOk.tmp (ag := false) (xs := [.sc _]) rfl) ResAll.nil')
        case h2 => simp [two]
        refine ⟨rfl, ⟨?_, trivial⟩, trivial⟩ <;> (show some (T.lit (Value.bool _)) = some (T.lit (Value.bool _)); refine congrArg (fun z => some (T.lit (Value.bool z))) ?_; (obtain ⟨a1, a2, a3, a4⟩ := a; obtain ⟨b1, b2, b3, b4⟩ := b; rw [Bool.eq_iff_iff]; simp only [BrokerD.mk.injEq, decide_eq_true_eq]; first | (simp_all; done) | (simp at *; simp_all; done) | (constructor <;> intro h <;> simp_all; done)))
      · skip   -- g3.F
        refine SV.opN rfl rfl rfl (gle rfl) rfl rfl rfl (gle rfl) ?_
        refine SV.opN rfl rfl rfl (gle rfl) rfl rfl rfl (gle rfl) ?_
        refine SV.opN rfl rfl rfl (gle rfl) rfl rfl rfl (gle rfl) ?_
        refine SV.opN rfl rfl rfl (gle rfl) rfl rfl rfl (gle rfl) ?_
        refine SV.opN rfl rfl rfl (gle rfl) rfl rfl rfl (gle rfl) ?_
        refine SV.op (OpL.ok (nb := 2) (ok_pickF (v := V.one (.sc _)) rfl rfl rfl) rfl (gle rfl)) rfl ?_
        refine SV.op (OpL.ok (nb := 2) (ok_move (v := V.one (.sc _)) (.inr rfl) rfl) rfl (gle rfl)) rfl ?_
        refine SV.nil ?_
        refine SV.tn ?_
        refine SV.ret ?_
        apply SV.done (hf := Try.results25) (ht := rfl) (he := .inl rfl)
        case hr => exact (ResAll.cons (ResOk.tmp (ag := false) (xs := [.sc _]) rfl) ResAll.nil')
        case h2 => simp [two]
        refine ⟨rfl, ⟨?_, trivial⟩, trivial⟩ <;> (show some (T.lit (Value.bool _)) = some (T.lit (Value.bool _)); refine congrArg (fun z => some (T.lit (Value.bool z))) ?_; (obtain ⟨a1, a2, a3, a4⟩ := a; obtain ⟨b1, b2, b3, b4⟩ := b; rw [Bool.eq_iff_iff]; simp only [BrokerD.mk.injEq, decide_eq_true_eq]; first | (simp_all; done) | (simp at *; simp_all; done) | (constructor <;> intro h <;> simp_all; done)))
  · skip   -- g0.F
    refine SV.opN rfl rfl rfl (gle rfl) rfl rfl rfl (gle rfl) ?_
    refine SV.opN rfl rfl rfl (gle rfl) rfl rfl rfl (gle rfl) ?_
    refine SV.opN rfl rfl rfl (gle rfl) rfl rfl rfl (gle rfl) ?_
    refine SV.opN rfl rfl rfl (gle rfl) rfl rfl rfl (gle rfl) ?_
    refine SV.opN rfl rfl rfl (gle rfl) rfl rfl rfl (gle rfl) ?_
    refine SV.op (OpL.ok (nb := 2) (ok_pickF (v := V.one (.sc _)) rfl rfl rfl) rfl (gle rfl)) rfl ?_
    refine SV.op (OpL.ok (nb := 2) (ok_move (v := V.one (.sc _)) (.inl rfl) rfl) rfl (gle rfl)) rfl ?_
    refine SV.split (d := 17) rfl (fun hg4 => ?_) (fun hg4 => ?_)
    · skip   -- g4.T
      refine SV.opY (OpL.ok (nb := 2) (ok_field_bp (b := 0) (o' := 0) (off := 2) rfl rfl fld_impl_Broker_2) rfl (gle rfl)) rfl rfl rfl (gle rfl) rfl rfl ?_
      refine SV.opY (OpL.ok (nb := 2) (ok_load_bp (b := 0) (i := 2) (ag := false) (m := 1) (ys := [.ro _]) rfl rfl rfl agg_s_impl_Client sz_s_impl_Client (fun _ => rfl) rfl rfl (gle rfl)) rfl (gle rfl)) rfl rfl rfl (gle rfl) rfl rfl ?_
      refine SV.opY (OpL.ok (nb := 2) (ok_field_bp (b := 1) (o' := 0) (off := 2) rfl rfl fld_impl_Broker_2) rfl (gle rfl)) rfl rfl rfl (gle rfl) rfl rfl ?_
      refine SV.opY (OpL.ok (nb := 2) (ok_load_bp (b := 1) (i := 2) (ag := false) (m := 1) (ys := [.ro _]) rfl rfl rfl agg_s_impl_Client sz_s_impl_Client (fun _ => rfl) rfl rfl (gle rfl)) rfl (gle rfl)) rfl rfl rfl (gle rfl) rfl rfl ?_
      refine SV.opY (OpMk.ok (ok_call (ls := [(false, [.sc _])]) rfl rfl ⟨_, _, Try.func64, rfl, by decide⟩ (vsamec_s a.fActive b.fActive (by omega) (by omega)) ⟨⟨[.ro _], rfl, ⟨rfl, trivial⟩⟩, ⟨[.ro _], rfl, ⟨rfl, trivial⟩⟩, trivial⟩ rfl (gle rfl))) rfl rfl rfl (gle rfl) rfl rfl ?_
      refine SV.op (OpL.ok (nb := 2) (ok_pickT (v := V.one (.sc _)) rfl rfl rfl) rfl (gle rfl)) rfl ?_
      refine SV.op (OpL.ok (nb := 2) (ok_move (v := V.one (.sc _)) (.inl rfl) rfl) rfl (gle rfl)) rfl ?_
      refine SV.split (d := 24) rfl (fun hg5 => ?_) (fun hg5 => ?_)
      · skip   -- g5.T
        refine SV.opY (OpL.ok (nb := 2) (ok_field_bp (b := 0) (o' := 0) (off := 3) rfl rfl fld_impl_Broker_3) rfl (gle rfl)) rfl rfl rfl (gle rfl) rfl rfl ?_
        refine SV.opY (OpL.ok (nb := 2) (ok_load_bp (b := 0) (i := 3) (ag := false) (m := 1) (ys := [.ro _]) rfl rfl rfl agg_s_impl_Client sz_s_impl_Client (fun _ => rfl) rfl rfl (gle rfl)) rfl (gle rfl)) rfl rfl rfl (gle rfl) rfl rfl ?_
        refine SV.opY (OpL.ok (nb := 2) (ok_field_bp (b := 1) (o' := 0) (off := 3) rfl rfl fld_impl_Broker_3) rfl (gle rfl)) rfl rfl rfl (gle rfl) rfl rfl ?_
        refine SV.opY (OpL.ok (nb := 2) (ok_load_bp (b := 1) (i := 3) (ag := false) (m := 1) (ys := [.ro _]) rfl rfl rfl agg_s_impl_Client sz_s_impl_Client (fun _ => rfl) rfl rfl (gle rfl)) rfl (gle rfl)) rfl rfl rfl (gle rfl) rfl rfl ?_
        refine SV.opY (OpMk.ok (ok_call (ls := [(false, [.sc _])]) rfl rfl ⟨_, _, Try.func64, rfl, by decide⟩ (vsamec_s a.fWaiting b.fWaiting (by omega) (by omega)) ⟨⟨[.ro _], rfl, ⟨rfl, trivial⟩⟩, ⟨[.ro _], rfl, ⟨rfl, trivial⟩⟩, trivial⟩ rfl (gle rfl))) rfl rfl rfl (gle rfl) rfl rfl ?_
        refine SV.op (OpL.ok (nb := 2) (ok_pickT (v := V.one (.sc _)) rfl rfl rfl) rfl (gle rfl)) rfl ?_
        refine SV.op (OpL.ok (nb := 2) (ok_move (v := V.one (.sc _)) (.inr rfl) rfl) rfl (gle rfl)) rfl ?_
        refine SV.nil ?_
        refine SV.tn ?_
        refine SV.ret ?_
        apply SV.done (hf := Try.results25) (ht := rfl) (he := .inl rfl)
        case hr => exact (ResAll.cons (ResOk.tmp (ag := false) (xs := [.sc _]) rfl) ResAll.nil')
        case h2 => simp [two]
        refine ⟨rfl, ⟨?_, trivial⟩, trivial⟩ <;> (show some (T.lit (Value.bool _)) = some (T.lit (Value.bool _)); refine congrArg (fun z => some (T.lit (Value.bool z))) ?_; (obtain ⟨a1, a2, a3, a4⟩ := a; obtain ⟨b1, b2, b3, b4⟩ := b; rw [Bool.eq_iff_iff]; simp only [BrokerD.mk.injEq, decide_eq_true_eq]; first | (simp_all; done) | (simp at *; simp_all; done) | (constructor <;> intro h <;> simp_all; done)))
      · skip   -- g5.F
        refine SV.opN rfl rfl rfl (gle rfl) rfl rfl rfl (gle rfl) ?_
        refine SV.opN rfl rfl rfl (gle rfl) rfl rfl rfl (gle rfl) ?_
        refine SV.opN rfl rfl rfl (gle rfl) rfl rfl rfl (gle rfl) ?_
        refine SV.opN rfl rfl rfl (gle rfl) rfl rfl rfl (gle rfl) ?_
        refine SV.opN rfl rfl rfl (gle rfl) rfl rfl rfl (gle rfl) ?_
        refine SV.op (OpL.ok (nb := 2) (ok_pickF (v := V.one (.sc _)) rfl rfl rfl) rfl (gle rfl)) rfl ?_
        refine SV.op (OpL.ok (nb := 2) (ok_move (v := V.one (.sc _)) (.inr rfl) rfl) rfl (gle rfl)) rfl ?_
        refine SV.nil ?_
        refine SV.tn ?_
        refine SV.ret ?_
        apply SV.done (hf := Try.results25) (ht := rfl) (he := .inl rfl)
        case hr => exact (ResAll.cons (ResOk.tmp (ag := false) (xs := [.sc _]) rfl) ResAll.nil')
        case h2 => simp [two]
        refine ⟨rfl, ⟨?_, trivial⟩, trivial⟩ <;> (show some (T.lit (Value.bool _)) = some (T.lit (Value.bool _)); refine congrArg (fun z => some (T.lit (Value.bool z))) ?_; (obtain ⟨a1, a2, a3, a4⟩ := a; obtain ⟨b1, b2, b3, b4⟩ := b; rw [Bool.eq_iff_iff]; simp only [BrokerD.mk.injEq, decide_eq_true_eq]; first | (simp_all; done) | (simp at *; simp_all; done) | (constructor <;> intro h <;> simp_all; done)))
    · skip   -- g4.F
      refine SV.opN rfl rfl rfl (gle rfl) rfl rfl rfl (gle rfl) ?_
      refine SV.opN rfl rfl rfl (gle rfl) rfl rfl rfl (gle rfl) ?_
      refine SV.opN rfl rfl rfl (gle rfl) rfl rfl rfl (gle rfl) ?_
      refine SV.opN rfl rfl rfl (gle rfl) rfl rfl rfl (gle rfl) ?_
      refine SV.opN rfl rfl rfl (gle rfl) rfl rfl rfl (gle rfl) ?_
      refine SV.op (OpL.ok (nb := 2) (ok_pickF (v := V.one (.sc _)) rfl rfl rfl) rfl (gle rfl)) rfl ?_
      refine SV.op (OpL.ok (nb := 2) (ok_move (v := V.one (.sc _)) (.inl rfl) rfl) rfl (gle rfl)) rfl ?_
      refine SV.split (d := 24) rfl (fun hg6 => ?_) (fun hg6 => ?_)
      · skip   -- g6.T
        refine SV.opY (OpL.ok (nb := 2) (ok_field_bp (b := 0) (o' := 0) (off := 3) rfl rfl fld_impl_Broker_3) rfl (gle rfl)) rfl rfl rfl (gle rfl) rfl rfl ?_
        refine SV.opY (OpL.ok (nb := 2) (ok_load_bp (b := 0) (i := 3) (ag := false) (m := 1) (ys := [.ro _]) rfl rfl rfl agg_s_impl_Client sz_s_impl_Client (fun _ => rfl) rfl rfl (gle rfl)) rfl (gle rfl)) rfl rfl rfl (gle rfl) rfl rfl ?_
        refine SV.opY (OpL.ok (nb := 2) (ok_field_bp (b := 1) (o' := 0) (off := 3) rfl rfl fld_impl_Broker_3) rfl (gle rfl)) rfl rfl rfl (gle rfl) rfl rfl ?_
        refine SV.opY (OpL.ok (nb := 2) (ok_load_bp (b := 1) (i := 3) (ag := false) (m := 1) (ys := [.ro _]) rfl rfl rfl agg_s_impl_Client sz_s_impl_Client (fun _ => rfl) rfl rfl (gle rfl)) rfl (gle rfl)) rfl rfl rfl (gle rfl) rfl rfl ?_
        refine SV.opY (OpMk.ok (ok_call (ls := [(false, [.sc _])]) rfl rfl ⟨_, _, Try.func64, rfl, by decide⟩ (vsamec_s a.fWaiting b.fWaiting (by omega) (by omega)) ⟨⟨[.ro _], rfl, ⟨rfl, trivial⟩⟩, ⟨[.ro _], rfl, ⟨rfl, trivial⟩⟩, trivial⟩ rfl (gle rfl))) rfl rfl rfl (gle rfl) rfl rfl ?_
        refine SV.op (OpL.ok (nb := 2) (ok_pickT (v := V.one (.sc _)) rfl rfl rfl) rfl (gle rfl)) rfl ?_
        refine SV.op (OpL.ok (nb := 2) (ok_move (v := V.one (.sc _)) (.inr rfl) rfl) rfl (gle rfl)) rfl ?_
        refine SV.nil ?_
        refine SV.tn ?_
        refine SV.ret ?_
        apply SV.done (hf := Try.results25) (ht := rfl) (he := .inl rfl)
        case hr => exact (ResAll.cons (ResOk.tmp (ag := false) (xs := [.sc _]) rfl) ResAll.nil')
        case h2 => simp [two]
        refine ⟨rfl, ⟨?_, trivial⟩, trivial⟩ <;> (show some (T.lit (Value.bool _)) = some (T.lit (Value.bool _)); refine congrArg (fun z => some (T.lit (Value.bool z))) ?_; (obtain ⟨a1, a2, a3, a4⟩ := a; obtain ⟨b1, b2, b3, b4⟩ := b; rw [Bool.eq_iff_iff]; simp only [BrokerD.mk.injEq, decide_eq_true_eq]; first | (simp_all; done) | (simp at *; simp_all; done) | (constructor <;> intro h <;> simp_all; done)))
      · skip   -- g6.F
        refine SV.opN rfl rfl rfl (gle rfl) rfl rfl rfl (gle rfl) ?_
        refine SV.opN rfl rfl rfl (gle rfl) rfl rfl rfl (gle rfl) ?_
        refine SV.opN rfl rfl rfl (gle rfl) rfl rfl rfl (gle rfl) ?_
        refine SV.opN rfl rfl rfl (gle rfl) rfl rfl rfl (gle rfl) ?_
        refine SV.opN rfl rfl rfl (gle rfl) rfl rfl rfl (gle rfl) ?_
        refine SV.op (OpL.ok (nb := 2) (ok_pickF (v := V.one (.sc _)) rfl rfl rfl) rfl (gle rfl)) rfl ?_
        refine SV.op (OpL.ok (nb := 2) (ok_move (v := V.one (.sc _)) (.inr rfl) rfl) rfl (gle rfl)) rfl ?_
        refine SV.nil ?_
        refine SV.tn ?_
        refine SV.ret ?_
        apply SV.done (hf := Try.results25) (ht := rfl) (he := .inl rfl)
        case hr => exact (ResAll.cons (ResOk.tmp (ag := false) (xs := [.sc _]) rfl) ResAll.nil')
        case h2 => simp [two]
        refine ⟨rfl, ⟨?_, trivial⟩, trivial⟩ <;> (show some (T.lit (Value.bool _)) = some (T.lit (Value.bool _)); refine congrArg (fun z => some (T.lit (Value.bool z))) ?_; (obtain ⟨a1, a2, a3, a4⟩ := a; obtain ⟨b1, b2, b3, b4⟩ := b; rw [Bool.eq_iff_iff]; simp only [BrokerD.mk.injEq, decide_eq_true_eq]; first | (simp_all; done) | (simp at *; simp_all; done) | (constructor <;> intro h <;> simp_all; done)))
end Go.Proofs.Ytfghhjcfmmhacaa
/- Brokers as plain mathematics: how a valid one is recognised; no function of program or reference is walked here. -/
namespace Go.Proofs.Ytfghhjcfmmhacaa
open Go.RowKit
set_option linter.unusedVariables false
namespace BrokerD
def bound (b : BrokerD) : Int := wrap64 (b.fNextID - 1) + 1
theorem bound_eq {b : BrokerD} (h : okN b = true) : bound b = b.fNextID := by
  have h1 := (okN_iff b).1 h
  unfold bound wrap64
  omega
theorem ok_badL {b : BrokerD} (h : okL (bound b) b.fActive = false ∨ okL (bound b) b.fWaiting = false) : ok b = false := by
  unfold ok
  cases hn : okN b with
  | false => rfl
  | true =>
    rw [bound_eq hn] at h
    rcases h with h | h <;> rw [h] <;> simp
theorem ok_meet {b : BrokerD} (h : meets b.fActive b.fWaiting = true) : ok b = false := by
  unfold ok
  rw [h]
  simp
theorem ok_rest {b : BrokerD} (h1 : okL (bound b) b.fActive = true) (h2 : okL (bound b) b.fWaiting = true) (h3 : meets b.fActive b.fWaiting = false) : ok b = okN b := by
  unfold ok
  cases hn : okN b with
  | false => rfl
  | true =>
    rw [bound_eq hn] at h1 h2
    rw [h1, h2, h3]
    rfl
def side (b : BrokerD) (i : Nat) : List ClientD := if i = 0 then b.fActive else b.fWaiting
theorem side_bad {b : BrokerD} {i t : Nat} (ht : t < (side b i).length) (h : okAt (bound b) (side b i) t = false) : ok b = false := by
  unfold side at ht h
  split at h
  · rename_i e
    rw [if_pos e] at ht
    exact ok_badL (.inl (okL_bad ht h))
  · rename_i e
    rw [if_neg e] at ht
    exact ok_badL (.inr (okL_bad ht h))
theorem okAt_some {n : Int} {l : List ClientD} {k : Nat} {c : ClientD} (h : l[k]? = some c) : okAt n l k = (okC n c && (k == 0 || match l[k - 1]? with | some d => decide (d.fID < c.fID) | none => true)) := by
  simp only [okAt, h]
  rfl
end BrokerD
end Go.Proofs.Ytfghhjcfmmhacaa
/- A state told anew in short words: only the slots and objects that are still wanted. -/
namespace Go.Proofs.Ytfghhjcfmmhacaa.V
open Go Go.RowKit
set_option linter.unusedVariables false
def lookV : List (Nat × V) → Nat → V
  | [], _ => V.one .dead
  | (d, v) :: L, s => bif Nat.beq s d then v else lookV L s
def lookO : List (Nat × Nat × T) → Nat → Option (Nat × T)
  | [], _ => none
  | (d, v, t) :: L, i => bif Nat.beq i d then some (v, t) else lookO L i
abbrev VS.of (L : List (Nat × V)) (B : List (TypeId × List Leaf)) (O : List (Nat × Nat × T)) (n : Nat) : VS := ⟨lookV L, B, lookO O, n⟩
def allV (σ : VS) : List (Nat × V) → Prop
  | [] => True
  | (d, v) :: L => σ.tm d = v ∧ allV σ L
def allO (σ : VS) : List (Nat × Nat × T) → Prop
  | [] => True
  | (i, v, t) :: L => σ.ob i = some (v, t) ∧ allO σ L
theorem lookV_or {σ : VS} : ∀ {L : List (Nat × V)}, allV σ L → ∀ s, lookV L s = σ.tm s ∨ lookV L s = V.one .dead
  | [], _, s => .inr rfl
  | (d, v) :: L, h, s => by
    show (bif Nat.beq s d then v else lookV L s) = _ ∨ (bif Nat.beq s d then v else lookV L s) = _
    cases hb : Nat.beq s d with
    | true =>
      rw [Nat.eq_of_beq_eq_true hb]
      exact .inl h.1.symm
    | false => exact lookV_or h.2 s
theorem lookO_or {σ : VS} : ∀ {O : List (Nat × Nat × T)}, allO σ O → ∀ i, lookO O i = σ.ob i ∨ lookO O i = none
  | [], _, i => .inr rfl
  | (d, v, t) :: O, h, i => by
    show (bif Nat.beq i d then some (v, t) else lookO O i) = _ ∨ (bif Nat.beq i d then some (v, t) else lookO O i) = _
    cases hb : Nat.beq i d with
    | true =>
      rw [Nat.eq_of_beq_eq_true hb]
      exact .inl h.1.symm
    | false => exact lookO_or h.2 i
theorem Holds.forget {G : Ghost} {σ τ : VS} {E : Env} {w : World} {x : Leaf} {u : Value} (hn : τ.nx = σ.nx) (hb : τ.bs = σ.bs) (ho : ∀ i, τ.ob i = σ.ob i ∨ τ.ob i = none) (h : Holds G σ E w x u) : Holds G τ E w x u := by
  refine ⟨?_, h.2⟩
  have h1 := h.1
  cases x with
  | dead => trivial
  | sc v => exact h1
  | nl ty => exact h1
  | ro t => exact h1
  | rp es => exact h1
  | hd i => exact ⟨by rw [hn]; exact h1.1, h1.2⟩
  | nd i ver t loc =>
    rcases ho i with e | e
    · unfold Holds0 at h1 ⊢
      simp only [e, hn]
      exact h1
    · refine ⟨by rw [hn]; exact h1.1, fun v t' h => (by rw [e] at h; cases h), fun ⟨t', h⟩ => (by rw [e] at h; cases h)⟩
  | np i ver es =>
    rcases ho i with e | e
    · unfold Holds0 at h1 ⊢
      simp only [e, hn]
      exact h1
    · refine ⟨by rw [hn]; exact h1.1, fun v t' h => (by rw [e] at h; cases h), fun ⟨t', h⟩ => (by rw [e] at h; cases h)⟩
  | ep i k n o => exact ⟨by rw [hn]; exact h1.1, h1.2⟩
  | bp b o => exact ⟨by rw [hb]; exact h1.1, h1.2⟩
theorem VHolds.forget {G : Ghost} {σ τ : VS} {E : Env} {w : World} {v : V} {u : Value} (hn : τ.nx = σ.nx) (hb : τ.bs = σ.bs) (ho : ∀ i, τ.ob i = σ.ob i ∨ τ.ob i = none) (h : VHolds G σ E w v u) : VHolds G τ E w v u := by
  obtain ⟨uss, h1, h2, h3⟩ := h
  exact ⟨uss, h1, h2, fun c ag xs us a b => ⟨(h3 c ag xs us a b).1, fun j x u p q => ((h3 c ag xs us a b).2 j x u p q).forget hn hb ho⟩⟩
theorem Rel.forget {E : Env} {N n : Nat} {σ : VS} {a : Act} {w : World} {G : Ghost} {L : List (Nat × V)} {B : List (TypeId × List Leaf)} {O : List (Nat × Nat × T)} (hL : allV σ L) (hB : σ.bs = B) (hO : allO σ O) (hn : σ.nx = n) (h : Rel E N σ a w G) : Rel E N (VS.of L B O n) a w G := by
  have hn' : (VS.of L B O n).nx = σ.nx := hn.symm
  have hb' : (VS.of L B O n).bs = σ.bs := hB.symm
  have ho' : ∀ i, (VS.of L B O n).ob i = σ.ob i ∨ (VS.of L B O n).ob i = none := lookO_or hO
  have live : ∀ i, (VS.of L B O n).ob i ≠ none → (VS.of L B O n).ob i = σ.ob i := fun i hi => (ho' i).resolve_right hi
  refine ⟨h.below, h.dfr, h.nsz, fun s => ?_, fun b ty xs hb => ?_, fun b b' h1 h2 => h.inj b b' (by rw [← hb']; exact h1) (by rw [← hb']; exact h2), fun b i h1 h2 => h.boxft b i (by rw [← hb']; exact h1) (by rw [← live i h2]; exact h2), fun i ver t hi => ?_, fun i j b hi hj => h.disj i j b (by rw [← live i hi]; exact hi) (by rw [← live j hj]; exact hj), fun i b hi => h.ftlt i b (by rw [← live i hi]; exact hi), ⟨by rw [hn']; exact h.lent.1, h.lent.2.1, fun c hc => by rw [hb']; exact h.lent.2.2 c hc⟩⟩
  · rcases lookV_or hL s with e | e
    · show VHolds G _ E w (lookV L s) _
      rw [e]
      exact (h.tmps s).forget hn' hb' ho'
    · show VHolds G _ E w (lookV L s) _
      rw [e, vone]
      exact ⟨trivial, .inl rfl⟩
  · rw [hb'] at hb
    obtain ⟨h1, us, h2, h3, h4⟩ := h.boxes b ty xs hb
    exact ⟨h1, us, h2, h3, fun j x u p q => ⟨((h4 j x u p q).1).forget hn' hb' ho', (h4 j x u p q).2⟩⟩
  · have e := live i (by rw [hi]; simp)
    obtain ⟨h1, h2, h3⟩ := h.objs i ver t (by rw [← e]; exact hi)
    exact ⟨by rw [hn']; exact h1, h2, h3⟩
theorem SV.forget {E : Env} {N n : Nat} {σ : VS} {K : Act → World → Prop} {L : List (Nat × V)} {B : List (TypeId × List Leaf)} {O : List (Nat × Nat × T)} (hL : allV σ L) (hB : σ.bs = B) (hO : allO σ O) (hn : σ.nx = n) (k : SV E N (VS.of L B O n) K) : SV E N σ K := fun a w G h => k a w G (h.forget hL hB hO hn)
theorem DW.forget {E : Env} {N n : Nat} {τ σ : VS} {fr : List Nat} {cl : Bool} {Ψ : World → Ghost → Act → World → Prop} {L : List (Nat × V)} {B : List (TypeId × List Leaf)} {O : List (Nat × Nat × T)} (hL : allV σ L) (hB : σ.bs = B) (hO : allO σ O) (hn : σ.nx = n) (k : DW E N τ fr false (VS.of L B O n) Ψ) : DW E N τ fr cl σ Ψ := fun ws Gs a w G h l =>
  k ws Gs a w G (h.forget hL hB hO hn) ⟨l.start, l.same, l.vl, l.β, by rw [show (VS.of L B O n).nx = σ.nx from hn.symm]; exact l.nx, by rw [show (VS.of L B O n).bs = σ.bs from hB.symm]; exact l.bs, fun i hi => ⟨by rw [show (VS.of L B O n).nx = σ.nx from hn.symm]; exact (l.fresh i hi).1, (l.fresh i hi).2⟩, fun h => by cases h⟩
end Go.Proofs.Ytfghhjcfmmhacaa.V
/- What an argument's slice is as a value: opened, it is a plain value that may be stored and copied; shut, it may be read as the tree again. -/
namespace Go.Proofs.Ytfghhjcfmmhacaa.V
open Go Go.RowKit
set_option linter.unusedVariables false
variable {P : Program} {E : Env} {N : Nat} {σ : VS} {K : Act → World → Prop}
theorem Inn.move {ok : Nat → Prop} {w w' : World} {t : T} {v : Value} (h : Inn ok w t v) (hk : ∀ b, ok b → b < w.heap.size → b < w'.heap.size ∧ w'.heap[b]? = w.heap[b]?) : Inn ok w' t v := by
  induction h with
  | any h => exact .any h
  | lit h => exact .lit h
  | @seq ty es a c n hp hz hn hc hm h0 b o us ha hb hcell hr ih =>
    refine .seq n hp hz hn hc hm h0 b o us ha (fun h => ?_) (fun k e j t h1 h2 => ?_) ih
    · obtain ⟨h1, h2⟩ := hb h
      exact ⟨h1, (hk b h1 h2).1⟩
    · have hne : es ≠ [] := fun h => by rw [h] at h1; simp at h1
      obtain ⟨h3, h4⟩ := hb hne
      exact (World.cell?_of_block (hk b h3 h4).2).trans (hcell k e j t h1 h2)
def Reads (E : Env) (t : T) (u : Value) : Prop := ∀ w, Same E E.w0 w → Inn E.old w t u
theorem Rel.reads {a : Act} {w : World} {G : Ghost} (h : Rel E N σ a w G) {t : T} {u : Value} (hu : Inn E.old w t u) : Reads E t u := fun w' hs => hu.move fun b hb _ => ⟨Nat.lt_of_lt_of_le hb.1 hs.size, (hs.block b hb).trans (h.below.block b hb).symm⟩
theorem Rel.reput {a : Act} {w : World} {G : Ghost} (h : Rel E N σ a w G) {d : Nat} {v : V} (hN : d < N) (hv : VHolds G σ E w v (a.tmps.getD d undef)) : Rel E N (σ.put d v) a w G := by
  have k := h.put (d := d) (v := v) (u := a.tmps.getD d undef) hN hv
  have e : a.put (some d) (a.tmps.getD d undef) = a := by
    have hs' : d < a.tmps.size := by rw [h.nsz]; exact hN
    cases a with
    | mk tmps defers =>
      have : tmps.setIfInBounds d (tmps.getD d undef) = tmps := by
        apply Array.ext_getElem?
        intro i
        rw [Array.getElem?_setIfInBounds]
        split
        · rename_i hi; subst hi
          simp at hs'
          simp [hs']
        · rfl
      show (⟨tmps.setIfInBounds d (tmps.getD d undef), defers⟩ : Act) = ⟨tmps, defers⟩
      rw [this]
  rwa [e] at k
theorem SV.openRo {d : Nat} {t : T} (hs : σ.tm d = V.one (.ro t)) (hN : d < N) (k : ∀ u, Reads E t u → SV E N (σ.put d (V.one (.sc u))) K) : SV E N σ K := fun a w G h => by
  have h1 := h.tmps d
  rw [hs, vone] at h1
  have h2 : Inn E.old w t (a.tmps.getD d undef) := h1.1
  exact k _ (h.reads h2) a w G (h.reput hN (vone.2 ⟨rfl, .inr h2.one⟩))
theorem SV.shutRo {d : Nat} {t : T} {u : Value} (hs : σ.tm d = V.one (.sc u)) (hu : Reads E t u) (hN : d < N) (k : SV E N (σ.put d (V.one (.ro t))) K) : SV E N σ K := fun a w G h => by
  have h1 := h.tmps d
  rw [hs, vone] at h1
  have h2 : a.tmps.getD d undef = u := h1.1
  exact k a w G (h.reput hN (vone.2 ⟨by rw [h2]; exact hu w h.below, .inr (by rw [h2]; exact (hu w h.below).one)⟩))
theorem DW.shutRo {τ : VS} {fr : List Nat} {cl : Bool} {Ψ : World → Ghost → Act → World → Prop} {d : Nat} {t : T} {u : Value} (hs : σ.tm d = V.one (.sc u)) (hu : Reads E t u) (hN : d < N) (k : DW E N τ fr cl (σ.put d (V.one (.ro t))) Ψ) : DW E N τ fr cl σ Ψ := fun ws Gs a w G h hl => by
  have h1 := h.tmps d
  rw [hs, vone] at h1
  have h2 : a.tmps.getD d undef = u := h1.1
  exact k ws Gs a w G (h.reput hN (vone.2 ⟨by rw [h2]; exact hu w h.below, .inr (by rw [h2]; exact (hu w h.below).one)⟩)) hl.put
end Go.Proofs.Ytfghhjcfmmhacaa.V
/- Operations that are passed over because the operation that guards them was passed over. -/
namespace Go.Proofs.Ytfghhjcfmmhacaa.V
open Go Go.RowKit
set_option linter.unusedVariables false
variable {P : Program} {E : Env} {N nb : Nat} {σ σ' τ : VS} {o : Oper} {a : Act} {w : World} {G : Ghost} {Q : Exit → Act → World → Prop} {K : Act → World → Prop}
abbrev V.no : V := ⟨true, []⟩
theorem vno {G : Ghost} {E : Env} {w : World} {u : Value} : VHolds G σ E w V.no u ↔ u = undef := by
  constructor
  · rintro ⟨uss, h1, h2, -⟩
    match uss, h1 with
    | [], _ => exact h2
  · rintro rfl
    exact ⟨[], rfl, rfl, fun c ag xs us h => by simp at h⟩
theorem yielded_no {ops : Array Oper} {j d : Nat} {oj : Oper} (h : Rel E N σ a w G) (hj : ops[j]? = some oj) (hd : oj.dst = some d) (hdN : d < N) (hv : σ.tm d = V.no) : yielded ops a.tmps j = none := by
  have h1 : a.tmps[d]? = some undef := by
    have h2 := h.tmps d
    rw [hv, vno] at h2
    have h4 : d < a.tmps.size := by rw [h.nsz]; exact hdN
    simp only [Array.getD_eq_getD_getElem?] at h2
    rw [Array.getElem?_eq_getElem h4] at h2 ⊢
    simpa using h2
  simp [yielded, hj, hd, h1, undef]
theorem SV.opNu {ops : Array Oper} {rest : List Oper} {j d d' : Nat} {oj : Oper} {b c : Bool} (hg : o.guard = some (j, b)) (hj : ops[j]? = some oj) (hd : oj.dst = some d) (hdN : d < N) (hv : σ.tm d = V.one (.sc (.bool c))) (hc : c = !b) (hd' : o.dst = some d') (hdN' : d' < N) (k : SV E N (σ.put d' V.no) (wpList P ops Q rest)) : SV E N σ (wpList P ops Q (o :: rest)) :=
  fun a w G hr => wpList_skip (by
    have := yielded_at hr hj hd hdN hv
    cases b <;> simp [Region.wanted, hg, this, hc]) (by
    rw [hd']
    exact k _ _ _ (hr.put hdN' (vno.2 rfl)))
theorem SV.opNN {ops : Array Oper} {rest : List Oper} {j d d' : Nat} {oj : Oper} {b : Bool} (hg : o.guard = some (j, b)) (hj : ops[j]? = some oj) (hd : oj.dst = some d) (hdN : d < N) (hv : σ.tm d = V.no) (hd' : o.dst = some d') (hdN' : d' < N) (k : SV E N (σ.put d' V.no) (wpList P ops Q rest)) : SV E N σ (wpList P ops Q (o :: rest)) :=
  fun a w G hr => wpList_skip (by
    have := yielded_no hr hj hd hdN hv
    simp [Region.wanted, hg, this]) (by
    rw [hd']
    exact k _ _ _ (hr.put hdN' (vno.2 rfl)))
theorem DW.qNu {l : List Oper} {zs : List Nat} {ps : Pl} {fr : List Nat} {cl : Bool} {i j d d' : Nat} {oj : Oper} {b c : Bool} (ho : nthO l i = some o) (hg : o.guard = some (j, b)) (hj : l.toArray[j]? = some oj) (hd : oj.dst = some d) (hdN : d < N) (hv : σ.tm d = V.one (.sc (.bool c))) (hc : c = !b) (hd' : o.dst = some d') (hdN' : d' < N) (hQ : ∀ c (a : Act) v w, Q (.panic c) (a.put o.dst v) w → Q (.panic c) a w)
    (k : DW E N τ fr cl (σ.put d' V.no) fun ws Gs a w => wpPi P l.toArray Q (SW E τ ws Gs) zs ps a w) : DW E N τ fr cl σ fun ws Gs a w => wpPi P l.toArray Q (SW E τ ws Gs) zs (.q i ps) a w := fun ws Gs a w G hr hl => by
  refine pi_pass ho (fun c a w => hQ c a undef w) ?_ ?_
  · have := yielded_at hr hj hd hdN hv
    cases b <;> simp [Region.wanted, hg, this, hc]
  · rw [hd']
    exact k ws Gs _ w G (hr.put hdN' (vno.2 rfl)) hl.put
theorem DW.qNN {l : List Oper} {zs : List Nat} {ps : Pl} {fr : List Nat} {cl : Bool} {i j d d' : Nat} {oj : Oper} {b : Bool} (ho : nthO l i = some o) (hg : o.guard = some (j, b)) (hj : l.toArray[j]? = some oj) (hd : oj.dst = some d) (hdN : d < N) (hv : σ.tm d = V.no) (hd' : o.dst = some d') (hdN' : d' < N) (hQ : ∀ c (a : Act) v w, Q (.panic c) (a.put o.dst v) w → Q (.panic c) a w)
    (k : DW E N τ fr cl (σ.put d' V.no) fun ws Gs a w => wpPi P l.toArray Q (SW E τ ws Gs) zs ps a w) : DW E N τ fr cl σ fun ws Gs a w => wpPi P l.toArray Q (SW E τ ws Gs) zs (.q i ps) a w := fun ws Gs a w G hr hl => by
  refine pi_pass ho (fun c a w => hQ c a undef w) ?_ ?_
  · have := yielded_no hr hj hd hdN hv
    simp [Region.wanted, hg, this]
  · rw [hd']
    exact k ws Gs _ w G (hr.put hdN' (vno.2 rfl)) hl.put
theorem DW.mNN {l : List Oper} {zs : List Nat} {ps : Pl} {fr : List Nat} {cl : Bool} {i j d d' : Nat} {oj : Oper} {b : Bool} (ho : nthO l i = some o) (hg : o.guard = some (j, b)) (hj : l.toArray[j]? = some oj) (hd : oj.dst = some d) (hdN : d < N) (hv : σ.tm d = V.no) (hd' : o.dst = some d') (hdN' : d' < N)
    (k : DW E N τ fr cl (σ.put d' V.no) fun ws Gs a w => wpPi P l.toArray Q (SW E τ ws Gs) zs ps a w) : DW E N τ fr cl σ fun ws Gs a w => wpPi P l.toArray Q (SW E τ ws Gs) zs (.m i ps) a w := fun ws Gs a w G hr hl => by
  refine pi_step ho fun K hK => ?_
  have hw : Region.wanted o (yielded l.toArray a.tmps) = false := by
    have := yielded_no hr hj hd hdN hv
    simp [Region.wanted, hg, this]
  rw [if_neg (by rw [hw]; simp)]
  refine hK.out _ w hl.same fun _ => ?_
  rw [hd']
  exact k ws Gs _ w G (hr.put hdN' (vno.2 rfl)) hl.put
end Go.Proofs.Ytfghhjcfmmhacaa.V
/- The reference's valid brokers: told by trees. -/
namespace Go.Proofs.Ytfghhjcfmmhacaa
open Go Go.RowKit V
set_option linter.unusedVariables false
set_option maxRecDepth 100000 in
set_option maxHeartbeats 2000000 in
theorem vokb_s (b : BrokerD) (hA : b.fActive.length ≤ 1000000000) (hW : b.fWaiting.length ≤ 1000000000) : VC Try.prog 20 [(true, tBroker b)] false [(false, [.lit (.bool (BrokerD.ok b))])] := by
  refine VC.enter Try.func20 rfl Try.ntmps20 (gle rfl) fun E hE => ?_
  refine SV.seq' ?_
  refine SV.region ?_
  refine SV.op (OpMk.ok (ok_box (kk := 0) (ag := true) (xs := [.sc _, .sc _, .ro _, .ro _]) rfl rfl rfl (fun h => by cases h) rfl rfl (gle rfl))) rfl ?_
  refine SV.op (OpL.ok (nb := 1) (ok_move (v := V.one (.sc _)) (.inr rfl) rfl) rfl (gle rfl)) rfl ?_
  refine SV.nil ?_
  refine SV.tn ?_
  refine SV.seq' ?_
  refine SV.region ?_
  refine SV.op (OpL.ok (nb := 1) (ok_field_bp (b := 0) (o' := 0) (off := 2) rfl rfl fld_impl_Broker_2) rfl (gle rfl)) rfl ?_
  refine SV.op (OpL.ok (nb := 1) (ok_load_bp (b := 0) (i := 2) (ag := false) (m := 1) (ys := [.ro _]) rfl rfl rfl agg_s_impl_Client sz_s_impl_Client (fun _ => rfl) rfl rfl (gle rfl)) rfl (gle rfl)) rfl ?_
  refine SV.openRo (d := 10) rfl (gle rfl) fun uA hRA => ?_
  refine SV.op (OpL.ok (nb := 1) (ok_field_bp (b := 0) (o' := 0) (off := 3) rfl rfl fld_impl_Broker_3) rfl (gle rfl)) rfl ?_
  refine SV.op (OpL.ok (nb := 1) (ok_load_bp (b := 0) (i := 3) (ag := false) (m := 1) (ys := [.ro _]) rfl rfl rfl agg_s_impl_Client sz_s_impl_Client (fun _ => rfl) rfl rfl (gle rfl)) rfl (gle rfl)) rfl ?_
  refine SV.openRo (d := 12) rfl (gle rfl) fun uW hRW => ?_
  refine SV.op (OpMk.ok (ok_litS (kk := 0) (xs := [.tmp 10, .tmp 12]) (us := [_, _]) elt_s_impl_Client rfl rfl rfl rfl (by decide) (by decide) ⟨rfl, rfl, trivial⟩ rfl (gle rfl))) rfl ?_
  refine SV.op (OpL.ok (nb := 1) (ok_move (v := V.one (.hd 0)) (.inr rfl) rfl) rfl (gle rfl)) rfl ?_
  refine SV.nil ?_
  refine SV.tn ?_
  refine SV.seq' ?_
  refine SV.seq' ?_
  refine SV.region ?_
  refine SV.op (OpL.ok (nb := 1) (ok_move (v := V.one (.sc _)) (.inr rfl) rfl) rfl (gle rfl)) rfl ?_
  refine SV.nil ?_
  refine SV.tn ?_
  refine SV.block ?_
  refine SV.loopF (X := Nat) (fun (σ : VS) i => ((((((VS.nil.new (.seq 24 ([[T.lit uA], [T.lit uW]]))).box 26 [σ.bl 0 0, σ.bl 0 1, σ.bl 0 2, σ.bl 0 3]).put 1 (V.flat false [.bp 0 0])).put 2 (σ.tm 2)).put 3 (V.flat false [.hd 0])).put 4 (V.flat false [.sc (.int .i64 ((i : Int)))]))) (fun i => i ≤ 2 ∧ (0 < i → BrokerD.okL (BrokerD.bound b) b.fActive = true) ∧ (1 < i → BrokerD.okL (BrokerD.bound b) b.fWaiting = true)) (fun i => 2 - i) ?_ ?_
  · skip
    refine SV.again (fun i => [0].getD i 0) 0 (⟨by omega, fun h => absurd h (by omega), fun h => absurd h (by omega)⟩) (pins hE rfl rfl) (VS.le.mk' (le_put (le_put (le_put (le_put (le_box (le_new le_nil)) (V.le.keep (ag := false) (xs := [.bp 0 0]) (ys := [.bp 0 0]) rfl rfl ⟨⟨rfl, (gle rfl)⟩, trivial⟩)) (V.le.keep (ag := false) (xs := [.sc _]) (ys := [.sc _]) rfl rfl ⟨rfl, trivial⟩)) (V.le.keep (ag := false) (xs := [.hd 0]) (ys := [.hd 0]) rfl rfl ⟨⟨rfl, (gle rfl), (gle rfl)⟩, trivial⟩)) (V.le.keep (ag := false) (xs := [.sc _]) (ys := [.sc _]) rfl rfl ⟨(by first | rfl | (show Leaf.sc _ = Leaf.sc _; refine congrArg Leaf.sc ?_; first | rfl | go_num | (simp [cntAll]; done)) | (simp [cntAll]; done) | (simp; omega)), trivial⟩)) ⟨⟨rfl, ⟨rfl, rfl, rfl, rfl, trivial⟩⟩, trivial⟩ ⟨.inr ⟨_, _, rfl, ?ob1_0, (gle rfl)⟩, trivial⟩ (new_ob nil_ob) (fun i j hi hj e => inj_list (l := [0]) (by decide) i j hi hj e))
    case ob1_0 =>
      show some (T.seq _ _) = some (T.seq _ _)
      rfl
  · rintro i ⟨hi, hoA, hoW⟩
    refine SV.seq' ?_
    refine SV.seq' ?_
    refine SV.region ?_
    refine SV.op (OpL.ok (nb := 1) (ok_move (v := V.one (.sc _)) (.inl rfl) rfl) rfl (gle rfl)) rfl ?_
    refine SV.op (OpL.ok (nb := 1) (ok_s2 (x := .tmp 14) (x' := .const ((Value.int IntKind.i64 2))) (VScal.one rfl) (VScal.one rfl) (fun ρ h1 h2 w => by go_simp; (try go_bits); with_reducible rfl) rfl) rfl (gle rfl)) rfl ?_
    refine SV.nil ?_
    refine SV.tn ?_
    refine SV.cond rfl (fun hc0 => ?_) (fun hc0 => ?_)
    · skip   -- c0.T
      have hi2 : i < 2 := by simp at hc0; omega
      have hsel : ([[T.lit uA], [T.lit uW]] : List (List T))[i]? = some [T.lit (if i = 0 then uA else uW)] := by rcases Nat.lt_or_ge i 1 with h | h; (have e : i = 0 := (by omega); subst e; rfl); (have e : i = 1 := (by omega); subst e; rfl)
      have hread : Reads E (.seq 35 ((BrokerD.side b i).map tClient)) (if i = 0 then uA else uW) := by unfold BrokerD.side; split; (exact hRA); (exact hRW)
      refine SV.skip ?_
      refine SV.tn ?_
      refine SV.seq' ?_
      refine SV.block ?_
      refine SV.seq' ?_
      refine SV.region ?_
      refine SV.op (OpL.ok (nb := 1) (ok_move (v := V.one (.sc _)) (.inr rfl) rfl) rfl (gle rfl)) rfl ?_
      refine SV.nil ?_
      refine SV.tn ?_
      refine SV.block ?_
      refine SV.loopF (X := Nat) (fun (σ : VS) t => (((((((VS.nil.new (.seq 24 ([[T.lit uA], [T.lit uW]]))).box 26 [σ.bl 0 0, σ.bl 0 1, σ.bl 0 2, σ.bl 0 3]).put 1 (V.flat false [.bp 0 0])).put 2 (σ.tm 2)).put 3 (V.flat false [.hd 0])).put 4 (V.flat false [.sc (.int .i64 ((i : Int)))])).put 5 (V.flat false [.sc (.int .i64 ((t : Int)))]))) (fun t => t ≤ (BrokerD.side b i).length ∧ ∀ k, k < t → BrokerD.okAt (BrokerD.bound b) (BrokerD.side b i) k = true) (fun t => (BrokerD.side b i).length - t) ?_ ?_
      · skip
        refine SV.again (fun i => [0].getD i 0) 0 (⟨Nat.zero_le _, fun k h => absurd h (Nat.not_lt_zero k)⟩) (pins hE rfl rfl) (VS.le.mk' (le_put (le_put (le_put (le_put (le_put (le_box (le_new le_nil)) (V.le.keep (ag := false) (xs := [.bp 0 0]) (ys := [.bp 0 0]) rfl rfl ⟨⟨rfl, (gle rfl)⟩, trivial⟩)) (V.le.keep (ag := false) (xs := [.sc _]) (ys := [.sc _]) rfl rfl ⟨rfl, trivial⟩)) (V.le.keep (ag := false) (xs := [.hd 0]) (ys := [.hd 0]) rfl rfl ⟨⟨rfl, (gle rfl), (gle rfl)⟩, trivial⟩)) (V.le.keep (ag := false) (xs := [.sc _]) (ys := [.sc _]) rfl rfl ⟨(by first | rfl | (show Leaf.sc _ = Leaf.sc _; refine congrArg Leaf.sc ?_; first | rfl | go_num | (simp [cntAll]; done)) | (simp [cntAll]; done) | (simp; omega)), trivial⟩)) (V.le.keep (ag := false) (xs := [.sc _]) (ys := [.sc _]) rfl rfl ⟨(by first | rfl | (show Leaf.sc _ = Leaf.sc _; refine congrArg Leaf.sc ?_; first | rfl | go_num | (simp [cntAll]; done)) | (simp [cntAll]; done) | (simp; omega)), trivial⟩)) ⟨⟨rfl, ⟨rfl, rfl, rfl, rfl, trivial⟩⟩, trivial⟩ ⟨.inr ⟨_, _, rfl, ?ob2_0, (gle rfl)⟩, trivial⟩ (new_ob nil_ob) (fun i j hi hj e => inj_list (l := [0]) (by decide) i j hi hj e))
        case ob2_0 =>
          show some (T.seq _ _) = some (T.seq _ _)
          rfl
      · rintro t ⟨ht, hok⟩
        refine SV.seq' ?_
        refine SV.seq' ?_
        refine SV.region ?_
        refine SV.op (OpL.ok (nb := 1) (ok_move (v := V.one (.sc _)) (.inl rfl) rfl) rfl (gle rfl)) rfl ?_
        refine SV.op (OpL.ok (nb := 1) (ok_move (v := V.one (.hd 0)) (.inl rfl) rfl) rfl (gle rfl)) rfl ?_
        refine SV.op (OpL.ok (nb := 1) (ok_move (v := V.one (.sc _)) (.inl rfl) rfl) rfl (gle rfl)) rfl ?_
        refine SV.op (OpL.ok (nb := 1) (ok_index (n := 1) (lf := .hd 0) rfl elt_s_impl_Client.und sz_s_impl_Client rfl rfl rfl (hsel)) rfl (gle rfl)) rfl ?_
        refine SV.op (ok_load_el (p := .ep 0 _ _ _) (ag := false) (m := 1) (ys := [.sc _]) rfl rfl (cells_ep rfl (hsel) rfl rfl) agg_s_impl_Client sz_s_impl_Client (fun _ => rfl) (gle rfl) rfl rfl (gle rfl)) rfl ?_
        refine SV.shutRo (d := 22) (t := .seq 35 ((BrokerD.side b i).map tClient)) rfl (hread) (gle rfl) ?_
        refine SV.op (OpL.ok (nb := 1) (ok_len (lf := .ro _) rfl elt_impl_Client.und rfl rfl) rfl (gle rfl)) rfl ?_
        refine SV.op (OpL.ok (nb := 1) (ok_s2 (x := .tmp 18) (x' := .tmp 23) (VScal.one rfl) (VScal.one rfl) (fun ρ h1 h2 w => by go_simp; (try go_bits); with_reducible rfl) rfl) rfl (gle rfl)) rfl ?_
        refine SV.nil ?_
        refine SV.tn ?_
        refine SV.cond rfl (fun hc1 => ?_) (fun hc1 => ?_)
        · skip   -- c1.T
          have htl : t < (BrokerD.side b i).length := by simpa using hc1
          obtain ⟨c, hx⟩ : ∃ c, (BrokerD.side b i)[t]? = some c := ⟨_, List.getElem?_eq_getElem htl⟩
          have hll : (BrokerD.side b i).length ≤ 1000000000 := by unfold BrokerD.side; split <;> assumption
          refine SV.skip ?_
          refine SV.tn ?_
          refine SV.seq' ?_
          refine SV.block ?_
          refine SV.seq' ?_
          refine SV.region ?_
          refine SV.op (OpL.ok (nb := 1) (ok_move (v := V.one (.hd 0)) (.inl rfl) rfl) rfl (gle rfl)) rfl ?_
          refine SV.op (OpL.ok (nb := 1) (ok_move (v := V.one (.sc _)) (.inl rfl) rfl) rfl (gle rfl)) rfl ?_
          refine SV.op (OpL.ok (nb := 1) (ok_index (n := 1) (lf := .hd 0) rfl elt_s_impl_Client.und sz_s_impl_Client rfl rfl rfl (hsel)) rfl (gle rfl)) rfl ?_
          refine SV.op (ok_load_el (p := .ep 0 _ _ _) (ag := false) (m := 1) (ys := [.sc _]) rfl rfl (cells_ep rfl (hsel) rfl rfl) agg_s_impl_Client sz_s_impl_Client (fun _ => rfl) (gle rfl) rfl rfl (gle rfl)) rfl ?_
          refine SV.shutRo (d := 30) (t := .seq 35 ((BrokerD.side b i).map tClient)) rfl (hread) (gle rfl) ?_
          refine SV.op (OpL.ok (nb := 1) (ok_move (v := V.one (.sc _)) (.inl rfl) rfl) rfl (gle rfl)) rfl ?_
          refine SV.op (OpL.ok (nb := 1) (ok_index (n := 3) (lf := .ro _) rfl elt_impl_Client.und sz_impl_Client rfl rfl rfl (map_at hx)) rfl (gle rfl)) rfl ?_
          refine SV.op (OpL.ok (nb := 1) (ok_load_rp (ag := true) (m := 3) (ys := [.sc _, .sc _, .sc _]) rfl rfl agg_impl_Client sz_impl_Client (fun h => by cases h) (gle rfl) rfl) rfl (gle rfl)) rfl ?_
          refine SV.op (OpMk.ok (ok_alloc (kk := 1) (xs := [.sc _, .sc _, .sc _]) rfl rfl zero_impl_Client ⟨rfl, rfl, rfl, rfl, rfl, rfl, trivial⟩ rfl (gle rfl))) rfl ?_
          refine SV.op (ok_store_bp (b := 1) (i := 0) (m := 3) (ag := true) (zs := [.sc _, .sc _, .sc _]) (ys := [.sc _, .sc _, .sc _]) rfl rfl rfl rfl sz_impl_Client (fun h => by cases h) rfl (gle rfl) rfl rfl rfl) rfl ?_
          refine SV.nil ?_
          refine SV.tn ?_
          refine SV.seq' ?_
          refine SV.draw [.q 0, .q 1, .q 2, .q 3, .q 4, .m 5, .q 6, .q 7, .q 8, .q 9, .q 10, .q 11, .q 12, .q 13, .q 14, .q 15, .q 16, .q 17, .q 18, .q 19, .q 20, .q 21, .q 22, .q 23, .q 24, .q 25, .q 26, .q 27, .m 28, .q 29, .q 30, .q 31, .q 32, .q 33, .m 34, .q 35, .q 36] [] (by kernel_rfl) (by kernel_rfl) ?_
          refine DW.q rfl (ok_field_bp (b := 1) (o' := 0) (off := 0) rfl rfl fld_impl_Client_0) rfl rfl (gle rfl) (fun _ _ _ _ h => h) ?_
          refine DW.q rfl (ok_load_bp (b := 1) (i := 0) (ag := false) (m := 1) (ys := [.sc _]) rfl rfl rfl agg_int sz_int (fun _ => rfl) rfl rfl (gle rfl)) rfl rfl (gle rfl) (fun _ _ _ _ h => h) ?_
          refine DW.q rfl (ok_field_bp (b := 0) (o' := 0) (off := 1) rfl rfl fld_impl_Broker_1) rfl rfl (gle rfl) (fun _ _ _ _ h => h) ?_
          refine DW.q rfl (ok_load_bp (b := 0) (i := 1) (ag := false) (m := 1) (ys := [.sc _]) rfl rfl rfl agg_int sz_int (fun _ => rfl) rfl rfl (gle rfl)) rfl rfl (gle rfl) (fun _ _ _ _ h => h) ?_
          refine DW.q rfl (ok_s2 (v := .int .i64 (wrap64 (b.fNextID - 1))) (x := .tmp 37) (x' := .const ((Value.int IntKind.i64 1))) (VScal.one rfl) (VScal.one rfl) (fun ρ h1 h2 w => by go_simp; rw [IntWalk.i64_left]) rfl) rfl rfl (gle rfl) (fun _ _ _ _ h => h) ?_
          refine DW.m [] rfl (ok_call (ls := [(false, [.sc _])]) rfl rfl ⟨_, _, Try.func56, rfl, by decide⟩ (vin_s' c.fID 0 (wrap64 (b.fNextID - 1))) ⟨⟨[.sc _], rfl, ⟨rfl, trivial⟩⟩, ⟨[.sc _], rfl, ⟨rfl, trivial⟩⟩, ⟨[.sc _], rfl, ⟨rfl, trivial⟩⟩, trivial⟩ rfl (gle rfl)) rfl (gle rfl) (gle rfl) (.inl rfl) (fun j hj => by cases hj) ?_
          refine DW.q rfl (ok_s1 (x := .tmp 39) (VScal.one rfl) (fun ρ h1 w => by go_simp; (try go_bits); with_reducible rfl) rfl) rfl rfl (gle rfl) (fun _ _ _ _ h => h) ?_
          refine DW.q rfl (ok_move (v := V.one (.sc _)) (.inl rfl) rfl) rfl rfl (gle rfl) (fun _ _ _ _ h => h) ?_
          refine DW.split (d := 41) rfl (fun hg0 => ?_) (fun hg0 => ?_)
          · skip   -- g0.T
            refine DW.qN (V' := V.one .dead) rfl rfl rfl rfl (gle rfl) rfl rfl rfl (gle rfl) (fun _ _ _ _ h => h) ?_
            refine DW.qN (V' := V.one .dead) rfl rfl rfl rfl (gle rfl) rfl rfl rfl (gle rfl) (fun _ _ _ _ h => h) ?_
            refine DW.qNu rfl rfl rfl rfl (gle rfl) rfl rfl rfl (gle rfl) (fun _ _ _ _ h => h) ?_
            refine DW.qNN rfl rfl rfl rfl (gle rfl) rfl rfl (gle rfl) (fun _ _ _ _ h => h) ?_
            refine DW.qNN rfl rfl rfl rfl (gle rfl) rfl rfl (gle rfl) (fun _ _ _ _ h => h) ?_
            refine DW.qNN rfl rfl rfl rfl (gle rfl) rfl rfl (gle rfl) (fun _ _ _ _ h => h) ?_
            refine DW.qNN rfl rfl rfl rfl (gle rfl) rfl rfl (gle rfl) (fun _ _ _ _ h => h) ?_
            refine DW.qNN rfl rfl rfl rfl (gle rfl) rfl rfl (gle rfl) (fun _ _ _ _ h => h) ?_
            refine DW.qNN rfl rfl rfl rfl (gle rfl) rfl rfl (gle rfl) (fun _ _ _ _ h => h) ?_
            refine DW.qNN rfl rfl rfl rfl (gle rfl) rfl rfl (gle rfl) (fun _ _ _ _ h => h) ?_
            refine DW.qNN rfl rfl rfl rfl (gle rfl) rfl rfl (gle rfl) (fun _ _ _ _ h => h) ?_
            refine DW.qNN rfl rfl rfl rfl (gle rfl) rfl rfl (gle rfl) (fun _ _ _ _ h => h) ?_
            refine DW.qNN rfl rfl rfl rfl (gle rfl) rfl rfl (gle rfl) (fun _ _ _ _ h => h) ?_
            refine DW.qNN rfl rfl rfl rfl (gle rfl) rfl rfl (gle rfl) (fun _ _ _ _ h => h) ?_
            refine DW.qNN rfl rfl rfl rfl (gle rfl) rfl rfl (gle rfl) (fun _ _ _ _ h => h) ?_
            refine DW.qN (V' := V.one .dead) rfl rfl rfl rfl (gle rfl) rfl rfl rfl (gle rfl) (fun _ _ _ _ h => h) ?_
            refine DW.q rfl (ok_pickT (v := V.one (.sc _)) rfl rfl rfl) rfl rfl (gle rfl) (fun _ _ _ _ h => h) ?_
            refine DW.q rfl (ok_move (v := V.one (.sc _)) (.inl rfl) rfl) rfl rfl (gle rfl) (fun _ _ _ _ h => h) ?_
            refine DW.qN (V' := V.one .dead) rfl rfl rfl rfl (gle rfl) rfl rfl rfl (gle rfl) (fun _ _ _ _ h => h) ?_
            refine DW.qN (V' := V.one .dead) rfl rfl rfl rfl (gle rfl) rfl rfl rfl (gle rfl) (fun _ _ _ _ h => h) ?_
            refine DW.mN rfl rfl rfl rfl (gle rfl) rfl rfl rfl (gle rfl) ?_
            refine DW.qN (V' := V.one .dead) rfl rfl rfl rfl (gle rfl) rfl rfl rfl (gle rfl) (fun _ _ _ _ h => h) ?_
            refine DW.q rfl (ok_pickT (v := V.one (.sc _)) rfl rfl rfl) rfl rfl (gle rfl) (fun _ _ _ _ h => h) ?_
            refine DW.q rfl (ok_move (v := V.one (.sc _)) (.inl rfl) rfl) rfl rfl (gle rfl) (fun _ _ _ _ h => h) ?_
            refine DW.qN (V' := V.one .dead) rfl rfl rfl rfl (gle rfl) rfl rfl rfl (gle rfl) (fun _ _ _ _ h => h) ?_
            refine DW.qN (V' := V.one .dead) rfl rfl rfl rfl (gle rfl) rfl rfl rfl (gle rfl) (fun _ _ _ _ h => h) ?_
            refine DW.mN rfl rfl rfl rfl (gle rfl) rfl rfl rfl (gle rfl) ?_
            refine DW.qN (V' := V.one .dead) rfl rfl rfl rfl (gle rfl) rfl rfl rfl (gle rfl) (fun _ _ _ _ h => h) ?_
            refine DW.q rfl (ok_pickT (v := V.one (.sc _)) rfl rfl rfl) rfl rfl (gle rfl) (fun _ _ _ _ h => h) ?_
            refine DW.stores ?_
            refine SV.zend ?_
            refine SV.tn ?_
            refine SV.cond rfl (fun hc2 => ?_) (fun hc2 => ?_)
            · skip   -- c2.T
              have hbad : BrokerD.okAt (BrokerD.bound b) (BrokerD.side b i) t = false := by
                rw [BrokerD.okAt_some hx, Bool.eq_false_iff]
                intro hh
                simp only [Bool.and_eq_true, Bool.or_eq_true, beq_iff_eq, BrokerD.okC_iff] at hh
                obtain ⟨h1, h2⟩ := hh
                unfold BrokerD.bound at h1
                (try rw [hd] at h2)
                simp at *
                omega
              have hno : BrokerD.ok b = false := BrokerD.side_bad htl hbad
              refine SV.seq' ?_
              refine SV.region ?_
              refine SV.op (OpL.ok (nb := 2) (ok_move (v := V.one (.sc _)) (.inr rfl) rfl) rfl (gle rfl)) rfl ?_
              refine SV.nil ?_
              refine SV.tn ?_
              refine SV.ret ?_
              refine SV.br ?_
              refine SV.tr ?_
              refine SV.tr ?_
              refine SV.br ?_
              refine SV.br ?_
              refine SV.tr ?_
              refine SV.tr ?_
              refine SV.br ?_
              refine SV.tr ?_
              apply SV.done (hf := Try.results20) (ht := rfl) (he := .inl rfl)
              case hr => exact (ResAll.cons (ResOk.tmp (ag := false) (xs := [.sc _]) rfl) ResAll.nil')
              case h2 => simp [two]
              refine ⟨rfl, ⟨?_, trivial⟩, trivial⟩ <;> first | ((show some (T.lit (Value.bool _)) = some (T.lit (Value.bool _)); refine congrArg (fun z => some (T.lit (Value.bool z))) ?_; rw [hno])) | ((show some (T.lit (Value.bool _)) = some (T.lit (Value.bool _)); refine congrArg (fun z => some (T.lit (Value.bool z))) ?_; rw [hrest]; unfold BrokerD.okN; rw [Bool.eq_iff_iff]; clear hm hoA hoW hrest; generalize b.fWaiting.length = lw at *; generalize b.fActive.length = la at *; simp at *; omega))
            · skip   -- c2.F
              cases hc2
          · skip   -- g0.F
            refine DW.qY rfl (ok_move (v := V.one (.sc _)) (.inl rfl) rfl) rfl rfl rfl (gle rfl) rfl rfl rfl (gle rfl) (fun _ _ _ _ h => h) ?_
            refine DW.qY rfl (ok_s2 (x := .tmp 42) (x' := .const ((Value.int IntKind.i64 0))) (VScal.one rfl) (VScal.one rfl) (fun ρ h1 h2 w => by go_simp; (try go_bits); with_reducible rfl) rfl) rfl rfl rfl (gle rfl) rfl rfl rfl (gle rfl) (fun _ _ _ _ h => h) ?_
            refine DW.qY rfl (ok_move (v := V.one (.sc _)) (.inl rfl) rfl) rfl rfl rfl (gle rfl) rfl rfl rfl (gle rfl) (fun _ _ _ _ h => h) ?_
            refine DW.split (d := 44) rfl (fun hg1 => ?_) (fun hg1 => ?_)
            · skip   -- g1.T
              have ht0 : 0 < t := by simpa using hg1
              obtain ⟨d, hd⟩ : ∃ d, (BrokerD.side b i)[t - 1]? = some d := ⟨_, List.getElem?_eq_getElem (by omega)⟩
              refine DW.qY rfl (ok_field_bp (b := 1) (o' := 0) (off := 0) rfl rfl fld_impl_Client_0) rfl rfl rfl (gle rfl) rfl rfl rfl (gle rfl) (fun _ _ _ _ h => h) ?_
              refine DW.qY rfl (ok_load_bp (b := 1) (i := 0) (ag := false) (m := 1) (ys := [.sc _]) rfl rfl rfl agg_int sz_int (fun _ => rfl) rfl rfl (gle rfl)) rfl rfl rfl (gle rfl) rfl rfl rfl (gle rfl) (fun _ _ _ _ h => h) ?_
              refine DW.qY rfl (ok_move (v := V.one (.hd 0)) (.inl rfl) rfl) rfl rfl rfl (gle rfl) rfl rfl rfl (gle rfl) (fun _ _ _ _ h => h) ?_
              refine DW.qY rfl (ok_move (v := V.one (.sc _)) (.inl rfl) rfl) rfl rfl rfl (gle rfl) rfl rfl rfl (gle rfl) (fun _ _ _ _ h => h) ?_
              refine DW.qY rfl (ok_index (n := 1) (lf := .hd 0) rfl elt_s_impl_Client.und sz_s_impl_Client rfl rfl rfl (hsel)) rfl rfl rfl (gle rfl) rfl rfl rfl (gle rfl) (fun _ _ _ _ h => h) ?_
              refine DW.elm (ag := false) (m := 1) (ys := [.sc _]) rfl rfl rfl ⟨(gle rfl), rfl⟩ (cells_ep rfl (hsel) rfl rfl) agg_s_impl_Client sz_s_impl_Client (fun _ => rfl) (gle rfl) rfl (fun hr => wantedY hr rfl rfl rfl (gle rfl) rfl rfl) rfl (gle rfl) (fun _ _ _ _ h => h) ?_
              refine DW.shutRo (d := 50) (t := .seq 35 ((BrokerD.side b i).map tClient)) rfl (hread) (gle rfl) ?_
              refine DW.qY rfl (ok_move (v := V.one (.sc _)) (.inl rfl) rfl) rfl rfl rfl (gle rfl) rfl rfl rfl (gle rfl) (fun _ _ _ _ h => h) ?_
              refine DW.qY rfl (ok_s2 (v := .int .i64 ((t - 1 : Nat) : Int)) (x := .tmp 51) (x' := .const ((Value.int IntKind.i64 1))) (VScal.one rfl) (VScal.one rfl) (fun ρ h1 h2 w => by go_simp; all_goals ((try go_bits); first | with_reducible rfl | go_num | (simp; done) | (simp; omega))) rfl) rfl rfl rfl (gle rfl) rfl rfl rfl (gle rfl) (fun _ _ _ _ h => h) ?_
              refine DW.qY rfl (ok_index (n := 3) (lf := .ro _) rfl elt_impl_Client.und sz_impl_Client rfl rfl rfl (map_at hd)) rfl rfl rfl (gle rfl) rfl rfl rfl (gle rfl) (fun _ _ _ _ h => h) ?_
              refine DW.qY rfl (ok_field_el (p := .rp _) (off := 0) rfl rfl rfl fld_impl_Client_0) rfl rfl rfl (gle rfl) rfl rfl rfl (gle rfl) (fun _ _ _ _ h => h) ?_
              refine DW.qY rfl (ok_load_rp (ag := false) (m := 1) (ys := [.sc _]) rfl rfl agg_int sz_int (fun _ => rfl) (gle rfl) rfl) rfl rfl rfl (gle rfl) rfl rfl rfl (gle rfl) (fun _ _ _ _ h => h) ?_
              refine DW.qY rfl (ok_s2 (x := .tmp 46) (x' := .tmp 55) (VScal.one rfl) (VScal.one rfl) (fun ρ h1 h2 w => by go_simp; (try go_bits); with_reducible rfl) rfl) rfl rfl rfl (gle rfl) rfl rfl rfl (gle rfl) (fun _ _ _ _ h => h) ?_
              refine DW.qY rfl (ok_pickT (v := V.one (.sc _)) rfl rfl rfl) rfl rfl rfl (gle rfl) rfl rfl rfl (gle rfl) (fun _ _ _ _ h => h) ?_
              refine DW.q rfl (ok_pickF (v := V.one (.sc _)) rfl rfl rfl) rfl rfl (gle rfl) (fun _ _ _ _ h => h) ?_
              refine DW.q rfl (ok_move (v := V.one (.sc _)) (.inl rfl) rfl) rfl rfl (gle rfl) (fun _ _ _ _ h => h) ?_
              refine DW.split (d := 59) rfl (fun hg2 => ?_) (fun hg2 => ?_)
              · skip   -- g2.T
                refine DW.qN (V' := V.one .dead) rfl rfl rfl rfl (gle rfl) rfl rfl rfl (gle rfl) (fun _ _ _ _ h => h) ?_
                refine DW.qN (V' := V.one .dead) rfl rfl rfl rfl (gle rfl) rfl rfl rfl (gle rfl) (fun _ _ _ _ h => h) ?_
                refine DW.mN rfl rfl rfl rfl (gle rfl) rfl rfl rfl (gle rfl) ?_
                refine DW.qN (V' := V.one .dead) rfl rfl rfl rfl (gle rfl) rfl rfl rfl (gle rfl) (fun _ _ _ _ h => h) ?_
                refine DW.q rfl (ok_pickT (v := V.one (.sc _)) rfl rfl rfl) rfl rfl (gle rfl) (fun _ _ _ _ h => h) ?_
                refine DW.q rfl (ok_move (v := V.one (.sc _)) (.inl rfl) rfl) rfl rfl (gle rfl) (fun _ _ _ _ h => h) ?_
                refine DW.qN (V' := V.one .dead) rfl rfl rfl rfl (gle rfl) rfl rfl rfl (gle rfl) (fun _ _ _ _ h => h) ?_
                refine DW.qN (V' := V.one .dead) rfl rfl rfl rfl (gle rfl) rfl rfl rfl (gle rfl) (fun _ _ _ _ h => h) ?_
                refine DW.mN rfl rfl rfl rfl (gle rfl) rfl rfl rfl (gle rfl) ?_
                refine DW.qN (V' := V.one .dead) rfl rfl rfl rfl (gle rfl) rfl rfl rfl (gle rfl) (fun _ _ _ _ h => h) ?_
                refine DW.q rfl (ok_pickT (v := V.one (.sc _)) rfl rfl rfl) rfl rfl (gle rfl) (fun _ _ _ _ h => h) ?_
                refine DW.stores ?_
                refine SV.zend ?_
                refine SV.tn ?_
                refine SV.cond rfl (fun hc3 => ?_) (fun hc3 => ?_)
                · skip   -- c3.T
                  have hbad : BrokerD.okAt (BrokerD.bound b) (BrokerD.side b i) t = false := by
                    rw [BrokerD.okAt_some hx, Bool.eq_false_iff]
                    intro hh
                    simp only [Bool.and_eq_true, Bool.or_eq_true, beq_iff_eq, BrokerD.okC_iff] at hh
                    obtain ⟨h1, h2⟩ := hh
                    unfold BrokerD.bound at h1
                    (try rw [hd] at h2)
                    simp at *
                    omega
                  have hno : BrokerD.ok b = false := BrokerD.side_bad htl hbad
                  refine SV.seq' ?_
                  refine SV.region ?_
                  refine SV.op (OpL.ok (nb := 2) (ok_move (v := V.one (.sc _)) (.inr rfl) rfl) rfl (gle rfl)) rfl ?_
                  refine SV.nil ?_
                  refine SV.tn ?_
                  refine SV.ret ?_
                  refine SV.br ?_
                  refine SV.tr ?_
                  refine SV.tr ?_
                  refine SV.br ?_
                  refine SV.br ?_
                  refine SV.tr ?_
                  refine SV.tr ?_
                  refine SV.br ?_
                  refine SV.tr ?_
                  apply SV.done (hf := Try.results20) (ht := rfl) (he := .inl rfl)
                  case hr => exact (ResAll.cons (ResOk.tmp (ag := false) (xs := [.sc _]) rfl) ResAll.nil')
                  case h2 => simp [two]
                  refine ⟨rfl, ⟨?_, trivial⟩, trivial⟩ <;> first | ((show some (T.lit (Value.bool _)) = some (T.lit (Value.bool _)); refine congrArg (fun z => some (T.lit (Value.bool z))) ?_; rw [hno])) | ((show some (T.lit (Value.bool _)) = some (T.lit (Value.bool _)); refine congrArg (fun z => some (T.lit (Value.bool z))) ?_; rw [hrest]; unfold BrokerD.okN; rw [Bool.eq_iff_iff]; clear hm hoA hoW hrest; generalize b.fWaiting.length = lw at *; generalize b.fActive.length = la at *; simp at *; omega))
                · skip   -- c3.F
                  cases hc3
              · skip   -- g2.F
                refine DW.qY rfl (ok_field_bp (b := 1) (o' := 0) (off := 1) rfl rfl fld_impl_Client_1) rfl rfl rfl (gle rfl) rfl rfl rfl (gle rfl) (fun _ _ _ _ h => h) ?_
                refine DW.qY rfl (ok_load_bp (b := 1) (i := 1) (ag := false) (m := 1) (ys := [.sc _]) rfl rfl rfl agg_int sz_int (fun _ => rfl) rfl rfl (gle rfl)) rfl rfl rfl (gle rfl) rfl rfl rfl (gle rfl) (fun _ _ _ _ h => h) ?_
                refine DW.m' [] rfl (ok_call (ls := [(false, [.sc _])]) rfl rfl ⟨_, _, Try.func56, rfl, by decide⟩ (vin_s' c.fRequested 8 60) ⟨⟨[.sc _], rfl, ⟨rfl, trivial⟩⟩, ⟨[.sc _], rfl, ⟨rfl, trivial⟩⟩, ⟨[.sc _], rfl, ⟨rfl, trivial⟩⟩, trivial⟩ rfl (gle rfl)) (fun hr => wantedY hr rfl rfl rfl (gle rfl) rfl rfl) (gle rfl) (gle rfl) (.inl rfl) (fun j hj => by cases hj) ?_
                refine DW.qY rfl (ok_s1 (x := .tmp 62) (VScal.one rfl) (fun ρ h1 w => by go_simp; (try go_bits); with_reducible rfl) rfl) rfl rfl rfl (gle rfl) rfl rfl rfl (gle rfl) (fun _ _ _ _ h => h) ?_
                refine DW.q rfl (ok_pickF (v := V.one (.sc _)) rfl rfl rfl) rfl rfl (gle rfl) (fun _ _ _ _ h => h) ?_
                refine DW.q rfl (ok_move (v := V.one (.sc _)) (.inl rfl) rfl) rfl rfl (gle rfl) (fun _ _ _ _ h => h) ?_
                refine DW.split (d := 65) rfl (fun hg3 => ?_) (fun hg3 => ?_)
                · skip   -- g3.T
                  refine DW.qN (V' := V.one .dead) rfl rfl rfl rfl (gle rfl) rfl rfl rfl (gle rfl) (fun _ _ _ _ h => h) ?_
                  refine DW.qN (V' := V.one .dead) rfl rfl rfl rfl (gle rfl) rfl rfl rfl (gle rfl) (fun _ _ _ _ h => h) ?_
                  refine DW.mN rfl rfl rfl rfl (gle rfl) rfl rfl rfl (gle rfl) ?_
                  refine DW.qN (V' := V.one .dead) rfl rfl rfl rfl (gle rfl) rfl rfl rfl (gle rfl) (fun _ _ _ _ h => h) ?_
                  refine DW.q rfl (ok_pickT (v := V.one (.sc _)) rfl rfl rfl) rfl rfl (gle rfl) (fun _ _ _ _ h => h) ?_
                  refine DW.stores ?_
                  refine SV.zend ?_
                  refine SV.tn ?_
                  refine SV.cond rfl (fun hc4 => ?_) (fun hc4 => ?_)
                  · skip   -- c4.T
                    have hbad : BrokerD.okAt (BrokerD.bound b) (BrokerD.side b i) t = false := by
                      rw [BrokerD.okAt_some hx, Bool.eq_false_iff]
                      intro hh
                      simp only [Bool.and_eq_true, Bool.or_eq_true, beq_iff_eq, BrokerD.okC_iff] at hh
                      obtain ⟨h1, h2⟩ := hh
                      unfold BrokerD.bound at h1
                      (try rw [hd] at h2)
                      simp at *
                      omega
                    have hno : BrokerD.ok b = false := BrokerD.side_bad htl hbad
                    refine SV.seq' ?_
                    refine SV.region ?_
                    refine SV.op (OpL.ok (nb := 2) (ok_move (v := V.one (.sc _)) (.inr rfl) rfl) rfl (gle rfl)) rfl ?_
                    refine SV.nil ?_
                    refine SV.tn ?_
                    refine SV.ret ?_
                    refine SV.br ?_
                    refine SV.tr ?_
                    refine SV.tr ?_
                    refine SV.br ?_
                    refine SV.br ?_
                    refine SV.tr ?_
                    refine SV.tr ?_
                    refine SV.br ?_
                    refine SV.tr ?_
                    apply SV.done (hf := Try.results20) (ht := rfl) (he := .inl rfl)
                    case hr => exact (ResAll.cons (ResOk.tmp (ag := false) (xs := [.sc _]) rfl) ResAll.nil')
                    case h2 => simp [two]
                    refine ⟨rfl, ⟨?_, trivial⟩, trivial⟩ <;> first | ((show some (T.lit (Value.bool _)) = some (T.lit (Value.bool _)); refine congrArg (fun z => some (T.lit (Value.bool z))) ?_; rw [hno])) | ((show some (T.lit (Value.bool _)) = some (T.lit (Value.bool _)); refine congrArg (fun z => some (T.lit (Value.bool z))) ?_; rw [hrest]; unfold BrokerD.okN; rw [Bool.eq_iff_iff]; clear hm hoA hoW hrest; generalize b.fWaiting.length = lw at *; generalize b.fActive.length = la at *; simp at *; omega))
                  · skip   -- c4.F
                    cases hc4
                · skip   -- g3.F
                  refine DW.qY rfl (ok_field_bp (b := 1) (o' := 0) (off := 2) rfl rfl fld_impl_Client_2) rfl rfl rfl (gle rfl) rfl rfl rfl (gle rfl) (fun _ _ _ _ h => h) ?_
                  refine DW.qY rfl (ok_load_bp (b := 1) (i := 2) (ag := false) (m := 1) (ys := [.sc _]) rfl rfl rfl agg_int sz_int (fun _ => rfl) rfl rfl (gle rfl)) rfl rfl rfl (gle rfl) rfl rfl rfl (gle rfl) (fun _ _ _ _ h => h) ?_
                  refine DW.m' [] rfl (ok_call (ls := [(false, [.sc _])]) rfl rfl ⟨_, _, Try.func56, rfl, by decide⟩ (vin_s' c.fPriority 0 9) ⟨⟨[.sc _], rfl, ⟨rfl, trivial⟩⟩, ⟨[.sc _], rfl, ⟨rfl, trivial⟩⟩, ⟨[.sc _], rfl, ⟨rfl, trivial⟩⟩, trivial⟩ rfl (gle rfl)) (fun hr => wantedY hr rfl rfl rfl (gle rfl) rfl rfl) (gle rfl) (gle rfl) (.inl rfl) (fun j hj => by cases hj) ?_
                  refine DW.qY rfl (ok_s1 (x := .tmp 68) (VScal.one rfl) (fun ρ h1 w => by go_simp; (try go_bits); with_reducible rfl) rfl) rfl rfl rfl (gle rfl) rfl rfl rfl (gle rfl) (fun _ _ _ _ h => h) ?_
                  refine DW.q rfl (ok_pickF (v := V.one (.sc _)) rfl rfl rfl) rfl rfl (gle rfl) (fun _ _ _ _ h => h) ?_
                  refine DW.stores ?_
                  refine SV.zend ?_
                  refine SV.tn ?_
                  refine SV.cond rfl (fun hc5 => ?_) (fun hc5 => ?_)
                  · skip   -- c5.T
                    have hbad : BrokerD.okAt (BrokerD.bound b) (BrokerD.side b i) t = false := by
                      rw [BrokerD.okAt_some hx, Bool.eq_false_iff]
                      intro hh
                      simp only [Bool.and_eq_true, Bool.or_eq_true, beq_iff_eq, BrokerD.okC_iff] at hh
                      obtain ⟨h1, h2⟩ := hh
                      unfold BrokerD.bound at h1
                      (try rw [hd] at h2)
                      simp at *
                      omega
                    have hno : BrokerD.ok b = false := BrokerD.side_bad htl hbad
                    refine SV.seq' ?_
                    refine SV.region ?_
                    refine SV.op (OpL.ok (nb := 2) (ok_move (v := V.one (.sc _)) (.inr rfl) rfl) rfl (gle rfl)) rfl ?_
                    refine SV.nil ?_
                    refine SV.tn ?_
                    refine SV.ret ?_
                    refine SV.br ?_
                    refine SV.tr ?_
                    refine SV.tr ?_
                    refine SV.br ?_
                    refine SV.br ?_
                    refine SV.tr ?_
                    refine SV.tr ?_
                    refine SV.br ?_
                    refine SV.tr ?_
                    apply SV.done (hf := Try.results20) (ht := rfl) (he := .inl rfl)
                    case hr => exact (ResAll.cons (ResOk.tmp (ag := false) (xs := [.sc _]) rfl) ResAll.nil')
                    case h2 => simp [two]
                    refine ⟨rfl, ⟨?_, trivial⟩, trivial⟩ <;> first | ((show some (T.lit (Value.bool _)) = some (T.lit (Value.bool _)); refine congrArg (fun z => some (T.lit (Value.bool z))) ?_; rw [hno])) | ((show some (T.lit (Value.bool _)) = some (T.lit (Value.bool _)); refine congrArg (fun z => some (T.lit (Value.bool z))) ?_; rw [hrest]; unfold BrokerD.okN; rw [Bool.eq_iff_iff]; clear hm hoA hoW hrest; generalize b.fWaiting.length = lw at *; generalize b.fActive.length = la at *; simp at *; omega))
                  · skip   -- c5.F
                    have hgood : BrokerD.okAt (BrokerD.bound b) (BrokerD.side b i) t = true := by
                      rw [BrokerD.okAt_some hx]
                      simp only [Bool.and_eq_true, Bool.or_eq_true, beq_iff_eq, BrokerD.okC_iff]
                      unfold BrokerD.bound
                      (try rw [hd])
                      simp at *
                      omega
                    refine SV.skip ?_
                    refine SV.bn ?_
                    refine SV.tn ?_
                    refine SV.region ?_
                    refine SV.op (OpL.ok (nb := 2) (ok_move (v := V.one (.sc _)) (.inl rfl) rfl) rfl (gle rfl)) rfl ?_
                    refine SV.op (OpL.ok (nb := 2) (ok_s2 (x := .tmp 25) (x' := .const ((Value.int IntKind.i64 1))) (VScal.one rfl) (VScal.one rfl) (fun ρ h1 h2 w => by go_simp; (try go_bits); with_reducible rfl) rfl) rfl (gle rfl)) rfl ?_
                    refine SV.op (OpL.ok (nb := 2) (ok_move (v := V.one (.sc _)) (.inr rfl) rfl) rfl (gle rfl)) rfl ?_
                    refine SV.nil ?_
                    refine SV.tn ?_
                    refine SV.again (fun i => [0].getD i 0) (t + 1) (⟨⟨by omega, fun k hk => by rcases Nat.lt_or_ge k t with h1 | h1; (exact hok k h1); (have h2 : k = t := (by omega); subst h2; exact hgood)⟩, by omega⟩) (pins hE rfl rfl) (VS.le.mk' (le_put (le_put (le_put (le_put (le_put (le_box (le_new le_nil)) (V.le.keep (ag := false) (xs := [.bp 0 0]) (ys := [.bp 0 0]) rfl rfl ⟨⟨rfl, (gle rfl)⟩, trivial⟩)) (V.le.keep (ag := false) (xs := [.sc _]) (ys := [.sc _]) rfl rfl ⟨rfl, trivial⟩)) (V.le.keep (ag := false) (xs := [.hd 0]) (ys := [.hd 0]) rfl rfl ⟨⟨rfl, (gle rfl), (gle rfl)⟩, trivial⟩)) (V.le.keep (ag := false) (xs := [.sc _]) (ys := [.sc _]) rfl rfl ⟨(by first | rfl | (show Leaf.sc _ = Leaf.sc _; refine congrArg Leaf.sc ?_; first | rfl | go_num | (simp [cntAll]; done)) | (simp [cntAll]; done) | (simp; omega)), trivial⟩)) (V.le.keep (ag := false) (xs := [.sc _]) (ys := [.sc _]) rfl rfl ⟨(by first | rfl | (show Leaf.sc _ = Leaf.sc _; refine congrArg Leaf.sc ?_; first | rfl | go_num | (simp [cntAll]; done)) | (simp [cntAll]; done) | (simp; omega)), trivial⟩)) ⟨⟨rfl, ⟨rfl, rfl, rfl, rfl, trivial⟩⟩, trivial⟩ ⟨.inr ⟨_, _, rfl, ?ob3_0, (gle rfl)⟩, trivial⟩ (new_ob nil_ob) (fun i j hi hj e => inj_list (l := [0]) (by decide) i j hi hj e))
                    case ob3_0 =>
                      show some (T.seq _ _) = some (T.seq _ _)
                      rfl
            · skip   -- g1.F
              refine DW.qN (V' := V.one .dead) rfl rfl rfl rfl (gle rfl) rfl rfl rfl (gle rfl) (fun _ _ _ _ h => h) ?_
              refine DW.qN (V' := V.one .dead) rfl rfl rfl rfl (gle rfl) rfl rfl rfl (gle rfl) (fun _ _ _ _ h => h) ?_
              refine DW.qN (V' := V.one .dead) rfl rfl rfl rfl (gle rfl) rfl rfl rfl (gle rfl) (fun _ _ _ _ h => h) ?_
              refine DW.qN (V' := V.one .dead) rfl rfl rfl rfl (gle rfl) rfl rfl rfl (gle rfl) (fun _ _ _ _ h => h) ?_
              refine DW.qN (V' := V.one .dead) rfl rfl rfl rfl (gle rfl) rfl rfl rfl (gle rfl) (fun _ _ _ _ h => h) ?_
              refine DW.qN (V' := V.one .dead) rfl rfl rfl rfl (gle rfl) rfl rfl rfl (gle rfl) (fun _ _ _ _ h => h) ?_
              refine DW.qN (V' := V.one .dead) rfl rfl rfl rfl (gle rfl) rfl rfl rfl (gle rfl) (fun _ _ _ _ h => h) ?_
              refine DW.qN (V' := V.one .dead) rfl rfl rfl rfl (gle rfl) rfl rfl rfl (gle rfl) (fun _ _ _ _ h => h) ?_
              refine DW.qN (V' := V.one .dead) rfl rfl rfl rfl (gle rfl) rfl rfl rfl (gle rfl) (fun _ _ _ _ h => h) ?_
              refine DW.qN (V' := V.one .dead) rfl rfl rfl rfl (gle rfl) rfl rfl rfl (gle rfl) (fun _ _ _ _ h => h) ?_
              refine DW.qN (V' := V.one .dead) rfl rfl rfl rfl (gle rfl) rfl rfl rfl (gle rfl) (fun _ _ _ _ h => h) ?_
              refine DW.qN (V' := V.one .dead) rfl rfl rfl rfl (gle rfl) rfl rfl rfl (gle rfl) (fun _ _ _ _ h => h) ?_
              refine DW.qY rfl (ok_pickF (v := V.one (.sc _)) rfl rfl rfl) rfl rfl rfl (gle rfl) rfl rfl rfl (gle rfl) (fun _ _ _ _ h => h) ?_
              refine DW.q rfl (ok_pickF (v := V.one (.sc _)) rfl rfl rfl) rfl rfl (gle rfl) (fun _ _ _ _ h => h) ?_
              refine DW.q rfl (ok_move (v := V.one (.sc _)) (.inl rfl) rfl) rfl rfl (gle rfl) (fun _ _ _ _ h => h) ?_
              refine DW.qY rfl (ok_field_bp (b := 1) (o' := 0) (off := 1) rfl rfl fld_impl_Client_1) rfl rfl rfl (gle rfl) rfl rfl rfl (gle rfl) (fun _ _ _ _ h => h) ?_
              refine DW.qY rfl (ok_load_bp (b := 1) (i := 1) (ag := false) (m := 1) (ys := [.sc _]) rfl rfl rfl agg_int sz_int (fun _ => rfl) rfl rfl (gle rfl)) rfl rfl rfl (gle rfl) rfl rfl rfl (gle rfl) (fun _ _ _ _ h => h) ?_
              refine DW.m' [] rfl (ok_call (ls := [(false, [.sc _])]) rfl rfl ⟨_, _, Try.func56, rfl, by decide⟩ (vin_s' c.fRequested 8 60) ⟨⟨[.sc _], rfl, ⟨rfl, trivial⟩⟩, ⟨[.sc _], rfl, ⟨rfl, trivial⟩⟩, ⟨[.sc _], rfl, ⟨rfl, trivial⟩⟩, trivial⟩ rfl (gle rfl)) (fun hr => wantedY hr rfl rfl rfl (gle rfl) rfl rfl) (gle rfl) (gle rfl) (.inl rfl) (fun j hj => by cases hj) ?_
              refine DW.qY rfl (ok_s1 (x := .tmp 62) (VScal.one rfl) (fun ρ h1 w => by go_simp; (try go_bits); with_reducible rfl) rfl) rfl rfl rfl (gle rfl) rfl rfl rfl (gle rfl) (fun _ _ _ _ h => h) ?_
              refine DW.q rfl (ok_pickF (v := V.one (.sc _)) rfl rfl rfl) rfl rfl (gle rfl) (fun _ _ _ _ h => h) ?_
              refine DW.q rfl (ok_move (v := V.one (.sc _)) (.inl rfl) rfl) rfl rfl (gle rfl) (fun _ _ _ _ h => h) ?_
              refine DW.split (d := 65) rfl (fun hg4 => ?_) (fun hg4 => ?_)
              · skip   -- g4.T
                refine DW.qN (V' := V.one .dead) rfl rfl rfl rfl (gle rfl) rfl rfl rfl (gle rfl) (fun _ _ _ _ h => h) ?_
                refine DW.qN (V' := V.one .dead) rfl rfl rfl rfl (gle rfl) rfl rfl rfl (gle rfl) (fun _ _ _ _ h => h) ?_
                refine DW.mN rfl rfl rfl rfl (gle rfl) rfl rfl rfl (gle rfl) ?_
                refine DW.qN (V' := V.one .dead) rfl rfl rfl rfl (gle rfl) rfl rfl rfl (gle rfl) (fun _ _ _ _ h => h) ?_
                refine DW.q rfl (ok_pickT (v := V.one (.sc _)) rfl rfl rfl) rfl rfl (gle rfl) (fun _ _ _ _ h => h) ?_
                refine DW.stores ?_
                refine SV.zend ?_
                refine SV.tn ?_
                refine SV.cond rfl (fun hc6 => ?_) (fun hc6 => ?_)
                · skip   -- c6.T
                  have hbad : BrokerD.okAt (BrokerD.bound b) (BrokerD.side b i) t = false := by
                    rw [BrokerD.okAt_some hx, Bool.eq_false_iff]
                    intro hh
                    simp only [Bool.and_eq_true, Bool.or_eq_true, beq_iff_eq, BrokerD.okC_iff] at hh
                    obtain ⟨h1, h2⟩ := hh
                    unfold BrokerD.bound at h1
                    (try rw [hd] at h2)
                    simp at *
                    omega
                  have hno : BrokerD.ok b = false := BrokerD.side_bad htl hbad
                  refine SV.seq' ?_
                  refine SV.region ?_
                  refine SV.op (OpL.ok (nb := 2) (ok_move (v := V.one (.sc _)) (.inr rfl) rfl) rfl (gle rfl)) rfl ?_
                  refine SV.nil ?_
                  refine SV.tn ?_
                  refine SV.ret ?_
                  refine SV.br ?_
                  refine SV.tr ?_
                  refine SV.tr ?_
                  refine SV.br ?_
                  refine SV.br ?_
                  refine SV.tr ?_
                  refine SV.tr ?_
                  refine SV.br ?_
                  refine SV.tr ?_
                  apply SV.done (hf := Try.results20) (ht := rfl) (he := .inl rfl)
                  case hr => exact (ResAll.cons (ResOk.tmp (ag := false) (xs := [.sc _]) rfl) ResAll.nil')
                  case h2 => simp [two]
                  refine ⟨rfl, ⟨?_, trivial⟩, trivial⟩ <;> first | ((show some (T.lit (Value.bool _)) = some (T.lit (Value.bool _)); refine congrArg (fun z => some (T.lit (Value.bool z))) ?_; rw [hno])) | ((show some (T.lit (Value.bool _)) = some (T.lit (Value.bool _)); refine congrArg (fun z => some (T.lit (Value.bool z))) ?_; rw [hrest]; unfold BrokerD.okN; rw [Bool.eq_iff_iff]; clear hm hoA hoW hrest; generalize b.fWaiting.length = lw at *; generalize b.fActive.length = la at *; simp at *; omega))
                · skip   -- c6.F
                  cases hc6
              · skip   -- g4.F
                refine DW.qY rfl (ok_field_bp (b := 1) (o' := 0) (off := 2) rfl rfl fld_impl_Client_2) rfl rfl rfl (gle rfl) rfl rfl rfl (gle rfl) (fun _ _ _ _ h => h) ?_
                refine DW.qY rfl (ok_load_bp (b := 1) (i := 2) (ag := false) (m := 1) (ys := [.sc _]) rfl rfl rfl agg_int sz_int (fun _ => rfl) rfl rfl (gle rfl)) rfl rfl rfl (gle rfl) rfl rfl rfl (gle rfl) (fun _ _ _ _ h => h) ?_
                refine DW.m' [] rfl (ok_call (ls := [(false, [.sc _])]) rfl rfl ⟨_, _, Try.func56, rfl, by decide⟩ (vin_s' c.fPriority 0 9) ⟨⟨[.sc _], rfl, ⟨rfl, trivial⟩⟩, ⟨[.sc _], rfl, ⟨rfl, trivial⟩⟩, ⟨[.sc _], rfl, ⟨rfl, trivial⟩⟩, trivial⟩ rfl (gle rfl)) (fun hr => wantedY hr rfl rfl rfl (gle rfl) rfl rfl) (gle rfl) (gle rfl) (.inl rfl) (fun j hj => by cases hj) ?_
                refine DW.qY rfl (ok_s1 (x := .tmp 68) (VScal.one rfl) (fun ρ h1 w => by go_simp; (try go_bits); with_reducible rfl) rfl) rfl rfl rfl (gle rfl) rfl rfl rfl (gle rfl) (fun _ _ _ _ h => h) ?_
                refine DW.q rfl (ok_pickF (v := V.one (.sc _)) rfl rfl rfl) rfl rfl (gle rfl) (fun _ _ _ _ h => h) ?_
                refine DW.stores ?_
                refine SV.zend ?_
                refine SV.tn ?_
                refine SV.cond rfl (fun hc7 => ?_) (fun hc7 => ?_)
                · skip   -- c7.T
                  have hbad : BrokerD.okAt (BrokerD.bound b) (BrokerD.side b i) t = false := by
                    rw [BrokerD.okAt_some hx, Bool.eq_false_iff]
                    intro hh
                    simp only [Bool.and_eq_true, Bool.or_eq_true, beq_iff_eq, BrokerD.okC_iff] at hh
                    obtain ⟨h1, h2⟩ := hh
                    unfold BrokerD.bound at h1
                    (try rw [hd] at h2)
                    simp at *
                    omega
                  have hno : BrokerD.ok b = false := BrokerD.side_bad htl hbad
                  refine SV.seq' ?_
                  refine SV.region ?_
                  refine SV.op (OpL.ok (nb := 2) (ok_move (v := V.one (.sc _)) (.inr rfl) rfl) rfl (gle rfl)) rfl ?_
                  refine SV.nil ?_
                  refine SV.tn ?_
                  refine SV.ret ?_
                  refine SV.br ?_
                  refine SV.tr ?_
                  refine SV.tr ?_
                  refine SV.br ?_
                  refine SV.br ?_
                  refine SV.tr ?_
                  refine SV.tr ?_
                  refine SV.br ?_
                  refine SV.tr ?_
                  apply SV.done (hf := Try.results20) (ht := rfl) (he := .inl rfl)
                  case hr => exact (ResAll.cons (ResOk.tmp (ag := false) (xs := [.sc _]) rfl) ResAll.nil')
                  case h2 => simp [two]
                  refine ⟨rfl, ⟨?_, trivial⟩, trivial⟩ <;> first | ((show some (T.lit (Value.bool _)) = some (T.lit (Value.bool _)); refine congrArg (fun z => some (T.lit (Value.bool z))) ?_; rw [hno])) | ((show some (T.lit (Value.bool _)) = some (T.lit (Value.bool _)); refine congrArg (fun z => some (T.lit (Value.bool z))) ?_; rw [hrest]; unfold BrokerD.okN; rw [Bool.eq_iff_iff]; clear hm hoA hoW hrest; generalize b.fWaiting.length = lw at *; generalize b.fActive.length = la at *; simp at *; omega))
                · skip   -- c7.F
                  have hgood : BrokerD.okAt (BrokerD.bound b) (BrokerD.side b i) t = true := by
                    rw [BrokerD.okAt_some hx]
                    simp only [Bool.and_eq_true, Bool.or_eq_true, beq_iff_eq, BrokerD.okC_iff]
                    unfold BrokerD.bound
                    (try rw [hd])
                    simp at *
                    omega
                  refine SV.skip ?_
                  refine SV.bn ?_
                  refine SV.tn ?_
                  refine SV.region ?_
                  refine SV.op (OpL.ok (nb := 2) (ok_move (v := V.one (.sc _)) (.inl rfl) rfl) rfl (gle rfl)) rfl ?_
                  refine SV.op (OpL.ok (nb := 2) (ok_s2 (x := .tmp 25) (x' := .const ((Value.int IntKind.i64 1))) (VScal.one rfl) (VScal.one rfl) (fun ρ h1 h2 w => by go_simp; (try go_bits); with_reducible rfl) rfl) rfl (gle rfl)) rfl ?_
                  refine SV.op (OpL.ok (nb := 2) (ok_move (v := V.one (.sc _)) (.inr rfl) rfl) rfl (gle rfl)) rfl ?_
                  refine SV.nil ?_
                  refine SV.tn ?_
                  refine SV.again (fun i => [0].getD i 0) (t + 1) (⟨⟨by omega, fun k hk => by rcases Nat.lt_or_ge k t with h1 | h1; (exact hok k h1); (have h2 : k = t := (by omega); subst h2; exact hgood)⟩, by omega⟩) (pins hE rfl rfl) (VS.le.mk' (le_put (le_put (le_put (le_put (le_put (le_box (le_new le_nil)) (V.le.keep (ag := false) (xs := [.bp 0 0]) (ys := [.bp 0 0]) rfl rfl ⟨⟨rfl, (gle rfl)⟩, trivial⟩)) (V.le.keep (ag := false) (xs := [.sc _]) (ys := [.sc _]) rfl rfl ⟨rfl, trivial⟩)) (V.le.keep (ag := false) (xs := [.hd 0]) (ys := [.hd 0]) rfl rfl ⟨⟨rfl, (gle rfl), (gle rfl)⟩, trivial⟩)) (V.le.keep (ag := false) (xs := [.sc _]) (ys := [.sc _]) rfl rfl ⟨(by first | rfl | (show Leaf.sc _ = Leaf.sc _; refine congrArg Leaf.sc ?_; first | rfl | go_num | (simp [cntAll]; done)) | (simp [cntAll]; done) | (simp; omega)), trivial⟩)) (V.le.keep (ag := false) (xs := [.sc _]) (ys := [.sc _]) rfl rfl ⟨(by first | rfl | (show Leaf.sc _ = Leaf.sc _; refine congrArg Leaf.sc ?_; first | rfl | go_num | (simp [cntAll]; done)) | (simp [cntAll]; done) | (simp; omega)), trivial⟩)) ⟨⟨rfl, ⟨rfl, rfl, rfl, rfl, trivial⟩⟩, trivial⟩ ⟨.inr ⟨_, _, rfl, ?ob4_0, (gle rfl)⟩, trivial⟩ (new_ob nil_ob) (fun i j hi hj e => inj_list (l := [0]) (by decide) i j hi hj e))
                  case ob4_0 =>
                    show some (T.seq _ _) = some (T.seq _ _)
                    rfl
        · skip   -- c1.F
          have hte : ¬ t < (BrokerD.side b i).length := by simpa using hc1
          have hall : BrokerD.okL (BrokerD.bound b) (BrokerD.side b i) = true := BrokerD.okL_all fun k hk => hok k (by omega)
          have hnA : BrokerD.okL (BrokerD.bound b) b.fActive = true := by rcases Nat.eq_zero_or_pos i with h | h; (unfold BrokerD.side at hall; rw [if_pos h] at hall; exact hall); (exact hoA h)
          have hnW : 1 < i + 1 → BrokerD.okL (BrokerD.bound b) b.fWaiting = true := fun h => by unfold BrokerD.side at hall; rw [if_neg (by omega)] at hall; exact hall
          refine SV.exit ?_
          refine SV.te ?_
          refine SV.te ?_
          refine SV.bh ?_
          refine SV.bn ?_
          refine SV.tn ?_
          refine SV.region ?_
          refine SV.op (OpL.ok (nb := 1) (ok_move (v := V.one (.sc _)) (.inl rfl) rfl) rfl (gle rfl)) rfl ?_
          refine SV.op (OpL.ok (nb := 1) (ok_s2 (x := .tmp 16) (x' := .const ((Value.int IntKind.i64 1))) (VScal.one rfl) (VScal.one rfl) (fun ρ h1 h2 w => by go_simp; (try go_bits); with_reducible rfl) rfl) rfl (gle rfl)) rfl ?_
          refine SV.op (OpL.ok (nb := 1) (ok_move (v := V.one (.sc _)) (.inr rfl) rfl) rfl (gle rfl)) rfl ?_
          refine SV.nil ?_
          refine SV.tn ?_
          refine SV.again (fun i => [0].getD i 0) (i + 1) (⟨⟨by omega, fun _ => hnA, fun h => hnW h⟩, by omega⟩) (pins hE rfl rfl) (VS.le.mk' (le_put (le_put (le_put (le_put (le_box (le_new le_nil)) (V.le.keep (ag := false) (xs := [.bp 0 0]) (ys := [.bp 0 0]) rfl rfl ⟨⟨rfl, (gle rfl)⟩, trivial⟩)) (V.le.keep (ag := false) (xs := [.sc _]) (ys := [.sc _]) rfl rfl ⟨rfl, trivial⟩)) (V.le.keep (ag := false) (xs := [.hd 0]) (ys := [.hd 0]) rfl rfl ⟨⟨rfl, (gle rfl), (gle rfl)⟩, trivial⟩)) (V.le.keep (ag := false) (xs := [.sc _]) (ys := [.sc _]) rfl rfl ⟨(by first | rfl | (show Leaf.sc _ = Leaf.sc _; refine congrArg Leaf.sc ?_; first | rfl | go_num | (simp [cntAll]; done)) | (simp [cntAll]; done) | (simp; omega)), trivial⟩)) ⟨⟨rfl, ⟨rfl, rfl, rfl, rfl, trivial⟩⟩, trivial⟩ ⟨.inr ⟨_, _, rfl, ?ob5_0, (gle rfl)⟩, trivial⟩ (new_ob nil_ob) (fun i j hi hj e => inj_list (l := [0]) (by decide) i j hi hj e))
          case ob5_0 =>
            show some (T.seq _ _) = some (T.seq _ _)
            rfl
    · skip   -- c0.F
      have hie : i = 2 := by simp at hc0; omega
      refine SV.exit ?_
      refine SV.te ?_
      refine SV.te ?_
      refine SV.bh ?_
      refine SV.tn ?_
      refine SV.seq' ?_
      refine SV.seq' ?_
      refine SV.region ?_
      refine SV.op (OpL.ok (nb := 1) (ok_move (v := V.one (.sc _)) (.inr rfl) rfl) rfl (gle rfl)) rfl ?_
      refine SV.nil ?_
      refine SV.tn ?_
      refine SV.block ?_
      refine SV.loopF (X := Nat) (fun (σ : VS) i2 => ((((VS.nil.box 26 [σ.bl 0 0, σ.bl 0 1, σ.bl 0 2, σ.bl 0 3]).put 1 (V.flat false [.bp 0 0])).put 2 (σ.tm 2)).put 7 (V.flat false [.sc (.int .i64 ((i2 : Int)))]))) (fun i2 => i2 ≤ b.fActive.length ∧ ∀ u c, u < i2 → b.fActive[u]? = some c → ∀ d ∈ b.fWaiting, c.fID ≠ d.fID) (fun i2 => b.fActive.length - i2) ?_ ?_
      · skip
        refine SV.again (fun i => [].getD i 0) 0 (⟨Nat.zero_le _, fun u c h => absurd h (Nat.not_lt_zero u)⟩) (pins hE rfl rfl) (VS.le.mk' (le_put (le_put (le_put (le_box le_nil) (V.le.keep (ag := false) (xs := [.bp 0 0]) (ys := [.bp 0 0]) rfl rfl ⟨⟨rfl, (gle rfl)⟩, trivial⟩)) (V.le.keep (ag := false) (xs := [.sc _]) (ys := [.sc _]) rfl rfl ⟨rfl, trivial⟩)) (V.le.keep (ag := false) (xs := [.sc _]) (ys := [.sc _]) rfl rfl ⟨(by first | rfl | (show Leaf.sc _ = Leaf.sc _; refine congrArg Leaf.sc ?_; first | rfl | go_num | (simp [cntAll]; done)) | (simp [cntAll]; done) | (simp; omega)), trivial⟩)) ⟨⟨rfl, ⟨rfl, rfl, rfl, rfl, trivial⟩⟩, trivial⟩ trivial nil_ob (fun i j hi hj e => absurd hi (Nat.not_lt_zero i)))
      · rintro i2 ⟨hi2, hm⟩
        refine SV.seq' ?_
        refine SV.seq' ?_
        refine SV.region ?_
        refine SV.op (OpL.ok (nb := 1) (ok_move (v := V.one (.sc _)) (.inl rfl) rfl) rfl (gle rfl)) rfl ?_
        refine SV.op (OpL.ok (nb := 1) (ok_field_bp (b := 0) (o' := 0) (off := 2) rfl rfl fld_impl_Broker_2) rfl (gle rfl)) rfl ?_
        refine SV.op (OpL.ok (nb := 1) (ok_load_bp (b := 0) (i := 2) (ag := false) (m := 1) (ys := [.ro _]) rfl rfl rfl agg_s_impl_Client sz_s_impl_Client (fun _ => rfl) rfl rfl (gle rfl)) rfl (gle rfl)) rfl ?_
        refine SV.op (OpL.ok (nb := 1) (ok_len (lf := .ro _) rfl elt_impl_Client.und rfl rfl) rfl (gle rfl)) rfl ?_
        refine SV.op (OpL.ok (nb := 1) (ok_s2 (x := .tmp 71) (x' := .tmp 74) (VScal.one rfl) (VScal.one rfl) (fun ρ h1 h2 w => by go_simp; (try go_bits); with_reducible rfl) rfl) rfl (gle rfl)) rfl ?_
        refine SV.nil ?_
        refine SV.tn ?_
        refine SV.cond rfl (fun hc8 => ?_) (fun hc8 => ?_)
        · skip   -- c8.T
          have hil : i2 < b.fActive.length := by simpa using hc8
          obtain ⟨c2, hxc⟩ : ∃ c, b.fActive[i2]? = some c := ⟨_, List.getElem?_eq_getElem hil⟩
          refine SV.skip ?_
          refine SV.tn ?_
          refine SV.seq' ?_
          refine SV.block ?_
          refine SV.seq' ?_
          refine SV.region ?_
          refine SV.op (OpL.ok (nb := 1) (ok_move (v := V.one (.sc _)) (.inr rfl) rfl) rfl (gle rfl)) rfl ?_
          refine SV.nil ?_
          refine SV.tn ?_
          refine SV.block ?_
          refine SV.loopF (X := Nat) (fun (σ : VS) t2 => (((((VS.nil.box 26 [σ.bl 0 0, σ.bl 0 1, σ.bl 0 2, σ.bl 0 3]).put 1 (V.flat false [.bp 0 0])).put 2 (σ.tm 2)).put 7 (V.flat false [.sc (.int .i64 ((i2 : Int)))])).put 8 (V.flat false [.sc (.int .i64 ((t2 : Int)))]))) (fun t2 => t2 ≤ b.fWaiting.length ∧ ∀ v d, v < t2 → b.fWaiting[v]? = some d → c2.fID ≠ d.fID) (fun t2 => b.fWaiting.length - t2) ?_ ?_
          · skip
            refine SV.again (fun i => [].getD i 0) 0 (⟨Nat.zero_le _, fun v d h => absurd h (Nat.not_lt_zero v)⟩) (pins hE rfl rfl) (VS.le.mk' (le_put (le_put (le_put (le_put (le_box le_nil) (V.le.keep (ag := false) (xs := [.bp 0 0]) (ys := [.bp 0 0]) rfl rfl ⟨⟨rfl, (gle rfl)⟩, trivial⟩)) (V.le.keep (ag := false) (xs := [.sc _]) (ys := [.sc _]) rfl rfl ⟨rfl, trivial⟩)) (V.le.keep (ag := false) (xs := [.sc _]) (ys := [.sc _]) rfl rfl ⟨(by first | rfl | (show Leaf.sc _ = Leaf.sc _; refine congrArg Leaf.sc ?_; first | rfl | go_num | (simp [cntAll]; done)) | (simp [cntAll]; done) | (simp; omega)), trivial⟩)) (V.le.keep (ag := false) (xs := [.sc _]) (ys := [.sc _]) rfl rfl ⟨(by first | rfl | (show Leaf.sc _ = Leaf.sc _; refine congrArg Leaf.sc ?_; first | rfl | go_num | (simp [cntAll]; done)) | (simp [cntAll]; done) | (simp; omega)), trivial⟩)) ⟨⟨rfl, ⟨rfl, rfl, rfl, rfl, trivial⟩⟩, trivial⟩ trivial nil_ob (fun i j hi hj e => absurd hi (Nat.not_lt_zero i)))
          · rintro t2 ⟨ht2, hr⟩
            refine SV.seq' ?_
            refine SV.seq' ?_
            refine SV.region ?_
            refine SV.op (OpL.ok (nb := 1) (ok_move (v := V.one (.sc _)) (.inl rfl) rfl) rfl (gle rfl)) rfl ?_
            refine SV.op (OpL.ok (nb := 1) (ok_field_bp (b := 0) (o' := 0) (off := 3) rfl rfl fld_impl_Broker_3) rfl (gle rfl)) rfl ?_
            refine SV.op (OpL.ok (nb := 1) (ok_load_bp (b := 0) (i := 3) (ag := false) (m := 1) (ys := [.ro _]) rfl rfl rfl agg_s_impl_Client sz_s_impl_Client (fun _ => rfl) rfl rfl (gle rfl)) rfl (gle rfl)) rfl ?_
            refine SV.op (OpL.ok (nb := 1) (ok_len (lf := .ro _) rfl elt_impl_Client.und rfl rfl) rfl (gle rfl)) rfl ?_
            refine SV.op (OpL.ok (nb := 1) (ok_s2 (x := .tmp 78) (x' := .tmp 81) (VScal.one rfl) (VScal.one rfl) (fun ρ h1 h2 w => by go_simp; (try go_bits); with_reducible rfl) rfl) rfl (gle rfl)) rfl ?_
            refine SV.nil ?_
            refine SV.tn ?_
            refine SV.cond rfl (fun hc9 => ?_) (fun hc9 => ?_)
            · skip   -- c9.T
              have hjl : t2 < b.fWaiting.length := by simpa using hc9
              obtain ⟨d2, hxd⟩ : ∃ d, b.fWaiting[t2]? = some d := ⟨_, List.getElem?_eq_getElem hjl⟩
              refine SV.skip ?_
              refine SV.tn ?_
              refine SV.seq' ?_
              refine SV.block ?_
              refine SV.seq' ?_
              refine SV.draw [.q 0, .q 1, .q 2, .q 3, .q 4, .q 5, .q 6, .q 7, .q 8, .q 9, .q 10, .q 11, .q 12] [] (by kernel_rfl) (by kernel_rfl) ?_
              refine DW.q rfl (ok_field_bp (b := 0) (o' := 0) (off := 2) rfl rfl fld_impl_Broker_2) rfl rfl (gle rfl) (fun _ _ _ _ h => h) ?_
              refine DW.q rfl (ok_load_bp (b := 0) (i := 2) (ag := false) (m := 1) (ys := [.ro _]) rfl rfl rfl agg_s_impl_Client sz_s_impl_Client (fun _ => rfl) rfl rfl (gle rfl)) rfl rfl (gle rfl) (fun _ _ _ _ h => h) ?_
              refine DW.q rfl (ok_move (v := V.one (.sc _)) (.inl rfl) rfl) rfl rfl (gle rfl) (fun _ _ _ _ h => h) ?_
              refine DW.q rfl (ok_index (n := 3) (lf := .ro _) rfl elt_impl_Client.und sz_impl_Client rfl rfl rfl (map_at hxc)) rfl rfl (gle rfl) (fun _ _ _ _ h => h) ?_
              refine DW.q rfl (ok_field_el (p := .rp _) (off := 0) rfl rfl rfl fld_impl_Client_0) rfl rfl (gle rfl) (fun _ _ _ _ h => h) ?_
              refine DW.q rfl (ok_load_rp (ag := false) (m := 1) (ys := [.sc _]) rfl rfl agg_int sz_int (fun _ => rfl) (gle rfl) rfl) rfl rfl (gle rfl) (fun _ _ _ _ h => h) ?_
              refine DW.q rfl (ok_field_bp (b := 0) (o' := 0) (off := 3) rfl rfl fld_impl_Broker_3) rfl rfl (gle rfl) (fun _ _ _ _ h => h) ?_
              refine DW.q rfl (ok_load_bp (b := 0) (i := 3) (ag := false) (m := 1) (ys := [.ro _]) rfl rfl rfl agg_s_impl_Client sz_s_impl_Client (fun _ => rfl) rfl rfl (gle rfl)) rfl rfl (gle rfl) (fun _ _ _ _ h => h) ?_
              refine DW.q rfl (ok_move (v := V.one (.sc _)) (.inl rfl) rfl) rfl rfl (gle rfl) (fun _ _ _ _ h => h) ?_
              refine DW.q rfl (ok_index (n := 3) (lf := .ro _) rfl elt_impl_Client.und sz_impl_Client rfl rfl rfl (map_at hxd)) rfl rfl (gle rfl) (fun _ _ _ _ h => h) ?_
              refine DW.q rfl (ok_field_el (p := .rp _) (off := 0) rfl rfl rfl fld_impl_Client_0) rfl rfl (gle rfl) (fun _ _ _ _ h => h) ?_
              refine DW.q rfl (ok_load_rp (ag := false) (m := 1) (ys := [.sc _]) rfl rfl agg_int sz_int (fun _ => rfl) (gle rfl) rfl) rfl rfl (gle rfl) (fun _ _ _ _ h => h) ?_
              refine DW.q rfl (ok_s2 (x := .tmp 90) (x' := .tmp 96) (VScal.one rfl) (VScal.one rfl) (fun ρ h1 h2 w => by go_simp; (try go_bits); with_reducible rfl) rfl) rfl rfl (gle rfl) (fun _ _ _ _ h => h) ?_
              refine DW.stores ?_
              refine SV.zend ?_
              refine SV.tn ?_
              refine SV.cond rfl (fun hc10 => ?_) (fun hc10 => ?_)
              · skip   -- c10.T
                have hno : BrokerD.ok b = false := BrokerD.ok_meet (BrokerD.meets_iff.2 ⟨c2, List.mem_of_getElem? hxc, d2, List.mem_of_getElem? hxd, by simpa using hc10⟩)
                refine SV.seq' ?_
                refine SV.region ?_
                refine SV.op (OpL.ok (nb := 1) (ok_move (v := V.one (.sc _)) (.inr rfl) rfl) rfl (gle rfl)) rfl ?_
                refine SV.nil ?_
                refine SV.tn ?_
                refine SV.ret ?_
                refine SV.br ?_
                refine SV.tr ?_
                refine SV.tr ?_
                refine SV.br ?_
                refine SV.br ?_
                refine SV.tr ?_
                refine SV.tr ?_
                refine SV.br ?_
                refine SV.tr ?_
                apply SV.done (hf := Try.results20) (ht := rfl) (he := .inl rfl)
                case hr => exact (ResAll.cons (ResOk.tmp (ag := false) (xs := [.sc _]) rfl) ResAll.nil')
                case h2 => simp [two]
                refine ⟨rfl, ⟨?_, trivial⟩, trivial⟩ <;> first | ((show some (T.lit (Value.bool _)) = some (T.lit (Value.bool _)); refine congrArg (fun z => some (T.lit (Value.bool z))) ?_; rw [hno])) | ((show some (T.lit (Value.bool _)) = some (T.lit (Value.bool _)); refine congrArg (fun z => some (T.lit (Value.bool z))) ?_; rw [hrest]; unfold BrokerD.okN; rw [Bool.eq_iff_iff]; clear hm hoA hoW hrest; generalize b.fWaiting.length = lw at *; generalize b.fActive.length = la at *; simp at *; omega))
              · skip   -- c10.F
                refine SV.skip ?_
                refine SV.bn ?_
                refine SV.tn ?_
                refine SV.region ?_
                refine SV.op (OpL.ok (nb := 1) (ok_move (v := V.one (.sc _)) (.inl rfl) rfl) rfl (gle rfl)) rfl ?_
                refine SV.op (OpL.ok (nb := 1) (ok_s2 (x := .tmp 83) (x' := .const ((Value.int IntKind.i64 1))) (VScal.one rfl) (VScal.one rfl) (fun ρ h1 h2 w => by go_simp; (try go_bits); with_reducible rfl) rfl) rfl (gle rfl)) rfl ?_
                refine SV.op (OpL.ok (nb := 1) (ok_move (v := V.one (.sc _)) (.inr rfl) rfl) rfl (gle rfl)) rfl ?_
                refine SV.nil ?_
                refine SV.tn ?_
                refine SV.again (fun i => [].getD i 0) (t2 + 1) (⟨⟨by omega, fun v d hv hd => by rcases Nat.lt_or_ge v t2 with h1 | h1; (exact hr v d h1 hd); (have h2 : v = t2 := (by omega); subst h2; rw [hxd] at hd; cases hd; simpa using hc10)⟩, by omega⟩) (pins hE rfl rfl) (VS.le.mk' (le_put (le_put (le_put (le_put (le_box le_nil) (V.le.keep (ag := false) (xs := [.bp 0 0]) (ys := [.bp 0 0]) rfl rfl ⟨⟨rfl, (gle rfl)⟩, trivial⟩)) (V.le.keep (ag := false) (xs := [.sc _]) (ys := [.sc _]) rfl rfl ⟨rfl, trivial⟩)) (V.le.keep (ag := false) (xs := [.sc _]) (ys := [.sc _]) rfl rfl ⟨(by first | rfl | (show Leaf.sc _ = Leaf.sc _; refine congrArg Leaf.sc ?_; first | rfl | go_num | (simp [cntAll]; done)) | (simp [cntAll]; done) | (simp; omega)), trivial⟩)) (V.le.keep (ag := false) (xs := [.sc _]) (ys := [.sc _]) rfl rfl ⟨(by first | rfl | (show Leaf.sc _ = Leaf.sc _; refine congrArg Leaf.sc ?_; first | rfl | go_num | (simp [cntAll]; done)) | (simp [cntAll]; done) | (simp; omega)), trivial⟩)) ⟨⟨rfl, ⟨rfl, rfl, rfl, rfl, trivial⟩⟩, trivial⟩ trivial nil_ob (fun i j hi hj e => absurd hi (Nat.not_lt_zero i)))
            · skip   -- c9.F
              have hje : ¬ t2 < b.fWaiting.length := by simpa using hc9
              have hrow : ∀ d ∈ b.fWaiting, c2.fID ≠ d.fID := fun d hd => by obtain ⟨v, hv, rfl⟩ := List.mem_iff_getElem.1 hd; exact hr v _ (by omega) (List.getElem?_eq_getElem hv)
              refine SV.exit ?_
              refine SV.te ?_
              refine SV.te ?_
              refine SV.bh ?_
              refine SV.bn ?_
              refine SV.tn ?_
              refine SV.region ?_
              refine SV.op (OpL.ok (nb := 1) (ok_move (v := V.one (.sc _)) (.inl rfl) rfl) rfl (gle rfl)) rfl ?_
              refine SV.op (OpL.ok (nb := 1) (ok_s2 (x := .tmp 76) (x' := .const ((Value.int IntKind.i64 1))) (VScal.one rfl) (VScal.one rfl) (fun ρ h1 h2 w => by go_simp; (try go_bits); with_reducible rfl) rfl) rfl (gle rfl)) rfl ?_
              refine SV.op (OpL.ok (nb := 1) (ok_move (v := V.one (.sc _)) (.inr rfl) rfl) rfl (gle rfl)) rfl ?_
              refine SV.nil ?_
              refine SV.tn ?_
              refine SV.again (fun i => [].getD i 0) (i2 + 1) (⟨⟨by omega, fun u d hu hd => by rcases Nat.lt_or_ge u i2 with h1 | h1; (exact hm u d h1 hd); (have h2 : u = i2 := (by omega); subst h2; rw [hxc] at hd; cases hd; exact hrow)⟩, by omega⟩) (pins hE rfl rfl) (VS.le.mk' (le_put (le_put (le_put (le_box le_nil) (V.le.keep (ag := false) (xs := [.bp 0 0]) (ys := [.bp 0 0]) rfl rfl ⟨⟨rfl, (gle rfl)⟩, trivial⟩)) (V.le.keep (ag := false) (xs := [.sc _]) (ys := [.sc _]) rfl rfl ⟨rfl, trivial⟩)) (V.le.keep (ag := false) (xs := [.sc _]) (ys := [.sc _]) rfl rfl ⟨(by first | rfl | (show Leaf.sc _ = Leaf.sc _; refine congrArg Leaf.sc ?_; first | rfl | go_num | (simp [cntAll]; done)) | (simp [cntAll]; done) | (simp; omega)), trivial⟩)) ⟨⟨rfl, ⟨rfl, rfl, rfl, rfl, trivial⟩⟩, trivial⟩ trivial nil_ob (fun i j hi hj e => absurd hi (Nat.not_lt_zero i)))
        · skip   -- c8.F
          have hie2 : ¬ i2 < b.fActive.length := by simpa using hc8
          have hrest : BrokerD.ok b = BrokerD.okN b := BrokerD.ok_rest (hoA (by omega)) (hoW (by omega)) (by
            rw [Bool.eq_false_iff]
            intro h
            obtain ⟨c, hc, d, hd, e⟩ := BrokerD.meets_iff.1 h
            obtain ⟨u, hu, rfl⟩ := List.mem_iff_getElem.1 hc
            exact hm u _ (by omega) (List.getElem?_eq_getElem hu) d hd e)
          refine SV.exit ?_
          refine SV.te ?_
          refine SV.te ?_
          refine SV.bh ?_
          refine SV.tn ?_
          refine SV.seq' ?_
          refine SV.draw [.q 0, .q 1, .m 2, .q 3, .q 4, .q 5, .m 6, .q 7, .q 8, .q 9, .q 10, .q 11, .q 12, .q 13, .m 14, .q 15, .q 16, .q 17, .q 18, .q 19, .q 20, .q 21, .q 22, .q 23, .q 24, .q 25, .q 26, .q 27, .m 28, .q 29, .q 30, .q 31, .q 32, .q 33, .q 34, .q 35, .q 36, .q 37, .q 38] [] (by kernel_rfl) (by kernel_rfl) ?_
          refine DW.q rfl (ok_field_bp (b := 0) (o' := 0) (off := 0) rfl rfl fld_impl_Broker_0) rfl rfl (gle rfl) (fun _ _ _ _ h => h) ?_
          refine DW.q rfl (ok_load_bp (b := 0) (i := 0) (ag := false) (m := 1) (ys := [.sc _]) rfl rfl rfl agg_int sz_int (fun _ => rfl) rfl rfl (gle rfl)) rfl rfl (gle rfl) (fun _ _ _ _ h => h) ?_
          refine DW.m [] rfl (ok_call (ls := [(false, [.sc _])]) rfl rfl ⟨_, _, Try.func56, rfl, by decide⟩ (vin_s' b.fPool 8 120) ⟨⟨[.sc _], rfl, ⟨rfl, trivial⟩⟩, ⟨[.sc _], rfl, ⟨rfl, trivial⟩⟩, ⟨[.sc _], rfl, ⟨rfl, trivial⟩⟩, trivial⟩ rfl (gle rfl)) rfl (gle rfl) (gle rfl) (.inl rfl) (fun j hj => by cases hj) ?_
          refine DW.q rfl (ok_move (v := V.one (.sc _)) (.inl rfl) rfl) rfl rfl (gle rfl) (fun _ _ _ _ h => h) ?_
          refine DW.split (d := 101) rfl (fun hg5 => ?_) (fun hg5 => ?_)
          · skip   -- g5.T
            have hp8 : 8 ≤ b.fPool ∧ b.fPool ≤ 120 := by simp at hg5; omega
            refine DW.qY rfl (ok_field_bp (b := 0) (o' := 0) (off := 1) rfl rfl fld_impl_Broker_1) rfl rfl rfl (gle rfl) rfl rfl rfl (gle rfl) (fun _ _ _ _ h => h) ?_
            refine DW.qY rfl (ok_load_bp (b := 0) (i := 1) (ag := false) (m := 1) (ys := [.sc _]) rfl rfl rfl agg_int sz_int (fun _ => rfl) rfl rfl (gle rfl)) rfl rfl rfl (gle rfl) rfl rfl rfl (gle rfl) (fun _ _ _ _ h => h) ?_
            refine DW.m' [] rfl (ok_call (ls := [(false, [.sc _])]) rfl rfl ⟨_, _, Try.func56, rfl, by decide⟩ (vin_s' b.fNextID 0 1000) ⟨⟨[.sc _], rfl, ⟨rfl, trivial⟩⟩, ⟨[.sc _], rfl, ⟨rfl, trivial⟩⟩, ⟨[.sc _], rfl, ⟨rfl, trivial⟩⟩, trivial⟩ rfl (gle rfl)) (fun hr => wantedY hr rfl rfl rfl (gle rfl) rfl rfl) (gle rfl) (gle rfl) (.inl rfl) (fun j hj => by cases hj) ?_
            refine DW.q rfl (ok_pickT (v := V.one (.sc _)) rfl rfl rfl) rfl rfl (gle rfl) (fun _ _ _ _ h => h) ?_
            refine DW.q rfl (ok_move (v := V.one (.sc _)) (.inl rfl) rfl) rfl rfl (gle rfl) (fun _ _ _ _ h => h) ?_
            refine DW.split (d := 106) rfl (fun hg6 => ?_) (fun hg6 => ?_)
            · skip   -- g6.T
              refine DW.qY rfl (ok_field_bp (b := 0) (o' := 0) (off := 2) rfl rfl fld_impl_Broker_2) rfl rfl rfl (gle rfl) rfl rfl rfl (gle rfl) (fun _ _ _ _ h => h) ?_
              refine DW.qY rfl (ok_load_bp (b := 0) (i := 2) (ag := false) (m := 1) (ys := [.ro _]) rfl rfl rfl agg_s_impl_Client sz_s_impl_Client (fun _ => rfl) rfl rfl (gle rfl)) rfl rfl rfl (gle rfl) rfl rfl rfl (gle rfl) (fun _ _ _ _ h => h) ?_
              refine DW.qY rfl (ok_len (lf := .ro _) rfl elt_impl_Client.und rfl rfl) rfl rfl rfl (gle rfl) rfl rfl rfl (gle rfl) (fun _ _ _ _ h => h) ?_
              refine DW.qY rfl (ok_field_bp (b := 0) (o' := 0) (off := 0) rfl rfl fld_impl_Broker_0) rfl rfl rfl (gle rfl) rfl rfl rfl (gle rfl) (fun _ _ _ _ h => h) ?_
              refine DW.qY rfl (ok_load_bp (b := 0) (i := 0) (ag := false) (m := 1) (ys := [.sc _]) rfl rfl rfl agg_int sz_int (fun _ => rfl) rfl rfl (gle rfl)) rfl rfl rfl (gle rfl) rfl rfl rfl (gle rfl) (fun _ _ _ _ h => h) ?_
              refine DW.m' [] rfl (ok_call (ls := [(false, [.sc _])]) rfl rfl ⟨_, _, Try.func57, rfl, by decide⟩ (vroom_s b.fPool (by omega) (by omega)) ⟨⟨[.sc _], rfl, ⟨rfl, trivial⟩⟩, trivial⟩ rfl (gle rfl)) (fun hr => wantedY hr rfl rfl rfl (gle rfl) rfl rfl) (gle rfl) (gle rfl) (.inl rfl) (fun j hj => by cases hj) ?_
              refine DW.qY rfl (ok_s2 (x := .tmp 109) (x' := .tmp 112) (VScal.one rfl) (VScal.one rfl) (fun ρ h1 h2 w => by go_simp; (try go_bits); with_reducible rfl) rfl) rfl rfl rfl (gle rfl) rfl rfl rfl (gle rfl) (fun _ _ _ _ h => h) ?_
              refine DW.q rfl (ok_pickT (v := V.one (.sc _)) rfl rfl rfl) rfl rfl (gle rfl) (fun _ _ _ _ h => h) ?_
              refine DW.q rfl (ok_move (v := V.one (.sc _)) (.inl rfl) rfl) rfl rfl (gle rfl) (fun _ _ _ _ h => h) ?_
              refine DW.split (d := 115) rfl (fun hg7 => ?_) (fun hg7 => ?_)
              · skip   -- g7.T
                refine DW.qY rfl (ok_field_bp (b := 0) (o' := 0) (off := 3) rfl rfl fld_impl_Broker_3) rfl rfl rfl (gle rfl) rfl rfl rfl (gle rfl) (fun _ _ _ _ h => h) ?_
                refine DW.qY rfl (ok_load_bp (b := 0) (i := 3) (ag := false) (m := 1) (ys := [.ro _]) rfl rfl rfl agg_s_impl_Client sz_s_impl_Client (fun _ => rfl) rfl rfl (gle rfl)) rfl rfl rfl (gle rfl) rfl rfl rfl (gle rfl) (fun _ _ _ _ h => h) ?_
                refine DW.qY rfl (ok_len (lf := .ro _) rfl elt_impl_Client.und rfl rfl) rfl rfl rfl (gle rfl) rfl rfl rfl (gle rfl) (fun _ _ _ _ h => h) ?_
                refine DW.qY rfl (ok_s2 (x := .tmp 118) (x' := .const ((Value.int IntKind.i64 0))) (VScal.one rfl) (VScal.one rfl) (fun ρ h1 h2 w => by go_simp; (try go_bits); with_reducible rfl) rfl) rfl rfl rfl (gle rfl) rfl rfl rfl (gle rfl) (fun _ _ _ _ h => h) ?_
                refine DW.qY rfl (ok_move (v := V.one (.sc _)) (.inl rfl) rfl) rfl rfl rfl (gle rfl) rfl rfl rfl (gle rfl) (fun _ _ _ _ h => h) ?_
                refine DW.split (d := 120) rfl (fun hg8 => ?_) (fun hg8 => ?_)
                · skip   -- g8.T
                  refine DW.qN (V' := V.one .dead) rfl rfl rfl rfl (gle rfl) rfl rfl rfl (gle rfl) (fun _ _ _ _ h => h) ?_
                  refine DW.qN (V' := V.one .dead) rfl rfl rfl rfl (gle rfl) rfl rfl rfl (gle rfl) (fun _ _ _ _ h => h) ?_
                  refine DW.qN (V' := V.one .dead) rfl rfl rfl rfl (gle rfl) rfl rfl rfl (gle rfl) (fun _ _ _ _ h => h) ?_
                  refine DW.qN (V' := V.one .dead) rfl rfl rfl rfl (gle rfl) rfl rfl rfl (gle rfl) (fun _ _ _ _ h => h) ?_
                  refine DW.qN (V' := V.one .dead) rfl rfl rfl rfl (gle rfl) rfl rfl rfl (gle rfl) (fun _ _ _ _ h => h) ?_
                  refine DW.mN rfl rfl rfl rfl (gle rfl) rfl rfl rfl (gle rfl) ?_
                  refine DW.qN (V' := V.one .dead) rfl rfl rfl rfl (gle rfl) rfl rfl rfl (gle rfl) (fun _ _ _ _ h => h) ?_
                  refine DW.qY rfl (ok_pickT (v := V.one (.sc _)) rfl rfl rfl) rfl rfl rfl (gle rfl) rfl rfl rfl (gle rfl) (fun _ _ _ _ h => h) ?_
                  refine DW.q rfl (ok_pickT (v := V.one (.sc _)) rfl rfl rfl) rfl rfl (gle rfl) (fun _ _ _ _ h => h) ?_
                  refine DW.q rfl (ok_move (v := V.one (.sc _)) (.inl rfl) rfl) rfl rfl (gle rfl) (fun _ _ _ _ h => h) ?_
                  refine DW.qY rfl (ok_field_bp (b := 0) (o' := 0) (off := 3) rfl rfl fld_impl_Broker_3) rfl rfl rfl (gle rfl) rfl rfl rfl (gle rfl) (fun _ _ _ _ h => h) ?_
                  refine DW.qY rfl (ok_load_bp (b := 0) (i := 3) (ag := false) (m := 1) (ys := [.ro _]) rfl rfl rfl agg_s_impl_Client sz_s_impl_Client (fun _ => rfl) rfl rfl (gle rfl)) rfl rfl rfl (gle rfl) rfl rfl rfl (gle rfl) (fun _ _ _ _ h => h) ?_
                  refine DW.qY rfl (ok_len (lf := .ro _) rfl elt_impl_Client.und rfl rfl) rfl rfl rfl (gle rfl) rfl rfl rfl (gle rfl) (fun _ _ _ _ h => h) ?_
                  refine DW.qY rfl (ok_s2 (x := .tmp 133) (x' := .const ((Value.int IntKind.i64 5))) (VScal.one rfl) (VScal.one rfl) (fun ρ h1 h2 w => by go_simp; (try go_bits); with_reducible rfl) rfl) rfl rfl rfl (gle rfl) rfl rfl rfl (gle rfl) (fun _ _ _ _ h => h) ?_
                  refine DW.q rfl (ok_pickT (v := V.one (.sc _)) rfl rfl rfl) rfl rfl (gle rfl) (fun _ _ _ _ h => h) ?_
                  refine DW.q rfl (ok_move (v := V.one (.sc _)) (.inr rfl) rfl) rfl rfl (gle rfl) (fun _ _ _ _ h => h) ?_
                  refine DW.stores ?_
                  refine SV.zend ?_
                  refine SV.tn ?_
                  refine SV.ret ?_
                  apply SV.done (hf := Try.results20) (ht := rfl) (he := .inl rfl)
                  case hr => exact (ResAll.cons (ResOk.tmp (ag := false) (xs := [.sc _]) rfl) ResAll.nil')
                  case h2 => simp [two]
                  refine ⟨rfl, ⟨?_, trivial⟩, trivial⟩ <;> first | ((show some (T.lit (Value.bool _)) = some (T.lit (Value.bool _)); refine congrArg (fun z => some (T.lit (Value.bool z))) ?_; rw [hno])) | ((show some (T.lit (Value.bool _)) = some (T.lit (Value.bool _)); refine congrArg (fun z => some (T.lit (Value.bool z))) ?_; rw [hrest]; unfold BrokerD.okN; rw [Bool.eq_iff_iff]; clear hm hoA hoW hrest; generalize b.fWaiting.length = lw at *; generalize b.fActive.length = la at *; simp at *; omega))
                · skip   -- g8.F
                  refine DW.qY rfl (ok_field_bp (b := 0) (o' := 0) (off := 2) rfl rfl fld_impl_Broker_2) rfl rfl rfl (gle rfl) rfl rfl rfl (gle rfl) (fun _ _ _ _ h => h) ?_
                  refine DW.qY rfl (ok_load_bp (b := 0) (i := 2) (ag := false) (m := 1) (ys := [.ro _]) rfl rfl rfl agg_s_impl_Client sz_s_impl_Client (fun _ => rfl) rfl rfl (gle rfl)) rfl rfl rfl (gle rfl) rfl rfl rfl (gle rfl) (fun _ _ _ _ h => h) ?_
                  refine DW.qY rfl (ok_len (lf := .ro _) rfl elt_impl_Client.und rfl rfl) rfl rfl rfl (gle rfl) rfl rfl rfl (gle rfl) (fun _ _ _ _ h => h) ?_
                  refine DW.qY rfl (ok_field_bp (b := 0) (o' := 0) (off := 0) rfl rfl fld_impl_Broker_0) rfl rfl rfl (gle rfl) rfl rfl rfl (gle rfl) (fun _ _ _ _ h => h) ?_
                  refine DW.qY rfl (ok_load_bp (b := 0) (i := 0) (ag := false) (m := 1) (ys := [.sc _]) rfl rfl rfl agg_int sz_int (fun _ => rfl) rfl rfl (gle rfl)) rfl rfl rfl (gle rfl) rfl rfl rfl (gle rfl) (fun _ _ _ _ h => h) ?_
                  refine DW.m' [] rfl (ok_call (ls := [(false, [.sc _])]) rfl rfl ⟨_, _, Try.func57, rfl, by decide⟩ (vroom_s b.fPool (by omega) (by omega)) ⟨⟨[.sc _], rfl, ⟨rfl, trivial⟩⟩, trivial⟩ rfl (gle rfl)) (fun hr => wantedY hr rfl rfl rfl (gle rfl) rfl rfl) (gle rfl) (gle rfl) (.inl rfl) (fun j hj => by cases hj) ?_
                  refine DW.qY rfl (ok_s2 (x := .tmp 123) (x' := .tmp 126) (VScal.one rfl) (VScal.one rfl) (fun ρ h1 h2 w => by go_simp; (try go_bits); with_reducible rfl) rfl) rfl rfl rfl (gle rfl) rfl rfl rfl (gle rfl) (fun _ _ _ _ h => h) ?_
                  refine DW.qY rfl (ok_pickF (v := V.one (.sc _)) rfl rfl rfl) rfl rfl rfl (gle rfl) rfl rfl rfl (gle rfl) (fun _ _ _ _ h => h) ?_
                  refine DW.q rfl (ok_pickT (v := V.one (.sc _)) rfl rfl rfl) rfl rfl (gle rfl) (fun _ _ _ _ h => h) ?_
                  refine DW.q rfl (ok_move (v := V.one (.sc _)) (.inl rfl) rfl) rfl rfl (gle rfl) (fun _ _ _ _ h => h) ?_
                  refine DW.split (d := 130) rfl (fun hg9 => ?_) (fun hg9 => ?_)
                  · skip   -- g9.T
                    refine DW.qY rfl (ok_field_bp (b := 0) (o' := 0) (off := 3) rfl rfl fld_impl_Broker_3) rfl rfl rfl (gle rfl) rfl rfl rfl (gle rfl) (fun _ _ _ _ h => h) ?_
                    refine DW.qY rfl (ok_load_bp (b := 0) (i := 3) (ag := false) (m := 1) (ys := [.ro _]) rfl rfl rfl agg_s_impl_Client sz_s_impl_Client (fun _ => rfl) rfl rfl (gle rfl)) rfl rfl rfl (gle rfl) rfl rfl rfl (gle rfl) (fun _ _ _ _ h => h) ?_
                    refine DW.qY rfl (ok_len (lf := .ro _) rfl elt_impl_Client.und rfl rfl) rfl rfl rfl (gle rfl) rfl rfl rfl (gle rfl) (fun _ _ _ _ h => h) ?_
                    refine DW.qY rfl (ok_s2 (x := .tmp 133) (x' := .const ((Value.int IntKind.i64 5))) (VScal.one rfl) (VScal.one rfl) (fun ρ h1 h2 w => by go_simp; (try go_bits); with_reducible rfl) rfl) rfl rfl rfl (gle rfl) rfl rfl rfl (gle rfl) (fun _ _ _ _ h => h) ?_
                    refine DW.q rfl (ok_pickT (v := V.one (.sc _)) rfl rfl rfl) rfl rfl (gle rfl) (fun _ _ _ _ h => h) ?_
                    refine DW.q rfl (ok_move (v := V.one (.sc _)) (.inr rfl) rfl) rfl rfl (gle rfl) (fun _ _ _ _ h => h) ?_
                    refine DW.stores ?_
                    refine SV.zend ?_
                    refine SV.tn ?_
                    refine SV.ret ?_
                    apply SV.done (hf := Try.results20) (ht := rfl) (he := .inl rfl)
                    case hr => exact (ResAll.cons (ResOk.tmp (ag := false) (xs := [.sc _]) rfl) ResAll.nil')
                    case h2 => simp [two]
                    refine ⟨rfl, ⟨?_, trivial⟩, trivial⟩ <;> first | ((show some (T.lit (Value.bool _)) = some (T.lit (Value.bool _)); refine congrArg (fun z => some (T.lit (Value.bool z))) ?_; rw [hno])) | ((show some (T.lit (Value.bool _)) = some (T.lit (Value.bool _)); refine congrArg (fun z => some (T.lit (Value.bool z))) ?_; rw [hrest]; unfold BrokerD.okN; rw [Bool.eq_iff_iff]; clear hm hoA hoW hrest; generalize b.fWaiting.length = lw at *; generalize b.fActive.length = la at *; simp at *; omega))
                  · skip   -- g9.F
                    refine DW.qN (V' := V.one .dead) rfl rfl rfl rfl (gle rfl) rfl rfl rfl (gle rfl) (fun _ _ _ _ h => h) ?_
                    refine DW.qN (V' := V.one .dead) rfl rfl rfl rfl (gle rfl) rfl rfl rfl (gle rfl) (fun _ _ _ _ h => h) ?_
                    refine DW.qN (V' := V.one .dead) rfl rfl rfl rfl (gle rfl) rfl rfl rfl (gle rfl) (fun _ _ _ _ h => h) ?_
                    refine DW.qN (V' := V.one .dead) rfl rfl rfl rfl (gle rfl) rfl rfl rfl (gle rfl) (fun _ _ _ _ h => h) ?_
                    refine DW.q rfl (ok_pickF (v := V.one (.sc _)) rfl rfl rfl) rfl rfl (gle rfl) (fun _ _ _ _ h => h) ?_
                    refine DW.q rfl (ok_move (v := V.one (.sc _)) (.inr rfl) rfl) rfl rfl (gle rfl) (fun _ _ _ _ h => h) ?_
                    refine DW.stores ?_
                    refine SV.zend ?_
                    refine SV.tn ?_
                    refine SV.ret ?_
                    apply SV.done (hf := Try.results20) (ht := rfl) (he := .inl rfl)
                    case hr => exact (ResAll.cons (ResOk.tmp (ag := false) (xs := [.sc _]) rfl) ResAll.nil')
                    case h2 => simp [two]
                    refine ⟨rfl, ⟨?_, trivial⟩, trivial⟩ <;> first | ((show some (T.lit (Value.bool _)) = some (T.lit (Value.bool _)); refine congrArg (fun z => some (T.lit (Value.bool z))) ?_; rw [hno])) | ((show some (T.lit (Value.bool _)) = some (T.lit (Value.bool _)); refine congrArg (fun z => some (T.lit (Value.bool z))) ?_; rw [hrest]; unfold BrokerD.okN; rw [Bool.eq_iff_iff]; clear hm hoA hoW hrest; generalize b.fWaiting.length = lw at *; generalize b.fActive.length = la at *; simp at *; omega))
              · skip   -- g7.F
                refine DW.qN (V' := V.one .dead) rfl rfl rfl rfl (gle rfl) rfl rfl rfl (gle rfl) (fun _ _ _ _ h => h) ?_
                refine DW.qN (V' := V.one .dead) rfl rfl rfl rfl (gle rfl) rfl rfl rfl (gle rfl) (fun _ _ _ _ h => h) ?_
                refine DW.qN (V' := V.one .dead) rfl rfl rfl rfl (gle rfl) rfl rfl rfl (gle rfl) (fun _ _ _ _ h => h) ?_
                refine DW.qN (V' := V.one .dead) rfl rfl rfl rfl (gle rfl) rfl rfl rfl (gle rfl) (fun _ _ _ _ h => h) ?_
                refine DW.qNu rfl rfl rfl rfl (gle rfl) rfl rfl rfl (gle rfl) (fun _ _ _ _ h => h) ?_
                refine DW.qNN rfl rfl rfl rfl (gle rfl) rfl rfl (gle rfl) (fun _ _ _ _ h => h) ?_
                refine DW.qNN rfl rfl rfl rfl (gle rfl) rfl rfl (gle rfl) (fun _ _ _ _ h => h) ?_
                refine DW.qNN rfl rfl rfl rfl (gle rfl) rfl rfl (gle rfl) (fun _ _ _ _ h => h) ?_
                refine DW.qNN rfl rfl rfl rfl (gle rfl) rfl rfl (gle rfl) (fun _ _ _ _ h => h) ?_
                refine DW.qNN rfl rfl rfl rfl (gle rfl) rfl rfl (gle rfl) (fun _ _ _ _ h => h) ?_
                refine DW.mNN rfl rfl rfl rfl (gle rfl) rfl rfl (gle rfl) ?_
                refine DW.qNN rfl rfl rfl rfl (gle rfl) rfl rfl (gle rfl) (fun _ _ _ _ h => h) ?_
                refine DW.qN (V' := V.one .dead) rfl rfl rfl rfl (gle rfl) rfl rfl rfl (gle rfl) (fun _ _ _ _ h => h) ?_
                refine DW.q rfl (ok_pickF (v := V.one (.sc _)) rfl rfl rfl) rfl rfl (gle rfl) (fun _ _ _ _ h => h) ?_
                refine DW.q rfl (ok_move (v := V.one (.sc _)) (.inl rfl) rfl) rfl rfl (gle rfl) (fun _ _ _ _ h => h) ?_
                refine DW.qN (V' := V.one .dead) rfl rfl rfl rfl (gle rfl) rfl rfl rfl (gle rfl) (fun _ _ _ _ h => h) ?_
                refine DW.qN (V' := V.one .dead) rfl rfl rfl rfl (gle rfl) rfl rfl rfl (gle rfl) (fun _ _ _ _ h => h) ?_
                refine DW.qN (V' := V.one .dead) rfl rfl rfl rfl (gle rfl) rfl rfl rfl (gle rfl) (fun _ _ _ _ h => h) ?_
                refine DW.qN (V' := V.one .dead) rfl rfl rfl rfl (gle rfl) rfl rfl rfl (gle rfl) (fun _ _ _ _ h => h) ?_
                refine DW.q rfl (ok_pickF (v := V.one (.sc _)) rfl rfl rfl) rfl rfl (gle rfl) (fun _ _ _ _ h => h) ?_
                refine DW.q rfl (ok_move (v := V.one (.sc _)) (.inr rfl) rfl) rfl rfl (gle rfl) (fun _ _ _ _ h => h) ?_
                refine DW.stores ?_
                refine SV.zend ?_
                refine SV.tn ?_
                refine SV.ret ?_
                apply SV.done (hf := Try.results20) (ht := rfl) (he := .inl rfl)
                case hr => exact (ResAll.cons (ResOk.tmp (ag := false) (xs := [.sc _]) rfl) ResAll.nil')
                case h2 => simp [two]
                refine ⟨rfl, ⟨?_, trivial⟩, trivial⟩ <;> first | ((show some (T.lit (Value.bool _)) = some (T.lit (Value.bool _)); refine congrArg (fun z => some (T.lit (Value.bool z))) ?_; rw [hno])) | ((show some (T.lit (Value.bool _)) = some (T.lit (Value.bool _)); refine congrArg (fun z => some (T.lit (Value.bool z))) ?_; rw [hrest]; unfold BrokerD.okN; rw [Bool.eq_iff_iff]; clear hm hoA hoW hrest; generalize b.fWaiting.length = lw at *; generalize b.fActive.length = la at *; simp at *; omega))
            · skip   -- g6.F
              refine DW.qN (V' := V.one .dead) rfl rfl rfl rfl (gle rfl) rfl rfl rfl (gle rfl) (fun _ _ _ _ h => h) ?_
              refine DW.qN (V' := V.one .dead) rfl rfl rfl rfl (gle rfl) rfl rfl rfl (gle rfl) (fun _ _ _ _ h => h) ?_
              refine DW.qN (V' := V.one .dead) rfl rfl rfl rfl (gle rfl) rfl rfl rfl (gle rfl) (fun _ _ _ _ h => h) ?_
              refine DW.qN (V' := V.one .dead) rfl rfl rfl rfl (gle rfl) rfl rfl rfl (gle rfl) (fun _ _ _ _ h => h) ?_
              refine DW.qN (V' := V.one .dead) rfl rfl rfl rfl (gle rfl) rfl rfl rfl (gle rfl) (fun _ _ _ _ h => h) ?_
              refine DW.mN rfl rfl rfl rfl (gle rfl) rfl rfl rfl (gle rfl) ?_
              refine DW.qN (V' := V.one .dead) rfl rfl rfl rfl (gle rfl) rfl rfl rfl (gle rfl) (fun _ _ _ _ h => h) ?_
              refine DW.q rfl (ok_pickF (v := V.one (.sc _)) rfl rfl rfl) rfl rfl (gle rfl) (fun _ _ _ _ h => h) ?_
              refine DW.q rfl (ok_move (v := V.one (.sc _)) (.inl rfl) rfl) rfl rfl (gle rfl) (fun _ _ _ _ h => h) ?_
              refine DW.qN (V' := V.one .dead) rfl rfl rfl rfl (gle rfl) rfl rfl rfl (gle rfl) (fun _ _ _ _ h => h) ?_
              refine DW.qN (V' := V.one .dead) rfl rfl rfl rfl (gle rfl) rfl rfl rfl (gle rfl) (fun _ _ _ _ h => h) ?_
              refine DW.qN (V' := V.one .dead) rfl rfl rfl rfl (gle rfl) rfl rfl rfl (gle rfl) (fun _ _ _ _ h => h) ?_
              refine DW.qN (V' := V.one .dead) rfl rfl rfl rfl (gle rfl) rfl rfl rfl (gle rfl) (fun _ _ _ _ h => h) ?_
              refine DW.qNu rfl rfl rfl rfl (gle rfl) rfl rfl rfl (gle rfl) (fun _ _ _ _ h => h) ?_
              refine DW.qNN rfl rfl rfl rfl (gle rfl) rfl rfl (gle rfl) (fun _ _ _ _ h => h) ?_
              refine DW.qNN rfl rfl rfl rfl (gle rfl) rfl rfl (gle rfl) (fun _ _ _ _ h => h) ?_
              refine DW.qNN rfl rfl rfl rfl (gle rfl) rfl rfl (gle rfl) (fun _ _ _ _ h => h) ?_
              refine DW.qNN rfl rfl rfl rfl (gle rfl) rfl rfl (gle rfl) (fun _ _ _ _ h => h) ?_
              refine DW.qNN rfl rfl rfl rfl (gle rfl) rfl rfl (gle rfl) (fun _ _ _ _ h => h) ?_
              refine DW.mNN rfl rfl rfl rfl (gle rfl) rfl rfl (gle rfl) ?_
              refine DW.qNN rfl rfl rfl rfl (gle rfl) rfl rfl (gle rfl) (fun _ _ _ _ h => h) ?_
              refine DW.qN (V' := V.one .dead) rfl rfl rfl rfl (gle rfl) rfl rfl rfl (gle rfl) (fun _ _ _ _ h => h) ?_
              refine DW.q rfl (ok_pickF (v := V.one (.sc _)) rfl rfl rfl) rfl rfl (gle rfl) (fun _ _ _ _ h => h) ?_
              refine DW.q rfl (ok_move (v := V.one (.sc _)) (.inl rfl) rfl) rfl rfl (gle rfl) (fun _ _ _ _ h => h) ?_
              refine DW.qN (V' := V.one .dead) rfl rfl rfl rfl (gle rfl) rfl rfl rfl (gle rfl) (fun _ _ _ _ h => h) ?_
              refine DW.qN (V' := V.one .dead) rfl rfl rfl rfl (gle rfl) rfl rfl rfl (gle rfl) (fun _ _ _ _ h => h) ?_
              refine DW.qN (V' := V.one .dead) rfl rfl rfl rfl (gle rfl) rfl rfl rfl (gle rfl) (fun _ _ _ _ h => h) ?_
              refine DW.qN (V' := V.one .dead) rfl rfl rfl rfl (gle rfl) rfl rfl rfl (gle rfl) (fun _ _ _ _ h => h) ?_
              refine DW.q rfl (ok_pickF (v := V.one (.sc _)) rfl rfl rfl) rfl rfl (gle rfl) (fun _ _ _ _ h => h) ?_
              refine DW.q rfl (ok_move (v := V.one (.sc _)) (.inr rfl) rfl) rfl rfl (gle rfl) (fun _ _ _ _ h => h) ?_
              refine DW.stores ?_
              refine SV.zend ?_
              refine SV.tn ?_
              refine SV.ret ?_
              apply SV.done (hf := Try.results20) (ht := rfl) (he := .inl rfl)
              case hr => exact (ResAll.cons (ResOk.tmp (ag := false) (xs := [.sc _]) rfl) ResAll.nil')
              case h2 => simp [two]
              refine ⟨rfl, ⟨?_, trivial⟩, trivial⟩ <;> first | ((show some (T.lit (Value.bool _)) = some (T.lit (Value.bool _)); refine congrArg (fun z => some (T.lit (Value.bool z))) ?_; rw [hno])) | ((show some (T.lit (Value.bool _)) = some (T.lit (Value.bool _)); refine congrArg (fun z => some (T.lit (Value.bool z))) ?_; rw [hrest]; unfold BrokerD.okN; rw [Bool.eq_iff_iff]; clear hm hoA hoW hrest; generalize b.fWaiting.length = lw at *; generalize b.fActive.length = la at *; simp at *; omega))
          · skip   -- g5.F
            refine DW.qN (V' := V.one .dead) rfl rfl rfl rfl (gle rfl) rfl rfl rfl (gle rfl) (fun _ _ _ _ h => h) ?_
            refine DW.qN (V' := V.one .dead) rfl rfl rfl rfl (gle rfl) rfl rfl rfl (gle rfl) (fun _ _ _ _ h => h) ?_
            refine DW.mN rfl rfl rfl rfl (gle rfl) rfl rfl rfl (gle rfl) ?_
            refine DW.q rfl (ok_pickF (v := V.one (.sc _)) rfl rfl rfl) rfl rfl (gle rfl) (fun _ _ _ _ h => h) ?_
            refine DW.q rfl (ok_move (v := V.one (.sc _)) (.inl rfl) rfl) rfl rfl (gle rfl) (fun _ _ _ _ h => h) ?_
            refine DW.qN (V' := V.one .dead) rfl rfl rfl rfl (gle rfl) rfl rfl rfl (gle rfl) (fun _ _ _ _ h => h) ?_
            refine DW.qN (V' := V.one .dead) rfl rfl rfl rfl (gle rfl) rfl rfl rfl (gle rfl) (fun _ _ _ _ h => h) ?_
            refine DW.qN (V' := V.one .dead) rfl rfl rfl rfl (gle rfl) rfl rfl rfl (gle rfl) (fun _ _ _ _ h => h) ?_
            refine DW.qN (V' := V.one .dead) rfl rfl rfl rfl (gle rfl) rfl rfl rfl (gle rfl) (fun _ _ _ _ h => h) ?_
            refine DW.qN (V' := V.one .dead) rfl rfl rfl rfl (gle rfl) rfl rfl rfl (gle rfl) (fun _ _ _ _ h => h) ?_
            refine DW.mN rfl rfl rfl rfl (gle rfl) rfl rfl rfl (gle rfl) ?_
            refine DW.qN (V' := V.one .dead) rfl rfl rfl rfl (gle rfl) rfl rfl rfl (gle rfl) (fun _ _ _ _ h => h) ?_
            refine DW.q rfl (ok_pickF (v := V.one (.sc _)) rfl rfl rfl) rfl rfl (gle rfl) (fun _ _ _ _ h => h) ?_
            refine DW.q rfl (ok_move (v := V.one (.sc _)) (.inl rfl) rfl) rfl rfl (gle rfl) (fun _ _ _ _ h => h) ?_
            refine DW.qN (V' := V.one .dead) rfl rfl rfl rfl (gle rfl) rfl rfl rfl (gle rfl) (fun _ _ _ _ h => h) ?_
            refine DW.qN (V' := V.one .dead) rfl rfl rfl rfl (gle rfl) rfl rfl rfl (gle rfl) (fun _ _ _ _ h => h) ?_
            refine DW.qN (V' := V.one .dead) rfl rfl rfl rfl (gle rfl) rfl rfl rfl (gle rfl) (fun _ _ _ _ h => h) ?_
            refine DW.qN (V' := V.one .dead) rfl rfl rfl rfl (gle rfl) rfl rfl rfl (gle rfl) (fun _ _ _ _ h => h) ?_
            refine DW.qNu rfl rfl rfl rfl (gle rfl) rfl rfl rfl (gle rfl) (fun _ _ _ _ h => h) ?_
            refine DW.qNN rfl rfl rfl rfl (gle rfl) rfl rfl (gle rfl) (fun _ _ _ _ h => h) ?_
            refine DW.qNN rfl rfl rfl rfl (gle rfl) rfl rfl (gle rfl) (fun _ _ _ _ h => h) ?_
            refine DW.qNN rfl rfl rfl rfl (gle rfl) rfl rfl (gle rfl) (fun _ _ _ _ h => h) ?_
            refine DW.qNN rfl rfl rfl rfl (gle rfl) rfl rfl (gle rfl) (fun _ _ _ _ h => h) ?_
            refine DW.qNN rfl rfl rfl rfl (gle rfl) rfl rfl (gle rfl) (fun _ _ _ _ h => h) ?_
            refine DW.mNN rfl rfl rfl rfl (gle rfl) rfl rfl (gle rfl) ?_
            refine DW.qNN rfl rfl rfl rfl (gle rfl) rfl rfl (gle rfl) (fun _ _ _ _ h => h) ?_
            refine DW.qN (V' := V.one .dead) rfl rfl rfl rfl (gle rfl) rfl rfl rfl (gle rfl) (fun _ _ _ _ h => h) ?_
            refine DW.q rfl (ok_pickF (v := V.one (.sc _)) rfl rfl rfl) rfl rfl (gle rfl) (fun _ _ _ _ h => h) ?_
            refine DW.q rfl (ok_move (v := V.one (.sc _)) (.inl rfl) rfl) rfl rfl (gle rfl) (fun _ _ _ _ h => h) ?_
            refine DW.qN (V' := V.one .dead) rfl rfl rfl rfl (gle rfl) rfl rfl rfl (gle rfl) (fun _ _ _ _ h => h) ?_
            refine DW.qN (V' := V.one .dead) rfl rfl rfl rfl (gle rfl) rfl rfl rfl (gle rfl) (fun _ _ _ _ h => h) ?_
            refine DW.qN (V' := V.one .dead) rfl rfl rfl rfl (gle rfl) rfl rfl rfl (gle rfl) (fun _ _ _ _ h => h) ?_
            refine DW.qN (V' := V.one .dead) rfl rfl rfl rfl (gle rfl) rfl rfl rfl (gle rfl) (fun _ _ _ _ h => h) ?_
            refine DW.q rfl (ok_pickF (v := V.one (.sc _)) rfl rfl rfl) rfl rfl (gle rfl) (fun _ _ _ _ h => h) ?_
            refine DW.q rfl (ok_move (v := V.one (.sc _)) (.inr rfl) rfl) rfl rfl (gle rfl) (fun _ _ _ _ h => h) ?_
            refine DW.stores ?_
            refine SV.zend ?_
            refine SV.tn ?_
            refine SV.ret ?_
            apply SV.done (hf := Try.results20) (ht := rfl) (he := .inl rfl)
            case hr => exact (ResAll.cons (ResOk.tmp (ag := false) (xs := [.sc _]) rfl) ResAll.nil')
            case h2 => simp [two]
            refine ⟨rfl, ⟨?_, trivial⟩, trivial⟩ <;> first | ((show some (T.lit (Value.bool _)) = some (T.lit (Value.bool _)); refine congrArg (fun z => some (T.lit (Value.bool z))) ?_; rw [hno])) | ((show some (T.lit (Value.bool _)) = some (T.lit (Value.bool _)); refine congrArg (fun z => some (T.lit (Value.bool z))) ?_; rw [hrest]; unfold BrokerD.okN; rw [Bool.eq_iff_iff]; clear hm hoA hoW hrest; generalize b.fWaiting.length = lw at *; generalize b.fActive.length = la at *; simp at *; omega))
end Go.Proofs.Ytfghhjcfmmhacaa
/- Brokers as plain mathematics: what the functions answer, case by case; no function of program or reference is walked here. -/
namespace Go.Proofs.Ytfghhjcfmmhacaa
open Go.RowKit
set_option linter.unusedVariables false
namespace BrokerD
theorem at_of {l : List ClientD} {id : Int} {k : Nat} (h : atI l id = k) : at? l id = some k := by
  unfold atI at h
  split at h
  · rename_i j hj
    rw [hj]
    congr 1
    omega
  · omega
theorem at_neg {l : List ClientD} {id x : Int} (h : atI l id = x) (hx : x < 0) : at? l id = none := by
  unfold atI at h
  split at h
  · omega
  · assumption
theorem at_pos {l : List ClientD} {id x : Int} (h : atI l id = x) (hx : 0 ≤ x) : ∃ k : Nat, x = k ∧ at? l id = some k := ⟨x.toNat, by omega, at_of (by rw [h]; omega)⟩
theorem add_yes {b : BrokerD} {w p : Int} (h : canAdd b w p = true) : add b w p = added b w p ∧ addId b w p = b.fNextID := by unfold add addId; rw [if_pos h, if_pos h]; exact ⟨rfl, rfl⟩
theorem add_no {b : BrokerD} {w p : Int} (h : canAdd b w p = false) : add b w p = b ∧ addId b w p = 0 := by unfold add addId; rw [if_neg (by rw [h]; decide), if_neg (by rw [h]; decide)]; exact ⟨rfl, rfl⟩
theorem added_act {b : BrokerD} {w p : Int} (h : (b.fActive.length : Int) < room b.fPool) : added b w p = ⟨b.fPool, b.fNextID + 1, b.fActive ++ [⟨b.fNextID, w, p⟩], b.fWaiting⟩ := by unfold added; rw [if_pos h]
theorem added_wai {b : BrokerD} {w p : Int} (h : ¬ (b.fActive.length : Int) < room b.fPool) : added b w p = ⟨b.fPool, b.fNextID + 1, b.fActive, b.fWaiting ++ [⟨b.fNextID, w, p⟩]⟩ := by unfold added; rw [if_neg h]
theorem removed_bad {b : BrokerD} {id : Int} (h : ok b = false) : removed b id = none := by unfold removed; rw [if_neg (by rw [h]; decide)]
theorem removed_wai {b : BrokerD} {id : Int} {k : Nat} (h : ok b = true) (hk : at? b.fWaiting id = some k) : removed b id = some ⟨b.fPool, b.fNextID, b.fActive, b.fWaiting.eraseIdx k⟩ := by unfold removed; rw [if_pos h, hk]
theorem removed_none {b : BrokerD} {id : Int} (h1 : at? b.fWaiting id = none) (h2 : at? b.fActive id = none) : removed b id = none := by unfold removed; rw [h1, h2]; split <;> rfl
theorem removed_act {b : BrokerD} {id : Int} {k : Nat} (h : ok b = true) (h1 : at? b.fWaiting id = none) (h2 : at? b.fActive id = some k) : removed b id = some (letIn b (b.fActive.eraseIdx k)) := by unfold removed; rw [if_pos h, h1, h2]
theorem admit_none {b : BrokerD} {a : List ClientD} (h : b.fWaiting.length = 0) : letIn b a = ⟨b.fPool, b.fNextID, a, b.fWaiting⟩ := by
  unfold letIn
  rw [List.getElem?_eq_none (by rw [h]; exact Nat.zero_le _)]
theorem admit_some {b : BrokerD} {a : List ClientD} {c : ClientD} (h : b.fWaiting[best b.fWaiting]? = some c) : letIn b a = ⟨b.fPool, b.fNextID, put a c, b.fWaiting.eraseIdx (best b.fWaiting)⟩ := by unfold letIn; rw [h]
theorem setReq_no {b : BrokerD} {id w : Int} (h : (ok b && isWant w) = false) : setReq b id w = b ∧ canReq b id w = false := by
  unfold setReq canReq
  rw [h]
  exact ⟨rfl, rfl⟩
theorem setReq_yes {b : BrokerD} {id w : Int} (h : (ok b && isWant w) = true) : setReq b id w = ⟨b.fPool, b.fNextID, setAt b.fActive id w, setAt b.fWaiting id w⟩ ∧ canReq b id w = ((at? b.fActive id).isSome || (at? b.fWaiting id).isSome) := by
  unfold setReq canReq
  rw [h]
  exact ⟨rfl, rfl⟩
theorem grantFor_no {b : BrokerD} {id : Int} (h : (grants b).length = 0 ∨ at? b.fActive id = none) : grantFor b id = none := by
  unfold grantFor
  split
  · rename_i ho
    rcases h with h | h
    · rw [grants_length ho] at h
      rw [at_none (l := b.fActive) fun c hc => by rw [List.length_eq_zero_iff.1 h] at hc; cases hc]
      rfl
    · rw [h]; rfl
  · rfl
theorem grantFor_yes {b : BrokerD} {id : Int} {k : Nat} (h : (grants b).length ≠ 0) (hk : at? b.fActive id = some k) : (grants b)[k]? = some (grantAt (rest b) b.fActive k) ∧ grantFor b id = some (grantAt (rest b) b.fActive k) := by
  have ho : ok b = true := by
    cases h1 : ok b with
    | true => rfl
    | false => rw [grants_bad h1] at h; exact absurd rfl h
  obtain ⟨c, -, -, hl⟩ := of_at hk
  refine ⟨grants_get ho hl, ?_⟩
  unfold grantFor
  rw [if_pos ho, hk]
  rfl
end BrokerD
end Go.Proofs.Ytfghhjcfmmhacaa
