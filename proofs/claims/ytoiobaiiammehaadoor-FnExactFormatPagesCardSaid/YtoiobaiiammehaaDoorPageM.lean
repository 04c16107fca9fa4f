/- Plain mathematics of pages: validity, packing, the string format and its inverse; no program. -/
import Derived.Test.YtoiobaiiammehaaDoorRow
namespace Go.Proofs.YtoiobaiiammehaaDoor.R
open Go.Lib

theorem getD_l {α : Type} {A B : List α} {t : Nat} {d : α} (h : t < A.length) : (A ++ B).getD t d = A.getD t d := by simp [List.getD, List.getElem?_append_left h]
theorem getD_r {α : Type} {A B : List α} {t : Nat} {d : α} (h : A.length ≤ t) : (A ++ B).getD t d = B.getD (t - A.length) d := by simp [List.getD, List.getElem?_append_right h]
def pageOk (p : List R) : Bool := okRows p && decide (1 ≤ total p ∧ total p ≤ 8)
/-- One row more: the pages that are full, and the page that is being filled. -/
def packStep (s : List (List R) × List R) (r : R) : List (List R) × List R := if 8 < total s.2 + r.cost then (s.1 ++ [s.2], [r]) else (s.1, s.2 ++ [r])
def packSt (L : List R) : List (List R) × List R := L.foldl packStep ([], [])
def packEnd (s : List (List R) × List R) : List (List R) := if s.2 = [] then s.1 else s.1 ++ [s.2]
def pack (L : List R) : List (List R) := if okRows L then packEnd (packSt L) else []
theorem packSt_snoc (L : List R) (r : R) : packSt (L ++ [r]) = packStep (packSt L) r := by simp [packSt]
theorem packSt_next (L : List R) (k : Nat) (hk : k < L.length) : packSt (L.take (k + 1)) = packStep (packSt (L.take k)) (L.getD k R.zero) := by
  have e : L.getD k R.zero = L[k] := by simp [List.getD, hk]
  rw [e, List.take_succ_eq_append_getElem hk, packSt_snoc]
theorem allOk_append (L M : List R) : allOk (L ++ M) = (allOk L && allOk M) := by simp [allOk]
theorem cost_ok {r : R} (h : r.ok = true) : 1 ≤ r.cost := by
  unfold cost
  rw [if_pos h]
  have := (ok_iff.1 h).2.2.2.2.1
  omega
theorem total_pos {p : List R} (h : allOk p = true) (hne : p ≠ []) : 1 ≤ total p := by
  cases p with
  | nil => exact absurd rfl hne
  | cons r p =>
    unfold allOk at h
    rw [List.all_cons, Bool.and_eq_true] at h
    have h1 := cost_ok h.1
    have h2 := (total_range p).1
    have : total (r :: p) = r.cost + total p := by simp [total]
    omega
/-- What holds while rows are packed. -/
structure Packing (L : List R) (s : List (List R) × List R) : Prop where
  flat : s.1.flatten ++ s.2 = L
  full : ∀ p ∈ s.1, p ≠ [] ∧ total p ≤ 8
  fit : total s.2 ≤ 8
  none : s.2 = [] → L = []
  next : ∀ t, t + 1 < s.1.length → 8 < total (s.1.getD t []) + ((s.1.getD (t + 1) []).getD 0 R.zero).cost
  last : ∀ t, t + 1 = s.1.length → 8 < total (s.1.getD t []) + (s.2.getD 0 R.zero).cost
theorem packing (L : List R) : Packing L (packSt L) := by
  have key : ∀ (n : Nat) (L : List R), L.length = n → Packing L (packSt L) := by
    intro n
    induction n with
    | zero =>
      intro L hL
      obtain rfl := List.eq_nil_of_length_eq_zero hL
      exact ⟨rfl, fun p hp => (by cases hp), (by show (0 : Int) ≤ 8; decide), fun _ => rfl, fun t ht => (by simp [packSt] at ht), fun t ht => (by simp [packSt] at ht)⟩
    | succ n ih =>
      intro L hL
      have hne : L ≠ [] := by intro e; rw [e] at hL; simp at hL
      have hL' := List.dropLast_concat_getLast hne
      obtain ⟨M, r, rfl⟩ : ∃ M r, L = M ++ [r] := ⟨_, _, hL'.symm⟩
      have hM := ih M (by rw [List.length_append] at hL; simpa using hL)
      rw [packSt_snoc]
      generalize packSt M = s at hM ⊢
      obtain ⟨o, p⟩ := s
      have hc := r.cost_range
      unfold packStep
      simp only
      by_cases hov : 8 < total p + r.cost
      · rw [if_pos hov]
        have hpne : p ≠ [] := by
          rintro rfl
          have : total ([] : List R) = 0 := rfl
          omega
        refine ⟨?_, fun q hq => ?_, ?_, fun h => (by simp at h), fun t ht => ?_, fun t ht => ?_⟩
        · have := hM.flat
          simp only at this
          simp [this]
        · rcases List.mem_append.1 hq with hq | hq
          · exact hM.full q hq
          · rw [List.mem_singleton.1 hq]; exact ⟨hpne, hM.fit⟩
        · show total [r] ≤ 8
          have : total [r] = r.cost := by simp [total]
          omega
        · have ht' : t + 1 < o.length + 1 := by simpa using ht
          rcases Nat.lt_or_ge (t + 1) o.length with h | h
          · have := hM.next t h
            simp only at this ⊢
            rw [getD_l (by omega), getD_l h]
            exact this
          · have h1 : t + 1 = o.length := by omega
            have := hM.last t h1
            simp only at this ⊢
            rw [getD_l (by omega), getD_r (by omega), h1, Nat.sub_self]
            exact this
        · have ht' : t + 1 = o.length + 1 := by simpa using ht
          simp only
          rw [getD_r (by omega), show t - o.length = 0 by omega]
          exact hov
      · rw [if_neg hov]
        refine ⟨?_, hM.full, ?_, fun h => (by simp at h), hM.next, fun t ht => ?_⟩
        · have := hM.flat
          simp only at this
          simp [← this]
        · show total (p ++ [r]) ≤ 8
          rw [total_snoc]; omega
        · have := hM.last t ht
          simp only at this ⊢
          cases p with
          | nil =>
            have hz : M = [] := hM.none rfl
            subst hz
            have ho := hM.flat
            simp at ho
            have hol : o.length = t + 1 := ht.symm
            have h3 := hM.full (o[0]'(by omega)) (List.getElem_mem _)
            exact absurd (ho _ (List.getElem_mem (by omega : 0 < o.length))) h3.1
          | cons q p => simpa using this
  exact key L.length L rfl
theorem pack_eq {L : List R} (h : okRows L = true) : pack L = packEnd (packSt L) := if_pos h
theorem pack_bad {L : List R} (h : okRows L = false) : pack L = [] := if_neg (by rw [h]; simp)
theorem okRows_allOk {L : List R} (h : okRows L = true) : allOk L = true := by
  unfold okRows at h
  rw [Bool.and_eq_true] at h
  exact h.2
theorem pack_flat {L : List R} (h : okRows L = true) : (pack L).flatten = L := by
  have hp := (packing L).flat
  rw [pack_eq h]
  unfold packEnd
  split
  · rename_i h0; rw [h0, List.append_nil] at hp; exact hp
  · simpa using hp
theorem mem_flat {P : List (List R)} {p : List R} (h : p ∈ P) {r : R} (hr : r ∈ p) : r ∈ P.flatten := List.mem_flatten.2 ⟨p, h, hr⟩
theorem sub_length {P : List (List R)} {p : List R} (h : p ∈ P) : p.length ≤ P.flatten.length := by
  induction P with
  | nil => cases h
  | cons q P ih =>
    rw [List.flatten_cons, List.length_append]
    rcases List.mem_cons.1 h with rfl | h
    · omega
    · have := ih h; omega
theorem pack_fit {L : List R} : ∀ p ∈ packEnd (packSt L), p ≠ [] ∧ total p ≤ 8 := by
  intro p hp
  have h := packing L
  unfold packEnd at hp
  split at hp
  · exact h.full p hp
  · rename_i hne
    rcases List.mem_append.1 hp with hp | hp
    · exact h.full p hp
    · rw [List.mem_singleton.1 hp]; exact ⟨hne, h.fit⟩
theorem pack_ok {L : List R} : ∀ p ∈ pack L, pageOk p = true ∧ p ≠ [] := by
  intro p hp
  cases h : okRows L with
  | false => rw [pack_bad h] at hp; cases hp
  | true =>
    have hf := pack_flat h
    have hlen := okRows_length h
    have hall := okRows_allOk h
    have h1 := sub_length hp
    rw [hf] at h1
    have hok : allOk p = true := List.all_eq_true.2 fun r hr => List.all_eq_true.1 hall r (hf ▸ mem_flat hp hr)
    rw [pack_eq h] at hp
    obtain ⟨hne, h8⟩ := pack_fit p hp
    refine ⟨?_, hne⟩
    unfold pageOk okRows
    rw [hok, decide_eq_true (show p.length ≤ 24 by omega), decide_eq_true ⟨total_pos hok hne, h8⟩]
    rfl
theorem pack_next {L : List R} {t : Nat} (ht : t + 1 < (pack L).length) : 8 < total ((pack L).getD t []) + (((pack L).getD (t + 1) []).getD 0 R.zero).cost := by
  have h := packing L
  cases hk : okRows L with
  | false => rw [pack_bad hk] at ht; simp at ht
  | true =>
    rw [pack_eq hk] at ht ⊢
    unfold packEnd at ht ⊢
    split at ht
    · rename_i h0
      rw [if_pos h0]
      exact h.next t ht
    · rename_i h0
      rw [if_neg h0]
      rw [List.length_append, List.length_singleton] at ht
      rcases Nat.lt_or_ge (t + 1) (packSt L).1.length with h2 | h2
      · rw [getD_l (by omega), getD_l h2]
        exact h.next t h2
      · have h1 : t + 1 = (packSt L).1.length := by omega
        rw [getD_l (by omega), getD_r (by omega), h1, Nat.sub_self]
        exact h.last t h1
theorem flat_count {P : List (List R)} (h : ∀ p ∈ P, p ≠ []) : P.length ≤ P.flatten.length := by
  induction P with
  | nil => simp
  | cons p P ih =>
    have h1 := ih fun q hq => h q (List.mem_cons_of_mem _ hq)
    have h2 : 0 < p.length := List.length_pos_iff.2 (h p (List.mem_cons_self ..))
    rw [List.flatten_cons, List.length_append, List.length_cons]
    omega
theorem packSt_sizes (L : List R) : (packSt L).1.length ≤ L.length ∧ (packSt L).2.length ≤ L.length := by
  have h := packing L
  have h1 := congrArg List.length h.flat
  rw [List.length_append] at h1
  have h2 := flat_count fun p hp => (h.full p hp).1
  omega
theorem pack_length {L : List R} : (pack L).length ≤ L.length := by
  cases h : okRows L with
  | false => rw [pack_bad h]; simp
  | true =>
    have := flat_count (P := pack L) fun p hp => (pack_ok p hp).2
    rw [pack_flat h] at this
    exact this

/-! ### The string format -/
def allPages (P : List (List R)) : Bool := P.all pageOk
def pageTxt (p : List R) : List UInt8 := 91 :: (fmtRows p ++ [93])
def fmtPages (P : List (List R)) : List UInt8 := if allPages P then P.flatMap pageTxt else []
/-- The rows of a piece: what stands behind its bracket. -/
def readPage : List UInt8 → Option (List R)
  | 91 :: q => parseRows q
  | _ => none
def readPages : List (List UInt8) → Option (List (List R))
  | [] => some []
  | p :: ps => match readPage p, readPages ps with
    | some r, some L => some (r :: L)
    | _, _ => none
/-- The pages whose format l is. -/
def parsePages (l : List UInt8) : Option (List (List R)) :=
  match readPages (Cut.cut 93 l).dropLast with
  | some P => if allPages P && decide (fmtPages P = l) then some P else none
  | none => none
theorem readPages_snoc (ps : List (List UInt8)) (p : List UInt8) : readPages (ps ++ [p]) = match readPages ps, readPage p with | some L, some r => some (L ++ [r]) | _, _ => none := by
  induction ps with
  | nil => simp only [List.nil_append, readPages]; cases readPage p <;> rfl
  | cons q ps ih =>
    simp only [List.cons_append, readPages]
    rw [ih]
    cases readPage q <;> cases readPages ps <;> cases readPage p <;> rfl
theorem readPages_next (ps : List (List UInt8)) (k : Nat) (hk : k < ps.length) (M : List (List R)) (h : readPages (ps.take k) = some M) : readPages (ps.take (k + 1)) = (readPage ps[k]).map fun r => M ++ [r] := by
  rw [List.take_succ_eq_append_getElem hk, readPages_snoc, h]
  cases readPage ps[k] <;> rfl
theorem readPages_length : ∀ {ps : List (List UInt8)} {L : List (List R)}, readPages ps = some L → L.length = ps.length
  | [], L, h => by simp only [readPages, Option.some.injEq] at h; rw [← h]; rfl
  | p :: ps, L, h => by
    unfold readPages at h
    split at h
    · rename_i r L' h1 h2; cases h; simp [readPages_length h2]
    · cases h
theorem readPages_bad : ∀ (ps : List (List UInt8)) (k : Nat) (hk : k < ps.length), readPage ps[k] = none → readPages ps = none
  | p :: ps, 0, hk, h => by
    simp only [List.getElem_cons_zero] at h
    rw [readPages, h]
  | p :: ps, k + 1, hk, h => by
    simp only [List.getElem_cons_succ] at h
    rw [readPages, readPages_bad ps k (by simpa using hk) h]
    cases readPage p <;> rfl
theorem parsePages_inv {l : List UInt8} {P : List (List R)} (h : parsePages l = some P) : allPages P = true ∧ fmtPages P = l := by
  unfold parsePages at h
  split at h
  · rename_i Q hQ
    split at h
    · rename_i h1
      cases h
      rw [Bool.and_eq_true, decide_eq_true_eq] at h1
      exact h1
    · cases h
  · cases h
theorem fmt_no (r : R) (c : UInt8) (hc : ¬ (48 ≤ c.toNat ∧ c.toNat ≤ 57)) (hd : c ≠ 46) : c ∉ r.fmt := by
  unfold R.fmt
  split
  · rename_i h
    have hr := R.ok_iff.1 h
    have h1 := itoa_nosign r.key (by omega) c hc
    have h2 := itoa_nosign r.value (by omega) c hc
    have h3 := itoa_nosign r.width (by omega) c hc
    simp [h1, h2, h3, hd]
  · simp
theorem fmtRows_no (p : List R) (c : UInt8) (hc : ¬ (48 ≤ c.toNat ∧ c.toNat ≤ 57)) (hd : c ≠ 46) (hs : c ≠ 32) : c ∉ fmtRows p := by
  have key : ∀ L : List R, c ∉ joinTail [32] (L.map R.fmt) := by
    intro L
    induction L with
    | nil => simp [joinTail]
    | cons r L ih =>
      have h1 := fmt_no r c hc hd
      simp only [joinTail, List.map_cons, List.flatten_cons] at ih ⊢
      intro hm
      rcases List.mem_append.1 hm with hm | hm
      · rcases List.mem_append.1 hm with hm | hm
        · exact hs (List.mem_singleton.1 hm)
        · exact h1 hm
      · exact ih hm
  unfold fmtRows
  split
  · cases p with
    | nil => simp [join_nil]
    | cons r L =>
      rw [List.map_cons, join_cons]
      intro hm
      rcases List.mem_append.1 hm with hm | hm
      · exact fmt_no r c hc hd hm
      · exact key L hm
  · simp
theorem cut_pages : ∀ P : List (List R), Cut.cut 93 (P.flatMap pageTxt) = P.map (fun p => 91 :: fmtRows p) ++ [[]]
  | [] => rfl
  | p :: P => by
    have h93 : (93 : UInt8) ∉ (91 : UInt8) :: fmtRows p := by
      intro hm
      rcases List.mem_cons.1 hm with hm | hm
      · exact absurd hm (by decide)
      · exact fmtRows_no p 93 (by decide) (by decide) (by decide) hm
    have e : (p :: P).flatMap pageTxt = (91 :: fmtRows p) ++ 93 :: P.flatMap pageTxt := by simp [pageTxt]
    rw [e, Cut.cut_app 93 _ _ h93, cut_pages P]
    rfl
theorem pageOk_rows {p : List R} (h : pageOk p = true) : okRows p = true := by
  unfold pageOk at h
  rw [Bool.and_eq_true] at h
  exact h.1
theorem readPages_fmt : ∀ P : List (List R), allPages P = true → readPages (P.map fun p => 91 :: fmtRows p) = some P
  | [], _ => rfl
  | p :: P, h => by
    unfold allPages at h
    rw [List.all_cons, Bool.and_eq_true] at h
    rw [List.map_cons, readPages, readPages_fmt P h.2]
    show (match parseRows (fmtRows p), some P with | some r, some L => some (r :: L) | _, _ => none) = _
    rw [parseRows_fmt p (pageOk_rows h.1)]
theorem parsePages_fmt (P : List (List R)) (h : allPages P = true) : parsePages (fmtPages P) = some P := by
  have e : fmtPages P = P.flatMap pageTxt := if_pos h
  unfold parsePages
  rw [e, cut_pages, List.dropLast_concat, readPages_fmt P h]
  show (if (allPages P && decide (fmtPages P = P.flatMap pageTxt)) = true then some P else none) = _
  rw [h, e, decide_eq_true rfl]
  rfl
/-- The pages are those whose format it is, and there are no others. -/
theorem parsePages_iff {l : List UInt8} {P : List (List R)} : parsePages l = some P ↔ allPages P = true ∧ fmtPages P = l :=
  ⟨parsePages_inv, fun h => by rw [← h.2]; exact parsePages_fmt P h.1⟩
theorem pack_all (L : List R) : allPages (pack L) = true := List.all_eq_true.2 fun p hp => (pack_ok p hp).1
theorem allPages_take {P : List (List R)} {k : Nat} (hk : k < P.length) : allPages (P.take (k + 1)) = (allPages (P.take k) && pageOk P[k]) := by
  unfold allPages
  rw [List.take_succ_eq_append_getElem hk, List.all_append]
  simp only [List.all_cons, List.all_nil, Bool.and_true]
theorem allPages_bad {P : List (List R)} (k : Nat) (hk : k < P.length) (h : pageOk P[k] = false) : allPages P = false := by
  rw [← Bool.not_eq_true]
  intro ha
  have := List.all_eq_true.1 ha P[k] (List.getElem_mem hk)
  rw [h] at this
  cases this
theorem readPages_wf : ∀ {ps : List (List UInt8)} {P : List (List R)}, readPages ps = some P → ∀ p ∈ P, ∀ r ∈ p, r.wf
  | [], P, h, p, hp => by simp only [readPages, Option.some.injEq] at h; rw [← h] at hp; cases hp
  | q :: ps, P, h, p, hp => by
    unfold readPages at h
    split at h
    · rename_i r L' h1 h2
      cases h
      rcases List.mem_cons.1 hp with rfl | hp
      · unfold readPage at h1
        split at h1
        · exact parseRows_wf h1
        · cases h1
      · exact readPages_wf h2 p hp
    · cases h
theorem readPages_flat : ∀ {ps : List (List UInt8)} {P : List (List R)}, readPages ps = some P → P.flatten.length ≤ 24 * P.length
  | [], P, h => by simp only [readPages, Option.some.injEq] at h; rw [← h]; exact Nat.zero_le _
  | q :: ps, P, h => by
    unfold readPages at h
    split at h
    · rename_i r L' h1 h2
      cases h
      have h3 := readPages_flat h2
      have h4 : r.length ≤ 24 := by
        unfold readPage at h1
        split at h1
        · exact okRows_length (parseRows_inv h1).1
        · cases h1
      rw [List.flatten_cons, List.length_append, List.length_cons]
      omega
    · cases h
theorem parsePages_sizes (l : List UInt8) : ((parsePages l).getD []).length ≤ l.length ∧ ((parsePages l).getD []).flatten.length ≤ 24 * l.length := by
  unfold parsePages
  split
  · rename_i Q hQ
    split
    · have h1 := readPages_flat hQ
      have h2 := readPages_length hQ
      rw [List.length_dropLast] at h2
      have h3 := Cut.cut_length 93 l
      simp only [Option.getD_some]
      omega
    · simp
  · simp
theorem fmtPages_length (P : List (List R)) : (fmtPages P).length ≤ 218 * P.length := by
  unfold fmtPages
  split
  · rename_i hk
    clear hk
    induction P with
    | nil => simp
    | cons p P ih =>
      have h1 := fmtRows_length p
      rw [List.flatMap_cons, List.length_append, List.length_cons]
      have : (pageTxt p).length = (fmtRows p).length + 2 := by simp [pageTxt]
      omega
  · simp
end Go.Proofs.YtoiobaiiammehaaDoor.R
