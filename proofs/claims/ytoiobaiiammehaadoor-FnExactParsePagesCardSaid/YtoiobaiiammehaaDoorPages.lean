/- Pages: the laws' own sizes, copies, comparisons and marks, by contract; no function of program or reference is walked here. -/
import Derived.Test.YtoiobaiiammehaaDoorMarkIn
import Derived.Test.YtoiobaiiammehaaDoorPg
import Derived.Test.YtoiobaiiammehaaDoorEqRows
import Derived.Deep.QuietTactic
import Derived.BigQuiet
import Derived.StillTailTactics
namespace Go.Proofs.YtoiobaiiammehaaDoor
open Go.RowKit

/-! ### Sizes -/
set_option maxRecDepth 100000 in
theorem szpage (a : Option Addr) (n c : Nat) (left : Int) (w : World) (h0 : 0 ≤ left) (h1 : left ≤ 1048576) (hn : n ≤ maxLen) : Calls Tryd.prog 14 #[.agg #[.slice a n c], .int .i64 left] w fun e w' => e = .returned (.int .i64 (szR left n)) ∧ Below w.heap.size w w' := by
  have b0 : Below w.heap.size w (w.alloc (.cells #[.slice a n c] 36)) := (Below.refl _ _).alloc (Nat.le_refl _) _
  have B0 := Lib.hid b0
  have HN := Lib.hid hn
  obtain ⟨x, hx⟩ : ∃ x, x = szR left n := ⟨_, rfl⟩
  have HX := Lib.hid hx
  clear b0 hn
  go_enter Tryd.func14, Tryd.ntmps14
  go_wp2_with fail
  refine (szrows a n c left _ h0 h1 HN.out).mono ?_
  rintro e w1 ⟨rfl, rfl⟩
  rw [← hx]
  clear hx
  by_cases hlt : x < 0
  · have hm : x = -1 := by have := HX.out; unfold szR at this; split at this <;> omega
    have HM := Lib.hid hm
    clear hm
    go_wp2_with fail
    go_ret
    exact ⟨by rw [← HX.out, HM.out]; rfl, B0.out⟩
  · go_wp2_with fail
    go_ret
    exact ⟨by rw [← HX.out]; rfl, B0.out⟩
def szLoop : Int → List (List R) → Int
  | left, [] => left
  | left, p :: P => if szR left p.length < 0 then -1 else szLoop (szR left p.length) P
def szP (left : Int) (P : List (List R)) : Int := if left < P.length then -1 else szLoop (left - P.length) P
theorem szR_le {left : Int} {n : Nat} (h : ¬ szR left n < 0) : (n : Int) ≤ left ∧ szR left n = left - n := by
  unfold szR at h ⊢
  split
  · rename_i hl; rw [if_pos hl] at h; omega
  · exact ⟨by omega, rfl⟩
theorem szLoop_le : ∀ {P : List (List R)} {left : Int}, ¬ szLoop left P < 0 → (P.flatten.length : Int) ≤ left
  | [], left, h => by simp only [szLoop] at h; simp; omega
  | p :: P, left, h => by
    unfold szLoop at h
    split at h
    · omega
    · rename_i h1
      have h2 := szLoop_le h
      have h3 := (szR_le h1).2
      rw [List.flatten_cons, List.length_append]
      omega
theorem szP_le {P : List (List R)} {left : Int} (h : ¬ szP left P < 0) : (P.length : Int) + P.flatten.length ≤ left := by
  unfold szP at h
  split at h
  · omega
  · have := szLoop_le h
    omega
set_option maxRecDepth 100000 in
theorem szpages (a : Option Addr) (n c : Nat) (P : List (List R)) (left : Int) (w : World) (h : SeqIn pageRep w a n P) (h0 : 0 ≤ left) (h1 : left ≤ 1048576) :
    Calls Tryd.prog 5 #[.slice a n c, .int .i64 left] w fun e w' => e = .returned (.int .i64 (szP left P)) ∧ Below w.heap.size w w' := by
  have hl := h.1
  have hm := h.2.1
  unfold maxLen at hm
  have HI := Lib.hid h
  clear h
  by_cases hlt : left < n
  · have hv : szP left P = -1 := by unfold szP; rw [if_pos (by omega)]
    have HV := Lib.hid hv
    clear hv
    have hz : left - (n : Int) < 0 := by omega
    go_enter Tryd.func5, Tryd.ntmps5
    go_wp2_with fail
    go_ret
    exact ⟨by rw [HV.out]; rfl, Below.refl _ _⟩
  · have hv : szP left P = szLoop (left - n) P := by unfold szP; rw [if_neg (by omega), hl]
    have HV := Lib.hid hv
    have HL := Lib.hid hl
    clear hv hl
    have hz : ¬ left - (n : Int) < 0 := by omega
    go_enter Tryd.func5, Tryd.ntmps5
    go_wp2_with fail
    go_loopw [1, 5] (fun x i wr => ∃ (y : Int) (t : Nat), x = .int .i64 y ∧ i = .int .i64 t ∧ t ≤ n ∧ 0 ≤ y ∧ y ≤ 1048576 ∧ Hid (szP left P = szLoop y (P.drop t)) ∧ Hid (Below w.heap.size w wr)) (fun _ i _ => n - (intOf i).toNat)
    case atStart => exact ⟨left - n, 0, by go_num, rfl, Nat.zero_le _, by omega, by omega, HV.out, Below.refl _ _⟩
    case round =>
      obtain ⟨y, t, rfl, rfl, ht, hy0, hy1, hS, hb⟩ := hrel
      by_cases htn : t < n
      · have htl : t < P.length := by have := HL.out; omega
        have hp : P[t]? = some P[t] := by simp [htl]
        obtain ⟨b, o, d, k, m, rfl, hbl, hcell, hin, -⟩ := (HI.out.keep hb.out).at hp
        have hd : P.drop t = P[t] :: P.drop (t + 1) := List.drop_eq_getElem_cons htl
        have hkm := hin.2.1
        have hk := hin.1
        rw [hd, szLoop, hk] at hS
        have HS := Lib.hid hS.out
        have HK := Lib.hid hkm
        clear hS hd hin hp hk hkm
        obtain ⟨z, hz'⟩ : ∃ z, z = szR y k := ⟨_, rfl⟩
        have HZ := Lib.hid hz'
        go_wp2_with fail
        refine (szpage d k m y _ hy0 hy1 HK.out).mono ?_
        rintro e w1 ⟨rfl, b1⟩
        have B1 := Lib.hid (hb.out.trans (b1.mono hb.out.size))
        rw [← hz']
        clear b1 hz'
        by_cases hz0 : z < 0
        · have hfin : szP left P = -1 := by rw [HS.out, ← HZ.out, if_pos hz0]
          have HF := Lib.hid hfin
          clear hfin
          go_wp2_with fail
          go_ret
          exact ⟨by rw [HF.out]; rfl, B1.out⟩
        · have hle : z ≤ y := by
            have := HZ.out
            rw [this] at hz0
            have := (szR_le hz0).2
            omega
          go_wp2_with fail
          go_roundw
          case rel =>
            refine ⟨z, t + 1, rfl, by go_num, by omega, by omega, by omega, ?_, B1.out⟩
            show _ = _
            rw [HS.out, ← HZ.out, if_neg (by omega)]
          case measure => simp [intOf]; omega
      · have htn' : t = n := by omega
        have hfin : szP left P = y := by rw [hS.out, htn', List.drop_eq_nil_of_le (by have := HL.out; omega)]; rfl
        have HF := Lib.hid hfin
        clear hfin htn'
        go_wp2_with fail
        go_ret
        exact ⟨by rw [HF.out]; rfl, hb.out⟩
/-! ### Comparisons -/
set_option maxRecDepth 100000 in
theorem eqpage (a a' : Option Addr) (n c n' c' : Nat) (p q : List R) (w : World) (h : SeqIn rowRep w a n p) (h' : SeqIn rowRep w a' n' q) :
    Calls Tryd.prog 22 #[.agg #[.slice a n c], .agg #[.slice a' n' c']] w fun e w' => e = .returned (.bool (decide (p = q))) ∧ Below w.heap.size w w' := by
  have b0 : Below w.heap.size w ((w.alloc (.cells #[.slice a n c] 41)).alloc (.cells #[.slice a' n' c'] 41)) := ((Below.refl _ _).alloc (Nat.le_refl _) _).alloc (by simp) _
  have B0 := Lib.hid b0
  have R0 := Lib.hid (rows_in (h.keep b0))
  have S0 := Lib.hid (rows_in (h'.keep b0))
  have hm := h.2.1
  have hm' := h'.2.1
  unfold maxLen at hm hm'
  clear b0 h h'
  go_enter Tryd.func22, Tryd.ntmps22
  go_wp2_with fail
  refine (eqrows a a' n c n' c' p q _ R0.out S0.out hm hm').mono ?_
  rintro e w1 ⟨rfl, b1⟩
  have B1 := Lib.hid (B0.out.trans (b1.mono B0.out.size))
  clear b1
  by_cases hpq : p = q
  · have HD := Lib.hid (decide_eq_true hpq)
    rw [HD.out]
    clear hpq
    go_wp2_with fail
    go_ret
    exact ⟨by rw [HD.out]; rfl, B1.out⟩
  · have HD := Lib.hid (decide_eq_false hpq)
    rw [HD.out]
    clear hpq
    go_wp2_with fail
    go_ret
    exact ⟨by rw [HD.out]; rfl, B1.out⟩
set_option maxRecDepth 100000 in
theorem eqpages (a a' : Option Addr) (n c n' c' : Nat) (P Q : List (List R)) (w : World) (h : SeqIn pageRep w a n P) (h' : SeqIn pageRep w a' n' Q) :
    Calls Tryd.prog 9 #[.slice a n c, .slice a' n' c'] w fun e w' => e = .returned (.bool (decide (P = Q))) ∧ Below w.heap.size w w' := by
  have hl := h.1
  have hl' := h'.1
  have hm := h.2.1
  have hm' := h'.2.1
  unfold maxLen at hm hm'
  have HI := Lib.hid h
  have HI' := Lib.hid h'
  have HL := Lib.hid hl
  have HL' := Lib.hid hl'
  clear h h' hl hl'
  by_cases hne : (n : Int) = n'
  · have hne' : n = n' := by omega
    subst hne'
    clear hne
    go_enter Tryd.func9, Tryd.ntmps9
    go_wp2_with fail
    go_loopw [5] (fun i wr => ∃ t : Nat, i = .int .i64 t ∧ t ≤ n ∧ Hid (∀ s, s < t → P[s]? = Q[s]?) ∧ Hid (Below w.heap.size w wr)) (fun i _ => n - (intOf i).toNat)
    case atStart => exact ⟨0, rfl, Nat.zero_le _, fun t ht => absurd ht (Nat.not_lt_zero _), Below.refl _ _⟩
    case round =>
      obtain ⟨t, rfl, ht, hok, hb⟩ := hrel
      by_cases hlt : t < n
      · have htl : t < P.length := by have := HL.out; omega
        have htl' : t < Q.length := by have := HL'.out; omega
        obtain ⟨p, hp⟩ : ∃ p, P[t]? = some p := ⟨P[t], by simp [htl]⟩
        obtain ⟨q, hq⟩ : ∃ q, Q[t]? = some q := ⟨Q[t], by simp [htl']⟩
        obtain ⟨b, o, d, k, m, rfl, hbl, hcell, hin, -⟩ := (HI.out.keep hb.out).at hp
        obtain ⟨b', o', d', k', m', rfl, hbl', hcell', hin', -⟩ := (HI'.out.keep hb.out).at hq
        have IN := Lib.hid hin
        have IN' := Lib.hid hin'
        have HP := Lib.hid hp
        have HQ := Lib.hid hq
        clear hin hin' hp hq htl htl'
        go_wp2_with fail
        go_still_tail 8, (by kernel_rfl)
        go_wp2_with fail
        refine (eqpage d d' k m k' m' p q _ (IN.out.keep (Below.refl _ _).drew) (IN'.out.keep (Below.refl _ _).drew)).mono ?_
        rintro e w1 ⟨rfl, b1⟩
        have B1 := Lib.hid (hb.out.drew.trans (b1.mono hb.out.size))
        clear b1
        by_cases hpq : p = q
        · rw [decide_eq_true hpq]
          have HPQ := Lib.hid hpq
          clear hpq
          go_wp2_with fail
          go_roundw
          case rel =>
            refine ⟨t + 1, by go_num, by omega, ?_, B1⟩
            intro s hs
            rcases Nat.lt_or_ge s t with hst | hst
            · exact hok.out s hst
            · obtain rfl : s = t := by omega
              rw [HP.out, HQ.out, HPQ.out]
          case measure => simp [intOf]; omega
        · rw [decide_eq_false hpq]
          have hno : decide (P = Q) = false := by
            rw [decide_eq_false_iff_not]
            intro e
            apply hpq
            have h1 := HP.out
            rw [e, HQ.out] at h1
            exact (Option.some.inj h1).symm
          have HN := Lib.hid hno
          clear hno hpq
          go_wp2_with fail
          go_ret
          exact ⟨by rw [HN.out]; rfl, B1.out⟩
      · have hkl : t = n := by omega
        have hall : decide (P = Q) = true := by
          rw [decide_eq_true_eq]
          apply List.ext_getElem?
          intro s
          rcases Nat.lt_or_ge s n with hs | hs
          · exact hok.out s (by omega)
          · rw [List.getElem?_eq_none (by have := HL.out; omega), List.getElem?_eq_none (by have := HL'.out; omega)]
        clear hkl
        have HA := Lib.hid hall
        clear hall
        go_wp2_with fail
        go_ret
        exact ⟨by rw [HA.out]; rfl, hb.out⟩
  · have hno : decide (P = Q) = false := by
      rw [decide_eq_false_iff_not]
      intro e
      apply hne
      rw [← HL.out, ← HL'.out, e]
    have HN := Lib.hid hno
    clear hno
    go_enter Tryd.func9, Tryd.ntmps9
    go_wp2_with fail
    go_ret
    exact ⟨by rw [HN.out]; rfl, Below.refl _ _⟩
/-! ### Marks -/
set_option maxRecDepth 100000 in
theorem markpages (B n c : Nat) (a : Option Addr) (P : List (List R)) (F : List Reg) (q : Int) (w : World) (h : SeqOwn pageRep w B a n P F) (hn : n ≤ 1000000000000) (hf : P.flatten.length ≤ 10000000000) (hq0 : 0 ≤ q) (hq1 : q ≤ 100000000000) :
    Calls Tryd.prog 12 #[.slice a n c, .int .i64 q] w fun e w' => e = .returned (.int .i64 (q + 3 * (P.flatten.length : Int))) ∧ SeqOwn pageRep w' B a n (mkP q P) F ∧ OnlyAt F w w' := by
  have HL := Lib.hid h.1
  have HO := Lib.hid h
  clear h
  go_enter Tryd.func12, Tryd.ntmps12
  go_wp2_with fail
  go_loopw [1, 5] (fun x i wr => ∃ t s : Nat, x = .int .i64 (q + 3 * (s : Int)) ∧ i = .int .i64 t ∧ t ≤ n ∧ s ≤ 10000000000 ∧ Hid (s = (P.take t).flatten.length) ∧ Hid (SeqOwn pageRep wr B a n (mkP q (P.take t) ++ P.drop t) F) ∧ Hid (OnlyAt F w wr)) (fun _ i _ => n - (intOf i).toNat)
  case atStart => exact ⟨0, 0, by go_num, rfl, Nat.zero_le _, Nat.zero_le _, by show 0 = _; simp, (show SeqOwn pageRep w B a n (mkP q (P.take 0) ++ P.drop 0) F from HO.out), OnlyAt.refl _ _⟩
  case round =>
    obtain ⟨t, s, rfl, rfl, ht, hs, hsz, hown, hb⟩ := hrel
    by_cases hlt : t < n
    · have htl : t < P.length := by have := HL.out; omega
      have hlm : (mkP q (P.take t)).length = t := by rw [mkP_length, List.length_take]; omega
      have hat : (mkP q (P.take t) ++ P.drop t)[t]? = some P[t] := by
        rw [List.getElem?_append_right (by omega), hlm, Nat.sub_self, List.drop_eq_getElem_cons htl]; rfl
      obtain ⟨b, o, ⟨d, k, m⟩, G, rfl, hbl, hce, -, ⟨hin, hcap⟩, hsub, hset⟩ := hown.out.at hat
      have hcell := hce 0 _ rfl
      simp only [seqRep, Nat.mul_one, Nat.add_zero] at hcell
      have hpl : P[t].length = k := hin.1
      have hnx := flat_next P t htl
      have hle := flat_take P (t + 1)
      have hmn := mkP_next q P t htl
      rw [← hsz.out] at hnx hmn
      rw [hpl] at hnx hmn
      have IN := Lib.hid hin
      have HSUB := Lib.hid hsub
      have HS := Lib.hid (fun w' ho (hw : SeqOwn rowRep w' B d k (marked k (q + 3 * (s : Int))) G) => hset w' (marked k (q + 3 * (s : Int))) ho ⟨hw, hcap⟩ rfl)
      rw [hmn] at HS
      have HX := Lib.hid hnx
      have hk9 : k ≤ 10000000000 := by omega
      have hsk : s + k ≤ 10000000000 := by omega
      clear hce hin hsub hset hat hlm hnx hmn hle hpl hcap
      go_wp2_with fail
      refine (markrows B k m d P[t] G (q + 3 * (s : Int)) _ IN.out (by omega) (by omega) (by omega)).mono ?_
      rintro e w1 ⟨rfl, hw1, ho1⟩
      have HN := Lib.hid (HS.out w1 ho1 hw1)
      have HO1 := Lib.hid (hb.out.trans (ho1.mono HSUB.out))
      clear hw1 ho1 HS
      go_wp2_with fail
      go_roundw
      case rel => exact ⟨t + 1, s + k, by go_num, by go_num, by omega, by omega, HX.out.symm, HN.out, HO1.out⟩
      case measure => simp [intOf]; omega
    · have hkl : t = n := by omega
      have hfin : SeqOwn pageRep wr B a n (mkP q P) F := by
        have := hown.out
        rw [hkl, List.drop_eq_nil_of_le (by rw [HL.out]; exact Nat.le_refl _), List.append_nil, List.take_of_length_le (by rw [HL.out]; exact Nat.le_refl _)] at this
        exact this
      have hs2 : s = P.flatten.length := by
        rw [hsz.out, hkl, List.take_of_length_le (by rw [HL.out]; exact Nat.le_refl _)]
      have HF := Lib.hid hfin
      have HK := Lib.hid hs2
      clear hfin hkl hs2
      go_wp2_with fail
      go_ret
      exact ⟨by rw [← HK.out]; rfl, HF.out, hb.out⟩
set_option maxRecDepth 100000 in
theorem heldpages (n c : Nat) (a : Option Addr) (P : List (List R)) (q : Int) (w : World) (h : SeqIn pageRep w a n (mkP q P)) (hn : n ≤ 1000000000000) (hf : P.flatten.length ≤ 10000000000) (hq0 : 0 ≤ q) (hq1 : q ≤ 100000000000) :
    Calls Tryd.prog 13 #[.slice a n c, .int .i64 q] w fun e w' => e = .returned (.int .i64 (q + 3 * (P.flatten.length : Int))) ∧ w = w' := by
  have hl : P.length = n := by rw [← h.1, mkP_length]
  have HL := Lib.hid hl
  have HI := Lib.hid h
  obtain ⟨N, hN⟩ : ∃ N, N = P.flatten.length := ⟨_, rfl⟩
  rw [← hN] at hf ⊢
  have HN := Lib.hid hN
  clear h hl hN
  go_enter Tryd.func13, Tryd.ntmps13
  go_wp2_with fail
  go_loop [1, 5] (fun x i => ∃ t s : Nat, x = .int .i64 (q + 3 * (s : Int)) ∧ i = .int .i64 t ∧ t ≤ n ∧ s ≤ 10000000000 ∧ Hid (s = (P.take t).flatten.length)) (fun _ i => n - (intOf i).toNat)
  case atStart => exact ⟨0, 0, by go_num, rfl, Nat.zero_le _, Nat.zero_le _, by show 0 = _; simp⟩
  case round =>
    obtain ⟨t, s, rfl, rfl, ht, hs, hsz⟩ := hrel
    by_cases hlt : t < n
    · have htl : t < P.length := by have := HL.out; omega
      obtain ⟨b, o, d, k, m, rfl, hbl, hcell, hin, -⟩ := HI.out.at (mkP_get q P t htl)
      have hnx := flat_next P t htl
      have hle := flat_take P (t + 1)
      rw [← HN.out] at hle
      rw [← hsz.out] at hnx hin
      have hpl : P[t].length = k := by rw [← hin.1]; simp [marked]
      rw [hpl] at hnx hin
      have IN := Lib.hid (rows_in hin)
      have HX := Lib.hid hnx
      have hk9 : k ≤ 10000000000 := by omega
      have hsk : s + k ≤ 10000000000 := by omega
      clear hin hnx hle hpl
      go_wp2_with fail
      refine (heldrows d k m (q + 3 * (s : Int)) _ IN.out (by omega) (by omega) (by omega)).mono ?_
      rintro e w1 ⟨rfl, rfl⟩
      go_wp2_with fail
      go_round
      case rel => exact ⟨t + 1, s + k, by go_num, by go_num, by omega, by omega, HX.out.symm⟩
      case measure => simp [intOf]; omega
    · have hkl : t = n := by omega
      have hs2 : s = N := by
        rw [hsz.out, HN.out, hkl, List.take_of_length_le (by rw [HL.out]; exact Nat.le_refl _)]
      have HK := Lib.hid hs2
      clear hkl hs2
      go_wp2_with fail
      go_ret
      exact ⟨by rw [← HK.out]; rfl, rfl⟩
/-! ### Copies -/
set_option maxRecDepth 100000 in
theorem topage (a : Option Addr) (n c : Nat) (p : List R) (w : World) (h : SeqIn rowRep w a n p) (hn : n ≤ 1000000000000) :
    Calls Tryd.prog 17 #[.agg #[.slice a n c]] w fun e w' => ∃ g F, e = .returned (.agg #[.slice (some ⟨g, 0, none⟩) n n]) ∧ SeqOwn rowRep w' w.heap.size (some ⟨g, 0, none⟩) n p F ∧ Below w.heap.size w w' := by
  obtain ⟨W, hW⟩ : ∃ W, W = ((w.alloc (.cells #[.slice a n c] 36)).alloc (.cells #[.slice none 0 0] 41)).alloc (.cells #[.slice none 0 0] 41) := ⟨_, rfl⟩
  have hs1 : (w.alloc (.cells #[.slice a n c] 36)).heap.size = w.heap.size + 1 := by simp
  have hs2 : ((w.alloc (.cells #[.slice a n c] 36)).alloc (.cells #[.slice none 0 0] 41)).heap.size = w.heap.size + 2 := by simp
  have hs3 : W.heap.size = w.heap.size + 3 := by rw [hW]; simp
  have b0 : Below w.heap.size w W := by rw [hW]; exact (((Below.refl _ _).alloc (Nat.le_refl _) _).alloc (by simp) _).alloc (by simp; omega) _
  have k1 : W.heap[w.heap.size + 1]? = some (.cells #[.slice none 0 0] 41 (0, 0)) := by
    rw [hW, ← hs1]
    exact (Below.heap_alloc _ _ _ (by simp)).trans (heap_alloc_new _ _)
  have k2 : W.heap[w.heap.size + 2]? = some (.cells #[.slice none 0 0] 41 (0, 0)) := by
    rw [hW, ← hs2]
    exact heap_alloc_new _ _
  have k0 : W.heap[w.heap.size]? = some (.cells #[.slice a n c] 36 (0, 0)) := by
    rw [hW]
    exact (Below.heap_alloc _ _ _ (by simp; omega)).trans ((Below.heap_alloc _ _ _ (by simp)).trans (heap_alloc_new _ _))
  have c0 : W.cell? ⟨w.heap.size, 0, none⟩ = some (.slice a n c) := by simp [World.cell?, k0]
  have R0 := Lib.hid (rows_in (h.keep b0))
  have B0 := Lib.hid b0
  have K1 := Lib.hid k1
  have K2 := Lib.hid k2
  have HZ := Lib.hid hs3
  clear h b0 k0 k1 k2 hs1 hs2 hs3
  go_enter Tryd.func17, Tryd.ntmps17
  go_wp2_with fail
  rw [← hW]
  clear hW
  refine (ownrows a n c p _ R0.out hn).mono ?_
  rintro e w1 ⟨g, F, rfl, hown, b1⟩
  have hz := HZ.out
  have q1 := (b1.block (w.heap.size + 1) (by omega)).trans K1.out
  have q2 := (b1.block (w.heap.size + 2) (by omega)).trans K2.out
  have d1 : w1.cell? ⟨w.heap.size + 1, 0, none⟩ = some (.slice none 0 0) := by simp [World.cell?, q1]
  have d2 : w1.cell? ⟨w.heap.size + 2, 0, none⟩ = some (.slice none 0 0) := by simp [World.cell?, q2]
  have f1 : w1.frozen? ⟨w.heap.size + 1, 0, none⟩ = false := by simp [World.frozen?, q1]
  have f2 : w1.frozen? ⟨w.heap.size + 2, 0, none⟩ = false := by simp [World.frozen?, q2]
  have HO := Lib.hid hown
  have hne : ∀ y ∈ F, y.b ≠ w.heap.size + 1 ∧ y.b ≠ w.heap.size + 2 := fun y hy => by have := (hown.lt y hy).1; omega
  have HN := Lib.hid hne
  have B1 := Lib.hid (B0.out.trans (b1.mono (by omega)))
  have hle : w.heap.size ≤ W.heap.size := by omega
  clear hown hne b1 q1 q2 hz
  go_wp2_with fail
  refine bodyPost_ret (v := .agg #[.slice (some ⟨g, 0, none⟩) n n]) (by simp [results, Tryd.results17, go_sem, *]) rfl ⟨g, F, rfl, ?_, ?_⟩
  · exact (HO.out.mono hle).stay (((Stay.refl F w1).set _ fun y hy => (HN.out y hy).2).set _ fun y hy => (HN.out y hy).1)
  · exact (B1.out.setCell (by simp only []; omega) _).setCell (by simp only []; omega) _
set_option maxRecDepth 100000 in
theorem topages (a : Option Addr) (n c : Nat) (P : List (List R)) (w : World) (h : SeqIn pageRep w a n P) (hn : n ≤ 1000000000000) (hf : P.flatten.length ≤ 1000000000000) :
    Calls Tryd.prog 7 #[.slice a n c] w fun e w' => ∃ g F, e = .returned (.slice (some ⟨g, 0, none⟩) n n) ∧ SeqOwn pageRep w' w.heap.size (some ⟨g, 0, none⟩) n P F ∧ Below w.heap.size w w' := by
  have HL := Lib.hid h.1
  have HI := Lib.hid h
  obtain ⟨N, hN⟩ : ∃ N, N = P.flatten.length := ⟨_, rfl⟩
  rw [← hN] at hf
  have HN := Lib.hid hN
  have hmk := run_make_pages n hn
  obtain ⟨G, hG⟩ : ∃ G, G = w.heap.size := ⟨_, rfl⟩
  have hbw : Below w.heap.size w (w.alloc (.cells (List.replicate n (Value.slice none 0 0)).toArray 41)) := (Below.refl _ _).alloc (Nat.le_refl _) _
  have hgw : (w.alloc (.cells (List.replicate n (Value.slice none 0 0)).toArray 41)).heap[w.heap.size]? = some (.cells (List.replicate n (Value.slice none 0 0)).toArray 41 (0, 0)) := heap_alloc_new w _
  rw [← hG] at hbw hgw
  have HBW := Lib.hid hbw
  have HGW := Lib.hid hgw
  have HG := Lib.hid hG
  clear h hN hbw hgw
  go_enter Tryd.func7, Tryd.ntmps7
  go_wp2_with fail
  clear hmk
  rw [← hG]
  clear hG
  go_loopw [4] (fun i wr => ∃ (t : Nat) (es : List (El pageRep)), i = .int .i64 t ∧ t ≤ n ∧ Hid (es.map El.x = P.take t) ∧ Hid (wr.heap[G]? = some (.cells (cellsOf es ++ List.replicate (n - t) (Value.slice none 0 0)).toArray 41 (0, 0))) ∧ Hid (OwnAll pageRep wr (G + 1) es) ∧ Hid (Below G w wr)) (fun i _ => n - (intOf i).toNat)
  case atStart => exact ⟨0, [], rfl, Nat.zero_le _, by show _ = _; simp, HGW.out, OwnAll.nil _ _ _, HBW.out⟩
  case round =>
    obtain ⟨t, es, rfl, ht, hes, hg, how, hb⟩ := hrel
    have hel : es.length = t := by
      have := congrArg List.length hes.out
      rw [List.length_map, List.length_take, HL.out] at this
      omega
    by_cases hlt : t < n
    · have htl : t < P.length := by have := HL.out; omega
      have hp : P[t]? = some P[t] := by simp [htl]
      obtain ⟨p, hpp⟩ : ∃ p, p = P[t] := ⟨_, rfl⟩
      rw [← hpp] at hp
      have hbk : Below w.heap.size w wr := by rw [← HG.out]; exact hb.out
      obtain ⟨b, o, d, k, m, rfl, hbl, hcell, hin, -⟩ := (HI.out.keep hbk).at hp
      have hkn : k ≤ 1000000000000 := by
        have h1 := flat_mem P t htl
        rw [← hpp, hin.1, ← HN.out] at h1
        omega
      have IN := Lib.hid hin
      have hgl : G < wr.heap.size := lt_of_block hg.out
      have htk : P.take (t + 1) = P.take t ++ [p] := by rw [List.take_succ_eq_append_getElem htl, hpp]
      have HTK := Lib.hid htk
      clear hin hp hpp hbk htk
      go_wp2_with fail
      refine (topage d k m p _ IN.out hkn).mono ?_
      rintro e w1 ⟨g, F, rfl, hown, b1⟩
      have hg1 : w1.heap[G]? = some (.cells (cellsOf es ++ List.replicate (n - t) (Value.slice none 0 0)).toArray 41 (0, 0)) := (b1.block _ hgl).trans hg.out
      have hcl : (cellsOf es).length = t := by rw [cellsOf_length, hel]; exact Nat.mul_one _
      have d0 : w1.cell? ⟨G, t, none⟩ = some (.slice none 0 0) := by
        simp only [World.cell?, hg1]
        rw [List.getElem?_toArray, List.getElem?_append_right (by omega), hcl, Nat.sub_self]
        simp [List.getElem?_replicate]
        omega
      have f0 : w1.frozen? ⟨G, t, none⟩ = false := by simp [World.frozen?, hg1]
      have hpush := how.out.push (e := ⟨p, (some ⟨g, 0, none⟩, k, k), F⟩) b1 ⟨hown, fun e => by cases e⟩ (by omega) (Nat.le_refl _)
      have hstay : OwnAll pageRep (w1.setCell ⟨G, t, none⟩ (.slice (some ⟨g, 0, none⟩) k k)) (G + 1) (es ++ [⟨p, (some ⟨g, 0, none⟩, k, k), F⟩]) :=
        hpush.stay fun e he => (Stay.refl _ _).set _ fun y hy => by have := (pageRep.own_lt (hpush.1 e he) y hy).1; omega
      have hblk := Joins.block_setCell hg1 (i := t) (.slice (some ⟨g, 0, none⟩) k k)
      rw [built_set hcl (by omega)] at hblk
      have HS := Lib.hid hstay
      have HK := Lib.hid hblk
      have B1 := Lib.hid ((hb.out.trans (b1.mono (by omega))).setCell (p := ⟨G, t, none⟩) (Nat.le_refl _) (.slice (some ⟨g, 0, none⟩) k k))
      clear hown b1 hg1 hcl hpush hstay hblk hgl
      go_wp2_with fail
      go_roundw
      case rel =>
        refine ⟨t + 1, es ++ [⟨p, (some ⟨g, 0, none⟩, k, k), F⟩], by go_num, by omega, ?_, ?_, HS, B1⟩
        · show _ = _
          rw [List.map_append, hes.out, HTK.out]; rfl
        · show _ = _
          rw [HK.out, cellsOf_snoc, show n - t - 1 = n - (t + 1) by omega]; rfl
      case measure => simp [intOf]; omega
    · have hkl : t = n := by omega
      have hcs : wr.heap[G]? = some (.cells (cellsOf es).toArray 41 (0, 0)) := by
        rw [hg.out, hkl, Nat.sub_self]; simp
      have hx : es.map El.x = P := by rw [hes.out, List.take_of_length_le (by have := HL.out; omega)]
      have hfin : ∃ F, SeqOwn pageRep wr G (some ⟨G, 0, none⟩) n P F := by
        obtain ⟨F, hF⟩ := OwnAll.done (g := G) (how.out.mono (B' := G) (by omega)) (Nat.le_refl _) (lt_of_block hcs) (fun j => by simp [World.frozen?, hcs]) (fun j u hj => by simp only [World.cell?, hcs]; simpa using hj)
          (fun e he y hy => by have := (pageRep.own_lt (how.out.1 e he) y hy).1; omega) (by unfold maxLen; omega)
        exact ⟨F, by rw [hx, hel, hkl] at hF; exact hF⟩
      have HF := Lib.hid hfin
      clear hkl hcs hx hfin
      go_wp2_with fail
      go_ret
      obtain ⟨F, hF⟩ := HF.out
      have hb' := hb.out
      rw [HG.out] at hF hb' ⊢
      exact ⟨_, F, rfl, hF, hb'⟩
end Go.Proofs.YtoiobaiiammehaaDoor
