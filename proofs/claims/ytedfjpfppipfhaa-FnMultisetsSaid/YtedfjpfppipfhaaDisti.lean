/- The program's DistinctRows, the library's slices.Compact behind it (walked), by contract. -/
import Derived.Test.YtedfjpfppipfhaaSorti
import Derived.Test.YtedfjpfppipfhaaSorts
import Derived.Laws.CopyRow
import Derived.Laws.CopyOwn
namespace Go.Proofs.Ytedfjpfppipfhaa
open Go.RowKit

theorem distTo_one (L : List R) (h : L.length < 2) : R.distTo L L.length = L := by
  match L, h with
  | [], _ => rfl
  | [r], _ => rfl
theorem distTo_step {L : List R} {k : Nat} (hk : k < L.length) (h : R.distTo L k = L.take k) (h0 : k = 0 ∨ L.getD k R.zero ≠ L.getD (k - 1) R.zero) : R.distTo L (k + 1) = L.take (k + 1) := by
  rw [R.take_succ hk, ← h]
  show (if k = 0 ∨ _ then _ else _) = _
  rw [if_pos h0]
theorem distTo_new {L : List R} {k : Nat} (h0 : L.getD (k + 1) R.zero ≠ L.getD k R.zero) : R.distTo L (k + 2) = R.distTo L (k + 1) ++ [L.getD (k + 1) R.zero] := by
  show (if k + 1 = 0 ∨ _ then _ else _) = _
  exact if_pos (.inr h0)
theorem distTo_dup {L : List R} {k : Nat} (h0 : L.getD (k + 1) R.zero = L.getD k R.zero) : R.distTo L (k + 2) = R.distTo L (k + 1) := by
  show (if k + 1 = 0 ∨ _ then _ else _) = _
  exact if_neg (fun h => h.elim (by omega) (fun h => h h0))
theorem drop_get {X L : List R} {d t : Nat} (h : X.drop d = L.drop d) (ht : d ≤ t) : X.getD t R.zero = L.getD t R.zero := by
  obtain ⟨u, rfl⟩ : ∃ u, t = d + u := ⟨t - d, by omega⟩
  have := congrArg (fun Z => Z[u]?) h
  simp only [List.getElem?_drop] at this
  simp [List.getD, this]
theorem drop_more {X L : List R} {d t : Nat} (h : X.drop d = L.drop d) (ht : d ≤ t) : X.drop t = L.drop t := by
  obtain ⟨u, rfl⟩ : ∃ u, t = d + u := ⟨t - d, by omega⟩
  rw [← List.drop_drop, ← List.drop_drop, h]
theorem drop_set {X : List R} {i d : Nat} (r : R) (h : i < d) : (X.set i r).drop d = X.drop d := by
  apply List.ext_getElem?
  intro k
  simp only [List.getElem?_drop, List.getElem?_set]
  rw [if_neg (by omega)]
theorem take_set {X : List R} {i : Nat} (r : R) (h : i < X.length) : (X.set i r).take (i + 1) = X.take i ++ [r] := by
  rw [List.take_succ_eq_append_getElem (by rw [List.length_set]; exact h)]
  rw [List.take_set, List.set_eq_of_length_le (by rw [List.length_take]; omega)]
  simp
/-- 'clear(s[i:])' at rows of the call's own. -/
theorem clear_rows {w : World} {B g len cap : Nat} {X : List R} (h : Mine w B (.slice (some ⟨g, 0, none⟩) len cap) X) {i : Nat} (hi : i < len) (n c : Nat) (hn : n = len - i) :
    ∃ w', (∀ ty, (Builtin.clear_ #[24] ty #[.slice (some ⟨g, i * 3, none⟩) n c]).run Try.prog w = .ok (.tuple #[]) w') ∧ Mine w' B (.slice (some ⟨g, 0, none⟩) i cap) (X.take i) ∧ (∀ C, C ≤ g → Below C w w') := by
  have hl := h.len
  obtain ⟨h1, ⟨h0, h2⟩ | ⟨g', cap', cur, hv, hB, hh, hcap, hcm, hsz, htake⟩⟩ := h
  · injection h0 with e1 e2 e3; cases e1
  · injection hv with e1 e2 e3
    injection e1 with e1
    injection e1 with e1
    subst e1 e3
    have hz : ∀ v ∈ List.replicate (n * 3) (Value.int .i64 0), v.oneCell' = true := fun v hv => by rw [List.eq_of_mem_replicate hv]; rfl
    have hst := run_storeCells_at Try.prog g (i * 3) 28 (List.replicate (n * 3) (Value.int .i64 0)) 0 cur w hh (by rw [List.length_replicate, hsz]; omega) hz
    have hzc : (Builtin.zeroCells R.zero.val.cells n).toList = List.replicate (n * 3) (Value.int .i64 0) := by
      apply List.ext_getElem
      · simp [Builtin.zeroCells, cells3_val]
      · intro j h1 h2
        have h3 : j % 3 = 0 ∨ j % 3 = 1 ∨ j % 3 = 2 := by omega
        simp only [Builtin.zeroCells, cells3_val, R.zero, Array.toList_map, List.getElem_map, List.getElem_replicate, Array.toList_range, List.getElem_range, List.size_toArray, List.length_cons, List.length_nil]
        rcases h3 with h | h | h <;> simp [h]
    obtain ⟨m, rfl⟩ : ∃ m, n = m + 1 := ⟨n - 1, by omega⟩
    obtain ⟨W, hW⟩ : ∃ W, W = w.setRow g (cur.toList.take (i * 3 + 0) ++ List.replicate ((m + 1) * 3) (Value.int .i64 0) ++ cur.toList.drop (i * 3 + 0 + (List.replicate ((m + 1) * 3) (Value.int .i64 0)).length)).toArray := ⟨_, rfl⟩
    rw [← hW] at hst
    refine ⟨W, fun ty => ?_, ?_, ?_⟩
    · have hst2 : (storeCells ⟨g, i * 3, none⟩ (Builtin.zeroCells (Value.agg #[.int .i64 0, .int .i64 0, .int .i64 0]).cells (m + 1)).toList).run Try.prog w = .ok () W := by
        have hzc2 : (Builtin.zeroCells (Value.agg #[.int .i64 0, .int .i64 0, .int .i64 0]).cells (m + 1)).toList = List.replicate ((m + 1) * 3) (Value.int .i64 0) := hzc
        rw [hzc2]
        exact hst
      simp [Builtin.clear_, run_underlying Try.underlying24, hst2, Result.andThen]
    · rw [hW]
      have hil : (X.take i).length = i := by rw [List.length_take]; omega
      refine ⟨cells3_length _, .inr ⟨g, cap, _, by rw [hil], hB, setRow_heap w g cur _ _ _ hh, by omega, hcm, ?_, ?_⟩⟩
      · simp [hsz]; omega
      · have e : cells3 X = cells3 (X.take i) ++ cells3 (X.drop i) := by rw [cells3_append, List.take_append_drop]
        have e2 : (cells3 (X.take i)).length = i * 3 := by rw [cells3_length, hil]
        have hct : cur.toList.take (i * 3) = cells3 (X.take i) := by
          have e3 : cur.toList.take (i * 3) = (cur.toList.take (X.length * 3)).take (i * 3) := by
            rw [List.take_take]; congr 1; omega
          rw [e3, htake, e, ← e2, List.take_left]
        simp only [Nat.add_zero, hct]
        rw [hil, List.append_assoc, ← e2, List.take_left]
    · intro C hC
      rw [hW]
      exact below_setRow (Below.refl _ _) hC _
set_option maxRecDepth 100000 in
set_option maxHeartbeats 1000000 in
theorem compact (B : Nat) (a : Option Addr) (len cap : Nat) (L : List R) (w : World) (h : Mine w B (.slice a len cap) L) (hlen : len ≤ 100000000000) :
    Calls Try.prog 50 #[.slice a len cap] w fun e w' => ∃ v', e = .returned v' ∧ Mine w' B v' (R.distTo L L.length) ∧ Below B w w' := by
  have hl := h.len
  have HL := Lib.hid hl
  have HM := Lib.hid h
  by_cases h2 : len < 2
  · have hd := Lib.hid (distTo_one L (by omega))
    clear h hl
    go_enter Try.func50, Try.ntmps50
    go_wp2_with fail
    go_ret
    exact ⟨_, rfl, by rw [hd.out]; exact HM.out, Below.refl _ _⟩
  · obtain ⟨g, rfl, hB, hg, -, -, -⟩ := h.at (k := 0) (by omega)
    have hcap := h.cap
    have h0 := distTo_step (L := L) (k := 0) (by omega) (by simp [R.distTo]) (.inl rfl)
    have H0 := Lib.hid h0
    clear h hl h0
    go_enter Try.func50, Try.ntmps50
    go_wp2_with fail
    go_loopw [3] (fun x wr => ∃ m : Nat, x = .int .i64 ((m : Int) + 1) ∧ m + 1 ≤ len ∧ Hid (R.distTo L (m + 1) = L.take (m + 1)) ∧ Hid (Below w.heap.size w wr)) (fun x _ => len - (intOf x).toNat)
    case atStart => exact ⟨0, rfl, by omega, H0.out, Below.refl _ _⟩
    case round =>
      obtain ⟨m, rfl, hm, hdist, hb⟩ := hrel
      by_cases hlt : m + 1 < len
      · have M1 := HM.out.keep hb.out
        obtain ⟨g1, e1, -, -, hat, -, -⟩ := M1.at hlt
        injection e1 with e1
        injection e1 with e1
        subst e1
        obtain ⟨g1, e1, -, -, hat', -, -⟩ := M1.at (k := m) (by omega)
        injection e1 with e1
        injection e1 with e1
        subst e1
        obtain ⟨p, hp⟩ : ∃ p, p = L.getD (m + 1) R.zero := ⟨_, rfl⟩
        obtain ⟨q, hq⟩ : ∃ q, q = L.getD m R.zero := ⟨_, rfl⟩
        rw [← hp] at hat
        rw [← hq] at hat'
        obtain ⟨c0, c1, c2⟩ := hat
        obtain ⟨d0, d1, d2⟩ := hat'
        have HP := Lib.hid hp
        have HQ := Lib.hid hq
        have hn := row_eql p q
        have hwr : IntKind.i64.wrap (m : Int) = m := by simp [IntKind.wrap, IntKind.bits, IntKind.signed]; omega
        have hkl : (m : Int) < len := by omega
        have hkl2 : (m : Int) + 1 < len := by omega
        have hkn : ((m : Int) + 1).toNat = m + 1 := by omega
        have hkp : 0 ≤ (m : Int) + 1 := by omega
        have MM := Lib.hid M1
        clear hp hq M1
        by_cases he : p = q
        · have HE := Lib.hid he
          rw [decide_eq_true he] at hn
          clear he
          have hck : ¬ cap = m + 1 := by omega
          have hck2 : m + 1 ≤ len := by omega
          go_wp2_with fail
          go_still_tail 9, (by kernel_rfl)
          obtain ⟨w1, hw1⟩ : ∃ w1, w1 = wr := ⟨_, rfl⟩
          subst hw1
          have hbd : Below w.heap.size w w1.drew := hb.out.drew
          have HBD := Lib.hid hbd
          have MD : Hid (Mine w1.drew B (.slice (some ⟨g, 0, none⟩) len cap) L) := Lib.hid MM.out.drew
          clear hbd
          have hd2 : L.take (m + 1) = R.distTo L (m + 2) := by rw [distTo_dup (by rw [← HP.out, ← HQ.out, HE.out]), hdist.out]
          have HD2 := Lib.hid hd2
          clear hd2
          go_wp2_with fail
          go_loopw [3, 5] (fun x y wx => ∃ (i n : Nat) (X : List R), x = .int .i64 i ∧ y = .int .i64 ((n : Int) + 1) ∧ m + n + 2 ≤ len ∧ i ≤ m + n + 1 ∧ Hid (Mine wx B (.slice (some ⟨g, 0, none⟩) len cap) X) ∧ Hid (X.take i = R.distTo L (m + n + 2)) ∧ Hid (X.drop (m + n + 1) = L.drop (m + n + 1)) ∧ Hid (Below B w wx)) (fun _ y _ => len - (intOf y).toNat)
          case atStart => exact ⟨m + 1, 0, L, by go_num, rfl, by omega, by omega, MD.out, HD2.out, rfl, HBD.out.mono (by omega)⟩
          case round =>
            obtain ⟨i, n, X, rfl, rfl, hn2, hin, hmx, htk, hdr, hbx⟩ := hrel
            obtain ⟨w2, hw2⟩ : ∃ w2, w2 = wr := ⟨_, rfl⟩
            subst hw2
            have hlx := hmx.out.len
            by_cases hlt2 : m + n + 2 < len
            · obtain ⟨g1, e1, -, hgl, hat, -, -⟩ := hmx.out.at hlt2
              injection e1 with e1
              injection e1 with e1
              subst e1
              obtain ⟨g1, e1, -, -, hat', -, -⟩ := hmx.out.at (k := m + n + 1) (by omega)
              injection e1 with e1
              injection e1 with e1
              subst e1
              rw [drop_get hdr.out (by omega)] at hat
              rw [drop_get hdr.out (by omega)] at hat'
              rw [show (m + n + 2) * 3 = (m + 1) * 3 + (n + 1) * 3 by omega] at hat
              rw [show (m + n + 1) * 3 = (m + 1) * 3 + n * 3 by omega] at hat'
              obtain ⟨u, hu⟩ : ∃ u, u = L.getD (m + n + 2) R.zero := ⟨_, rfl⟩
              obtain ⟨v, hv⟩ : ∃ v, v = L.getD (m + n + 1) R.zero := ⟨_, rfl⟩
              rw [← hu] at hat
              rw [← hv] at hat'
              have HAT := Lib.hid hat
              obtain ⟨c0, c1, c2⟩ := hat
              obtain ⟨d0, d1, d2⟩ := hat'
              have HU := Lib.hid hu
              have HV := Lib.hid hv
              have hn := row_neq u v
              have hwr : IntKind.i64.wrap (n : Int) = n := by simp [IntKind.wrap, IntKind.bits, IntKind.signed]; omega
              have hkl : (n : Int) < ((len - (m + 1) : Nat) : Int) := by omega
              have hkl2 : (n : Int) + 1 < ((len - (m + 1) : Nat) : Int) := by omega
              have hkn : ((n : Int) + 1).toNat = n + 1 := by omega
              have hkp : 0 ≤ (n : Int) + 1 := by omega
              clear hu hv
              by_cases he : u = v
              · have HE := Lib.hid he
                rw [decide_eq_true he] at hn
                have hd3 : X.take i = R.distTo L (m + n + 3) := by rw [htk.out, distTo_dup (k := m + n + 1) (by rw [← HU.out, ← HV.out, HE.out])]
                have HD3 := Lib.hid hd3
                clear he hd3
                go_wp2_with fail
                go_still_tail 9, (by kernel_rfl)
                go_wp2_with fail
                go_roundw
                case rel => exact ⟨i, n + 1, X, rfl, by go_num, by omega, by omega, hmx.out.drew, HD3.out, drop_more hdr.out (by omega), hbx.out.drew⟩
                case measure => simp [intOf]; omega
              · rw [decide_eq_false he] at hn
                have hil : i < len := by omega
                obtain ⟨g1, e1, -, -, hati, hfz, -⟩ := hmx.out.at hil
                injection e1 with e1
                injection e1 with e1
                subst e1
                obtain ⟨g1, e1, -, -, -, -, hset⟩ := (hmx.out.drew).at hil
                injection e1 with e1
                injection e1 with e1
                subst e1
                obtain ⟨y, hy⟩ : ∃ y, y = X.getD i R.zero := ⟨_, rfl⟩
                rw [← hy] at hati
                obtain ⟨b0, b1, b2⟩ := hati
                have f0 := hfz (i * 3)
                have f1 := hfz (i * 3 + 1)
                have f2 := hfz (i * 3 + 2)
                have HS := Lib.hid (hset u)
                have hd3 : (X.set i u).take (i + 1) = R.distTo L (m + n + 3) := by
                  rw [take_set u (by omega), htk.out, distTo_new (k := m + n + 1) (by rw [← HU.out, ← HV.out]; exact he), ← HU.out]
                have HD3 := Lib.hid hd3
                have hdr3 : (X.set i u).drop (m + n + 2) = L.drop (m + n + 2) := by rw [drop_set u (by omega), drop_more hdr.out (by omega)]
                have HR3 := Lib.hid hdr3
                clear he hd3 hdr3 hset hfz hy
                go_wp2_with fail
                go_still_tail 9, (by kernel_rfl)
                go_wp2_with fail
                go_roundw
                case rel => exact ⟨i + 1, n + 1, X.set i u, by go_num, by go_num, by omega, by omega, HS.out, HD3.out, HR3.out, below_set3 hbx.out.drew hB _ _ _ _ _ _⟩
                case measure => simp [intOf]; omega
            · have hend : m + n + 2 = len := by omega
              have hil : i < len := by omega
              have hci : ¬ cap = i := by omega
              have hcl2 : i ≤ len := by omega
              obtain ⟨wf, hcl, hmf, hbf⟩ := clear_rows hmx.out hil (len - i) (cap - i) rfl
              have HMF := Lib.hid hmf
              have HBF := Lib.hid (hbx.out.trans (hbf B hB))
              have hfin : X.take i = R.distTo L L.length := by rw [htk.out, hend, HL.out]
              rw [hfin] at HMF
              clear hmf hbf hfin
              go_wp2_with fail
              go_ret
              exact ⟨_, rfl, HMF.out, HBF.out⟩
        · have hstep := distTo_step (L := L) (k := m + 1) (by rw [HL.out]; exact hlt) hdist.out (.inr (by rw [← HP.out]; show p ≠ L.getD (m + 1 - 1) R.zero; rw [Nat.add_sub_cancel, ← HQ.out]; exact he))
          have HS := Lib.hid hstep
          rw [decide_eq_false he] at hn
          clear he hstep
          go_wp2_with fail
          go_still_tail 9, (by kernel_rfl)
          go_wp2_with fail
          go_roundw
          case rel => exact ⟨m + 1, by go_num, hlt, HS.out, hb.out.drew⟩
          case measure => simp [intOf]; omega
      · have hml : m + 1 = len := by omega
        have hfin : R.distTo L L.length = L := by
          have := hdist.out
          rw [hml, ← HL.out, List.take_length] at this
          exact this
        have HF := Lib.hid hfin
        have M1 := Lib.hid (HM.out.keep hb.out)
        clear hfin
        go_wp2_with fail
        go_ret
        exact ⟨_, rfl, by rw [HF.out]; exact M1.out, hb.out.mono (by omega)⟩
theorem idist (a : Option Addr) (len cap : Nat) (L : List R) (w : World) (h : IsRows w a len L) (hlen : len ≤ 100000000000) :
    Calls Try.prog 29 #[.slice a len cap] w fun e w' => ∃ v', e = .returned v' ∧ Mine w' w.heap.size v' (R.dist L) ∧ Below w.heap.size w w' := by
  have HL := Lib.hid h.1
  have HC := Lib.hid (isort a len cap L w h hlen)
  clear h
  go_enter Try.func29, Try.ntmps29
  go_wp2_with fail
  refine HC.out.mono ?_
  rintro e w1 ⟨v1, rfl, hm, b1⟩
  obtain ⟨a1, c1, rfl⟩ := hm.slice
  have hsl : (R.sort L).length = len := by rw [R.sort_length, HL.out]
  rw [hsl] at hm ⊢
  have M1 := Lib.hid hm
  have B1 := Lib.hid b1
  clear hm b1
  go_wp2_with fail
  refine (compact w.heap.size a1 len c1 (R.sort L) w1 M1.out hlen).mono ?_
  rintro e w2 ⟨v2, rfl, hm2, b2⟩
  have M2 := Lib.hid hm2
  have B2 := Lib.hid (B1.out.trans b2)
  clear hm2 b2
  go_wp2_with fail
  go_ret
  exact ⟨_, rfl, M2.out, B2.out⟩
end Go.Proofs.Ytedfjpfppipfhaa
