/- The program's UnpackPages, by contract. -/
import Derived.Test.YtoiobaiiammehaaOwned
namespace Go.Proofs.Ytoiobaiiammehaa
open Go.RowKit

set_option maxRecDepth 100000 in
theorem iunpackM (a : Option Addr) (n c : Nat) (P : List (List R)) (w : World) (h : SeqIn pageRep w a n P) (hn : n ≤ 1000000000) (hf : P.flatten.length ≤ 10000000000) :
    Calls Try.prog 24 #[.slice a n c] w fun e w' => ∃ v, e = .returned v ∧ Mine w' w.heap.size v P.flatten ∧ Below w.heap.size w w' := by
  have HL := Lib.hid h.1
  have HI := Lib.hid h
  obtain ⟨N, hN⟩ : ∃ N, N = P.flatten.length := ⟨_, rfl⟩
  rw [← hN] at hf
  have HN := Lib.hid hN
  have M0 := Lib.hid (mine_none w w.heap.size)
  clear h hN
  go_enter Try.func24, Try.ntmps24
  go_wp2_with fail
  go_loopw [3, 8] (fun v i wr => ∃ (t : Nat) (y : Value), y = v ∧ i = .int .i64 t ∧ t ≤ n ∧ Hid (Mine wr w.heap.size y (P.take t).flatten) ∧ Hid (Below w.heap.size w wr)) (fun _ i _ => n - (intOf i).toNat)
  case atStart => exact ⟨0, _, rfl, rfl, Nat.zero_le _, (show Mine _ _ _ (P.take 0).flatten from M0.out), Below.refl _ _⟩
  case round =>
    obtain ⟨t, y, rfl, rfl, ht, hm, hb⟩ := hrel
    by_cases hlt : t < n
    · have htl : t < P.length := by have := HL.out; omega
      have hp : P[t]? = some P[t] := by simp [htl]
      obtain ⟨b, o, d, k, m, rfl, hbl, hcell, hin, hcap⟩ := (HI.out.keep hb.out).at hp
      have hnx := flat_next P t htl
      have hle := flat_take P (t + 1)
      rw [← HN.out] at hle
      have hpl : P[t].length = k := hin.1
      have hfl : (P.take (t + 1)).flatten = (P.take t).flatten ++ P[t] := by rw [List.take_succ_eq_append_getElem htl, List.flatten_append, List.flatten_cons, List.flatten_nil, List.append_nil]
      have HFL := Lib.hid hfl
      have hsz : w.heap.size ≤ wr.heap.size := hb.out.size
      have bx := (Below.refl wr.heap.size wr).alloc (Nat.le_refl _) (.cells #[.slice d k m] 29)
      have IN := Lib.hid ((rows_in hin).keep bx)
      have BX := Lib.hid (hb.out.trans (bx.mono hsz))
      have MX := Lib.hid (hm.out.keep bx)
      have hszx : w.heap.size ≤ (wr.alloc (.cells #[.slice d k m] 29)).heap.size := BX.out.size
      clear hfl hin hp bx
      have hln : (P.take t).flatten.length + k ≤ 1000000000000 := by omega
      have HLN := Lib.hid hln
      clear hln hnx hle
      cases d with
      | none =>
        have hm0 := hcap rfl
        subst hm0
        have hk0 : k = 0 := by
          obtain ⟨-, -, h0 | ⟨b', o', e, -⟩⟩ := IN.out
          · exact h0
          · cases e
        subst hk0
        have hpe : P[t] = [] := List.eq_nil_of_length_eq_zero hpl
        obtain ⟨i0, hi, hz0, hz1, hz2⟩ := info_parts rowInfo
        have HPE := Lib.hid hpe
        clear hpl hpe
        go_wp2_with (at_builtin; refine wpList_append_own_none rfl (.tmp 12) (.tmp 14) 27 rfl w.heap.size 50 i0 3 Try.underlying27 hi y (P.take t).flatten.length (cells3 (P.take t).flatten) rfl MX.out rfl ?_)
        go_roundw
        case rel => exact ⟨t + 1, _, rfl, by go_num, by omega, (by show Mine _ _ _ _; rw [HFL.out, HPE.out, List.append_nil]; exact MX.out), BX⟩
        case measure => simp [intOf]; omega
      | some ad =>
        obtain ⟨ad', had, hc⟩ := IN.out.cell
        have hcc : ∀ j u, (cells3 P[t])[j]? = some u → (wr.alloc (.cells #[.slice (some ad) k m] 29)).cell? (ad.add j) = some u := by
          rcases Nat.eq_zero_or_pos k with h0 | h0
          · intro j u hj
            have : P[t] = [] := List.eq_nil_of_length_eq_zero (by omega)
            rw [this] at hj
            simp [cells3] at hj
          · have := had h0
            injection this with this
            rw [← this] at hc
            exact hc
        have HCC := Lib.hid hcc
        have HPL := Lib.hid hpl
        clear hcc hc had hpl
        go_wp2_with (at_builtin; refine wpList_appendR (.tmp 12) (.tmp 14) ad k m rfl rfl rfl rfl MX.out HPL.out HCC.out hszx HLN.out ?_; intro v6 w6 hm6 hg6 hn6)
        have B6 := Lib.hid (BX.out.grown hg6 hszx MX.out.own')
        rw [← HFL.out] at hm6
        have M6 := Lib.hid hm6
        clear hm6 hg6 hn6
        go_roundw
        case rel => exact ⟨t + 1, _, rfl, by go_num, by omega, M6, B6⟩
        case measure => simp [intOf]; omega
    · have hkl : t = n := by omega
      have hfin : Mine wr w.heap.size y P.flatten := by
        have := hm.out
        rw [hkl, List.take_of_length_le (by have := HL.out; omega)] at this
        exact this
      have HF := Lib.hid hfin
      clear hfin hkl
      go_wp2_with fail
      go_ret
      exact ⟨_, rfl, HF.out, hb.out⟩
theorem flat_wf' {w : World} {a : Option Addr} {n : Nat} {P : List (List R)} (h : SeqIn pageRep w a n P) : ∀ r ∈ P.flatten, r.wf := by
  intro r hr
  obtain ⟨p, hp, hr⟩ := List.mem_flatten.1 hr
  obtain ⟨t, ht, rfl⟩ := List.getElem_of_mem hp
  obtain ⟨b, o, d, k, m, -, -, -, hin, -⟩ := h.at (t := t) (x := P[t]) (by simp [ht])
  exact (rows_in hin).2.1 r hr
theorem iunpack (a : Option Addr) (n c : Nat) (P : List (List R)) (w : World) (h : SeqIn pageRep w a n P) (hn : n ≤ 1000000000) (hf : P.flatten.length ≤ 10000000000) : Calls Try.prog 24 #[.slice a n c] w (Gives rowRep P.flatten w) :=
  (iunpackM a n c P w h hn hf).mono fun _ _ ⟨_, he, hm, hb⟩ => gives_mine he hm hb (flat_wf' h) (by unfold maxLen; omega)
end Go.Proofs.Ytoiobaiiammehaa
