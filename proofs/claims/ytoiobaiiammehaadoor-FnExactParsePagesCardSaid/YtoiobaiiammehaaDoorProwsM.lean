/- The reference's ParseRows, by contract: the rows in memory of the call's own. -/
import Derived.Test.YtoiobaiiammehaaDoorProws
import Derived.Test.YtoiobaiiammehaaDoorAres
import Derived.Test.YtoiobaiiammehaaDoorPg
namespace Go.Proofs.YtoiobaiiammehaaDoor
open Go.RowKit

/-- What ParseRows answers: a slice in memory of its own, and whether. -/
def RowsGive (l : List UInt8) (w : World) (e : Ending) (w' : World) : Prop := ∃ a n c F, e = .returned (.tuple #[.slice a n c, .bool (parseRows l).isSome]) ∧ SeqOwn rowRep w' w.heap.size a n ((parseRows l).getD []) F ∧ (a = none → c = 0)
theorem rowsgive_no {l : List UInt8} {w w' : World} {x : Addr} {cap : Nat} (h : parseRows l = none) : RowsGive l w (.returned (.tuple #[.slice (some x) 0 cap, .bool false])) w' := by
  refine ⟨some x, 0, cap, [], ?_, ?_, fun e => by cases e⟩
  · rw [h]; rfl
  · rw [h]; exact ⟨rfl, Nat.zero_le _, .inl ⟨rfl, rfl⟩⟩
theorem rowsgive_yes {l : List UInt8} {w w' : World} {a : Option Addr} {n cap : Nat} {M : List R} (h : parseRows l = some M) (ho : Mine w' w.heap.size (.slice a n cap) M) (hwf : ∀ r ∈ M, r.wf) (hn : n ≤ maxLen) : RowsGive l w (.returned (.tuple #[.slice a n cap, .bool true])) w' := by
  obtain ⟨F, hF⟩ := mine_own ho hwf hn
  refine ⟨a, n, cap, F, ?_, ?_, fun e => ?_⟩
  · rw [h]; rfl
  · rw [h]; exact hF
  · subst e
    by_cases hz : Value.slice none n cap = .slice none 0 0
    · injection hz with _ _ e3
    · obtain ⟨g, c', e, -, -⟩ := ho.addr hz
      injection e with e1
      cases e1
set_option maxRecDepth 100000 in
theorem sprowsM_some (s : ByteArray) (hs : s.size ≤ 1000000000) (hpos : s.data.toList ≠ []) (w : World) : Calls Tryd.prog 24 #[.string s] w fun e w' => RowsGive s.data.toList w e w' ∧ Below w.heap.size w w' := by
  have hsl : s.data.toList.length = s.size := by simp
  have hsne : (s.toList == []) = false := by rw [beq_eq_false_iff_ne, ByteArray.toList_eq]; exact hpos
  have HP := Lib.hid hpos
  have hcl := Cut.cut_length 32 s.data.toList
  rw [hsl] at hcl
  have hmem : ∀ (t : Nat) (ht : t < (Cut.cut 32 s.data.toList).length), (Cut.cut 32 s.data.toList)[t].length ≤ s.size := by
    intro t ht
    have hj := Cut.join_cut 32 s.data.toList
    rw [← hsl]
    conv => rhs; rw [← hj]
    exact Cut.join_mem_length _ [32] _ (List.getElem_mem ht)
  have HM := Lib.hid hmem
  obtain ⟨ps, hps⟩ : ∃ ps, ps = Cut.cut 32 s.data.toList := ⟨_, rfl⟩
  have HBAD := Lib.hid (parseRows_bad s.data.toList hpos)
  have HALL := Lib.hid (parseRows_all s.data.toList hpos)
  rw [← hps] at HM hcl HBAD HALL
  have HC := Lib.hid hps
  clear hps hsl hmem hpos
  have hb0 : Below w.heap.size w (w.alloc (.cells #[] 65)) := (Below.refl _ _).alloc (Nat.le_refl _) _
  have HO0 := Lib.hid (World.ownsRow_made (e := 65) (size := 3) (base := w.heap.size) w #[] 0 (Nat.le_refl _) (by unfold maxLen; omega) rfl)
  have HB0 := Lib.hid hb0
  clear hb0
  go_enter Tryd.func24, Tryd.ntmps24
  go_wp2_with fail
  refine (scut s 32 32 rfl (by omega) _).mono ?_
  rintro e w1 ⟨g, cap, rfl, hg, hst, b1⟩
  rw [← HC.out] at hst ⊢
  have HO1 := Lib.hid (own_below HO0.out b1)
  have HB1 := Lib.hid (HB0.out.trans (b1.mono HB0.out.size))
  have HS1 := Lib.hid hst
  clear b1 hst
  go_wp2_with fail
  go_loopw [4, 6] (fun v i wr => ∃ (k : Nat) (x : Value) (M : List R), i = .int .i64 k ∧ x = v ∧ k ≤ ps.length ∧ Hid (M.length = k) ∧ Hid (readAll (ps.take k) = some M) ∧ Hid (wr.ownsRow w.heap.size 65 3 x M.length (cells3 M)) ∧ Hid (IsStrs wr g ps) ∧ Hid (Below w.heap.size w wr)) (fun _ i _ => ps.length - (intOf i).toNat)
  case atStart => exact ⟨0, _, [], rfl, rfl, Nat.zero_le _, rfl, rfl, HO1, HS1, HB1⟩
  case round =>
    obtain ⟨k, x, M, rfl, rfl, hk, hml, hread, hown, hst, hb⟩ := hrel
    have hsz := hb.out.size
    by_cases hlt : k < ps.length
    · have hc : wr.cell? ⟨g, k, none⟩ = some (.string ⟨ps[k].toArray⟩) := hst.out.2 k hlt
      obtain ⟨p, hp⟩ : ∃ p, p = ps[k] := ⟨_, rfl⟩
      rw [← hp] at hc
      have hpl : p.length ≤ s.size := by rw [hp]; exact HM.out k hlt
      have HN := Lib.hid (readAll_next ps k hlt M hread.out)
      have HB := Lib.hid (HBAD.out k hlt)
      rw [← hp] at HN HB
      clear hp
      have PR := Lib.hid (sprow ⟨p.toArray⟩ (by simp [ByteArray.size]; omega))
      unfold RowAns at PR
      have hpd : (⟨p.toArray⟩ : ByteArray).data.toList = p := by simp
      rw [hpd] at PR
      clear hpd
      cases hpr : parseRow p with
      | none =>
        rw [hpr] at PR HN
        have HNO := Lib.hid (HB.out hpr)
        clear hpr
        go_wp2_with fail
        refine (PR.out _).mono ?_
        rintro e w2 ⟨rfl, b2⟩
        have B2 := Lib.hid (hb.out.trans (b2.mono hsz))
        clear b2
        go_wp2_with fail
        go_ret2
        exact ⟨rowsgive_no HNO.out, (B2.out.alloc B2.out.size _).alloc (by have := B2.out.size; simp; omega) _⟩
      | some r =>
        rw [hpr] at PR HN
        simp only [Option.getD_some, Option.isSome_some] at PR
        clear hpr
        go_wp2_with fail
        refine (PR.out _).mono ?_
        rintro e w2 ⟨rfl, b2⟩
        have B2 := Lib.hid (hb.out.trans (b2.mono hsz))
        have O2 := Lib.hid (own_below hown.out b2)
        have S2 := Lib.hid (hst.out.keep b2)
        clear b2
        have O3 := Lib.hid (O2.out.alloc (.cells #[.int .i64 r.key, .int .i64 r.value, .int .i64 r.width] 65))
        have hB : w.heap.size ≤ (w2.alloc (.cells #[.int .i64 r.key, .int .i64 r.value, .int .i64 r.width] 65)).heap.size := by have := B2.out.size; simp; omega
        have hbox : Below w2.heap.size w2 (w2.alloc (.cells #[.int .i64 r.key, .int .i64 r.value, .int .i64 r.width] 65)) := (Below.refl _ _).alloc (Nat.le_refl _) _
        have S3 := Lib.hid (S2.out.keep hbox)
        have B3 := Lib.hid (B2.out.trans (hbox.mono B2.out.size))
        clear hbox
        go_wp2_with (at_builtin; refine wpList_pushR (.tmp 33) (.tmp 35) r (w2.heap.size + 1) (by simp) rfl rfl rfl rfl O3.out hB (by have := hml.out; omega) ?_; intro v4 w4 hown4 hb4 hrest4)
        have S4 : IsStrs w4 g ps := by
          obtain ⟨⟨cs, fz, hcs⟩, -⟩ := S3.out
          exact S3.out.same (hrest4 g S3.out.lt (own_apart O3.out hcs))
        go_roundw
        case rel =>
          refine ⟨k + 1, _, M ++ [r], by go_num, rfl, by omega, ?_, HN.out, hown4, S4, B3.out.trans hb4⟩
          show _ = _
          rw [List.length_append, hml.out]; rfl
        case measure => simp [intOf]; omega
    · have hkl : k = ps.length := by omega
      have hall : readAll ps = some M := by have := hread.out; rwa [hkl, List.take_length] at this
      have HAN := Lib.hid (HALL.out M hall)
      have HWF := Lib.hid (readAll_wf hall)
      obtain ⟨a', cap', rfl, hrows⟩ := rows_of_own hown.out HWF.out
      have HROWS := Lib.hid hrows
      have hd : decide ((k : Int) < (ps.length : Int)) = false := decide_eq_false (by omega)
      have hml' : M.length ≤ 1000000001 := by have := hml.out; omega
      clear hkl hall hrows
      go_wp2_with fail
      refine (sare a' M.length cap' M _ HROWS.out (by omega)).mono ?_
      rintro e w2 ⟨rfl, b2⟩
      have B2 := Lib.hid (hb.out.trans (b2.mono hsz))
      have R2 := Lib.hid (own_below hown.out b2)
      clear b2
      cases hok : okRows M with
      | false =>
        rw [hok] at HAN
        clear hok
        go_wp2_with fail
        go_ret2
        exact ⟨rowsgive_no (by rw [HAN.out]; rfl), B2.out.alloc B2.out.size _⟩
      | true =>
        rw [hok] at HAN
        clear hok
        go_wp2_with fail
        go_ret2
        exact ⟨rowsgive_yes (by rw [HAN.out]; rfl) R2.out HWF.out (by unfold maxLen; omega), B2.out⟩
set_option maxRecDepth 100000 in
theorem sprowsM_none (s : ByteArray) (h0 : s.data.toList = []) (w : World) : Calls Tryd.prog 24 #[.string s] w fun e w' => RowsGive s.data.toList w e w' ∧ Below w.heap.size w w' := by
  have hsz : s.size = 0 := by have : s.data.toList.length = s.size := by simp
                              rw [h0] at this; simpa using this.symm
  have hs0 : s = ⟨#[]⟩ := by
    apply ByteArray.ext
    apply Array.toList_inj.1
    exact h0
  have HY := Lib.hid fun (x : Addr) (cap : Nat) (w' : World) => (show RowsGive s.data.toList w (.returned (.tuple #[.slice (some x) 0 cap, .bool true])) w' from ⟨some x, 0, cap, [], by rw [h0]; rfl, by rw [h0]; exact ⟨rfl, Nat.zero_le _, .inl ⟨rfl, rfl⟩⟩, fun e => by cases e⟩)
  have hcut : Cut.cut 32 s.data.toList = [[]] := by rw [h0]; rfl
  have HC := Lib.hid hcut
  have hsc := fun v => scut s 32 32 rfl (by omega) v
  rw [hcut] at hsc
  have HS := Lib.hid hsc
  clear hcut h0 hsc
  subst hs0
  go_enter Tryd.func24, Tryd.ntmps24
  go_wp2_with fail
  refine (HS.out _).mono ?_
  rintro e w1 ⟨g, cap, rfl, hg, hst, b1⟩
  have hb0 : Below w.heap.size w (w.alloc (.cells #[] 65)) := (Below.refl _ _).alloc (Nat.le_refl _) _
  have B1 := Lib.hid (hb0.trans (b1.mono (by simp)))
  clear b1 hb0 hst
  go_wp2_with fail
  refine wp_loop_rounds 1 ?_
  rw [rounds_succ]
  go_wp2_with fail
  refine (sare _ 0 0 [] _ ⟨rfl, (fun r hr => by cases hr), .inl rfl⟩ (by omega)).mono ?_
  rintro e w2 ⟨rfl, b2⟩
  have B2 := Lib.hid (B1.out.trans (b2.mono B1.out.size))
  clear b2
  go_wp2_with fail
  go_ret2
  exact ⟨HY.out _ _ _, B2.out⟩
theorem sprowsM (s : ByteArray) (hs : s.size ≤ 1000000000) (w : World) : Calls Tryd.prog 24 #[.string s] w fun e w' => RowsGive s.data.toList w e w' ∧ Below w.heap.size w w' := by
  by_cases h : s.data.toList = []
  · exact sprowsM_none s h w
  · exact sprowsM_some s hs h w
end Go.Proofs.YtoiobaiiammehaaDoor
