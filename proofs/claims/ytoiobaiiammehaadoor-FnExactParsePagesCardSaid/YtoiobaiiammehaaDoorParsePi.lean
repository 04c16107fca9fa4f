/- The program's ParsePages, by contract. -/
import Derived.Test.YtoiobaiiammehaaDoorMath
import Derived.Test.YtoiobaiiammehaaDoorCutOne
import Derived.Test.YtoiobaiiammehaaDoorProwsi
import Derived.Test.YtoiobaiiammehaaDoorPagesi
import Derived.Test.YtoiobaiiammehaaDoorPg
import Derived.Test.YtoiobaiiammehaaDoorParsePS
namespace Go.Proofs.YtoiobaiiammehaaDoor
open Go.RowKit Go.Lib

/-- What parseFirstPage answers of a text that is not empty. -/
def FrontAns (l : List UInt8) (w : World) (e : Ending) (w' : World) : Prop :=
  (R.parsePages l = none ∧ e = .returned (.tuple #[.agg #[.slice none 0 0], .string ⟨#[]⟩, .bool false])) ∨
    ∃ (M : List R) (t : List UInt8) (a : Option Addr) (n c : Nat) (F : List Reg), e = .returned (.tuple #[.agg #[.slice a n c], .string ⟨t.toArray⟩, .bool true]) ∧ t.length < l.length ∧ R.parsePages l = (R.parsePages t).map (M :: ·) ∧ SeqOwn rowRep w' w.heap.size a n M F ∧ (a = none → c = 0)
theorem own_seq {w : World} {B : Nat} {a : Option Addr} {n : Nat} {M : List R} (h : OwnRows w B a n M) (hwf : ∀ r ∈ M, r.wf) (hn : n ≤ 24) (h0 : 0 < n) : (∃ F, SeqOwn rowRep w B a n M F) ∧ a ≠ none := by
  obtain ⟨hl, h1 | ⟨g, rfl, hg, hb⟩⟩ := h
  · omega
  · obtain ⟨F, hF, -⟩ := rows_own (mine_of_block hb hg hl (by unfold maxLen; omega)) hwf (by unfold maxLen; omega)
    exact ⟨⟨F, hF⟩, by simp⟩
set_option maxRecDepth 100000 in
theorem ipfront (s : ByteArray) (hs : s.size ≤ 4000000000) (hne : s.data.toList ≠ []) (w : World) (hm : Mx w) (hL : Tab w ∧ Syn w) :
    Calls Tryd.prog 25 #[.string s] w fun e w' => FrontAns s.data.toList w e w' ∧ Below w.heap.size w w' := by
  have HM := Lib.hid hm
  have HL := Lib.hid hL
  have b0 := (Below.refl w.heap.size w).alloc (Nat.le_refl _) (.cells #[.slice none 0 0] 41)
  have B0 := Lib.hid b0
  have C0 := Lib.hid (heap_alloc_new w (.cells #[.slice none 0 0] 41))
  have HS0 := Lib.hid (show w.heap.size < (w.alloc (.cells #[.slice none 0 0] 41)).heap.size by simp)
  have HNE := Lib.hid hne
  clear hm hL b0 hne
  go_enter Tryd.func25, Tryd.ntmps25
  go_wp2_with fail
  refine (cutpre s 91 _).mono ?_
  rintro e w1 ⟨rfl, hor⟩
  rcases hor with ⟨hno, rfl⟩ | ⟨q, hq, rfl⟩
  · have HNO := Lib.hid (R.front_no1 HNE.out hno)
    clear hno
    go_wp2_with fail
    refine (cutsign s 93 _ (HM.out.stay B0.out) (by omega)).mono ?_
    rintro e w2 ⟨b2, hor2⟩
    have B2 := Lib.hid (B0.out.trans (b2.mono B0.out.size))
    have q2 := (b2.block _ HS0.out).trans C0.out
    have c2 : w2.cell? ⟨w.heap.size, 0, none⟩ = some (.slice none 0 0) := by simp [World.cell?, q2]
    have f2 : w2.frozen? ⟨w.heap.size, 0, none⟩ = false := by simp [World.frozen?, q2]
    clear b2 q2
    rcases hor2 with ⟨-, rfl⟩ | ⟨x, y, -, -, rfl⟩
    all_goals
      go_wp2_with fail
      refine bodyPost_ret (v := .tuple #[.agg #[.slice none 0 0], .string ⟨#[]⟩, .bool false]) (by simp [results, Tryd.results25, go_sem, *]) rfl ⟨.inl ⟨HNO.out, rfl⟩, B2.out.setCell (p := ⟨w.heap.size, 0, none⟩) (Nat.le_refl _) _⟩
  · have HQ := Lib.hid hq
    clear hq
    have hql : q.length < 4000000000 := by
      have h1 : s.data.toList.length = s.size := by simp
      rw [HQ.out, List.length_cons] at h1
      omega
    go_wp2_with fail
    refine (cutsign ⟨q.toArray⟩ 93 _ (HM.out.stay B0.out) (by simp [ByteArray.size]; omega)).mono ?_
    rintro e w2 ⟨b2, hor2⟩
    have hqd : (⟨q.toArray⟩ : ByteArray).data.toList = q := by simp
    rw [hqd] at hor2
    have B2 := Lib.hid (B0.out.trans (b2.mono B0.out.size))
    have q2 := (b2.block _ HS0.out).trans C0.out
    have C2 := Lib.hid q2
    have c2 : w2.cell? ⟨w.heap.size, 0, none⟩ = some (.slice none 0 0) := by simp [World.cell?, q2]
    have f2 : w2.frozen? ⟨w.heap.size, 0, none⟩ = false := by simp [World.frozen?, q2]
    clear b2 q2 hqd
    rcases hor2 with ⟨hno, rfl⟩ | ⟨x, y, hxy, hx, rfl⟩
    · have HNO := Lib.hid (show R.parsePages s.data.toList = none by rw [HQ.out]; exact R.front_no2 hno)
      clear hno
      go_wp2_with fail
      refine bodyPost_ret (v := .tuple #[.agg #[.slice none 0 0], .string ⟨#[]⟩, .bool false]) (by simp [results, Tryd.results25, go_sem, *]) rfl ⟨.inl ⟨HNO.out, rfl⟩, B2.out.setCell (p := ⟨w.heap.size, 0, none⟩) (Nat.le_refl _) _⟩
    · have HXY := Lib.hid (show s.data.toList = 91 :: (x ++ 93 :: y) by rw [HQ.out, hxy])
      have HX := Lib.hid hx
      have hxl : x.length + y.length + 1 = q.length := by rw [hxy]; simp; omega
      have hxd : (⟨x.toArray⟩ : ByteArray).data.toList = x := by simp
      have PR := Lib.hid (iprows ⟨x.toArray⟩ (by simp [ByteArray.size]; omega) w2 (HM.out.stay B2.out) (laid_stay HL.out B2.out))
      rw [hxd] at PR
      clear hxy hx hxd
      go_wp2_with fail
      refine PR.out.mono ?_
      rintro e w3 ⟨⟨a, n, c, rfl, hn, ho⟩, b3⟩
      have hs2 : w.heap.size < w2.heap.size := lt_of_block C2.out
      have B3 := Lib.hid (B2.out.trans (b3.mono B2.out.size))
      have q3 := (b3.block _ hs2).trans C2.out
      have b4 := (Below.refl w3.heap.size w3).alloc (Nat.le_refl _) (.cells #[.slice a n c] 41)
      have hs3 : w.heap.size < w3.heap.size := lt_of_block q3
      have q4 := (b4.block _ hs3).trans q3
      have c4 : (w3.alloc (.cells #[.slice a n c] 41)).cell? ⟨w.heap.size, 0, none⟩ = some (.slice none 0 0) := by simp [World.cell?, q4]
      have f4 : (w3.alloc (.cells #[.slice a n c] 41)).frozen? ⟨w.heap.size, 0, none⟩ = false := by simp [World.frozen?, q4]
      have B4 := Lib.hid (B3.out.trans (b4.mono B3.out.size))
      have C4 := Lib.hid q4
      have D4 := Lib.hid (heap_alloc_new w3 (.cells #[.slice a n c] 41))
      have O3 := Lib.hid ho
      have K4 := Lib.hid b4
      have hs4 : w3.heap.size < (w3.alloc (.cells #[.slice a n c] 41)).heap.size := by simp
      have c3 : w3.cell? ⟨w.heap.size, 0, none⟩ = some (.slice none 0 0) := by simp [World.cell?, q3]
      clear b4 q3 q4 ho PR c2 f2
      cases hpr : parseRows x with
      | none =>
        have HNO := Lib.hid (show R.parsePages s.data.toList = none by rw [HXY.out]; exact R.front_no3 HX.out (fun M h => by rw [hpr] at h; cases h))
        clear hpr O3
        go_wp2_with fail
        refine bodyPost_ret (v := .tuple #[.agg #[.slice none 0 0], .string ⟨#[]⟩, .bool false]) (by simp [results, Tryd.results25, go_sem, *]) rfl ⟨.inl ⟨HNO.out, rfl⟩, (B3.out.setCell (p := ⟨w.heap.size, 0, none⟩) (Nat.le_refl _) _).alloc (by have := B3.out.size; simpa using this) _⟩
      | some M =>
        clear c3
        rw [hpr] at O3
        have hrm : Hid (OwnRows w3 w2.heap.size a n M) := O3
        have HWF := Lib.hid (parseRows_wf hpr)
        have HPR := Lib.hid hpr
        have I4 := Lib.hid (SeqIn.keep (in_rows (hrm.out.rows HWF.out) (by unfold maxLen; omega)) K4.out)
        clear hpr
        go_wp2_with fail
        refine (ivalidpage a n c M _ I4.out (by omega)).mono ?_
        rintro e w5 ⟨rfl, b5⟩
        have B5 := Lib.hid (B4.out.trans (b5.mono B4.out.size))
        have K5 := Lib.hid (K4.out.trans (b5.mono (Nat.le_of_lt hs4)))
        have q5 := (b5.block _ (Nat.lt_trans hs3 hs4)).trans C4.out
        have c5 : w5.cell? ⟨w.heap.size, 0, none⟩ = some (.slice none 0 0) := by simp [World.cell?, q5]
        have f5 : w5.frozen? ⟨w.heap.size, 0, none⟩ = false := by simp [World.frozen?, q5]
        have p5 := (b5.block _ hs4).trans D4.out
        have d5 : w5.cell? ⟨w3.heap.size, 0, none⟩ = some (.slice a n c) := by simp [World.cell?, p5]
        clear b5 q5 p5 c4 f4
        cases hv : R.pageOk M with
        | false =>
          have HNO := Lib.hid (show R.parsePages s.data.toList = none by rw [HXY.out]; exact R.front_no3 HX.out (fun M' h => by rw [HPR.out] at h; injection h with h; rw [← h]; exact hv))
          clear hv
          go_wp2_with fail
          refine bodyPost_ret (v := .tuple #[.agg #[.slice none 0 0], .string ⟨#[]⟩, .bool false]) (by simp [results, Tryd.results25, go_sem, *]) rfl ⟨.inl ⟨HNO.out, rfl⟩, B5.out.setCell (p := ⟨w.heap.size, 0, none⟩) (Nat.le_refl _) _⟩
        | true =>
          have hn0 : 0 < n := by
            rcases Nat.eq_zero_or_pos n with h0 | h0
            · have hM : M = [] := List.eq_nil_of_length_eq_zero (by rw [hrm.out.1, h0])
              rw [hM] at hv
              cases hv
            · exact h0
          obtain ⟨⟨F, hF⟩, han⟩ := own_seq hrm.out HWF.out hn hn0
          have hfin : SeqOwn rowRep (w5.setCell ⟨w.heap.size, 0, none⟩ (.slice a n c)) w.heap.size a n M F :=
            ((hF.keep K5.out).stay ((Stay.refl F w5).set _ fun y hy e => by have := (hF.lt y hy).1; omega)).mono (Nat.le_of_lt hs2)
          have HFIN := Lib.hid hfin
          have HY := Lib.hid (show R.parsePages s.data.toList = (R.parsePages y).map (M :: ·) by rw [HXY.out]; exact R.front_yes hv HPR.out)
          have HYL := Lib.hid (show y.length < s.data.toList.length by rw [HXY.out]; simp; omega)
          have HAN := Lib.hid han
          clear hv hfin hF han
          go_wp2_with fail
          refine bodyPost_ret (v := .tuple #[.agg #[.slice a n c], .string ⟨y.toArray⟩, .bool true]) (by simp [results, Tryd.results25, go_sem, *]) rfl ⟨.inr ⟨M, y, a, n, c, F, rfl, HYL.out, HY.out, HFIN.out, fun h => absurd h HAN.out⟩, B5.out.setCell (p := ⟨w.heap.size, 0, none⟩) (Nat.le_refl _) _⟩
/-- What the loop keeps. -/
structure Takes (w : World) (v : Value) (es : List (El pageRep)) (wr : World) : Prop where
  old : Below w.heap.size w wr
  heads : Heads wr w.heap.size v (cellsOf es)
  pages : OwnAll pageRep wr w.heap.size es
  away : ∀ e ∈ es, ∀ y ∈ e.F, v.ownBlock ≠ some y.b
theorem Takes.keep {w wr wr' : World} {v : Value} {es : List (El pageRep)} (h : Takes w v es wr) (hb : Below wr.heap.size wr wr') : Takes w v es wr' :=
  ⟨h.old.trans (hb.mono h.old.size), h.heads.keep hb, h.pages.keep hb, h.away⟩
/-- One page more. -/
theorem Takes.push {w wr w2 w4 : World} {g4 n c n4 c4 : Nat} {a : Option Addr} {v : Value} {es : List (El pageRep)} {M : List R} {F : List Reg} (h : Takes w v es wr) (hb : Below wr.heap.size wr w2) (hF : SeqOwn rowRep w2 wr.heap.size a n M F) (hc : a = none → c = 0)
    (hh : Heads w4 w.heap.size (.slice (some ⟨g4, 0, none⟩) n4 c4) (cellsOf es ++ [.slice a n c])) (hg : w2.grownBy w4 v.ownBlock) (hat : v.ownBlock = some g4 ∨ w2.heap.size ≤ g4) :
    ∃ e : El pageRep, e.x = M ∧ Takes w (.slice (some ⟨g4, 0, none⟩) n4 c4) (es ++ [e]) w4 := by
  have h2 := h.keep hb
  have hpush := h.pages.push (e := ⟨M, (a, n, c), F⟩) hb ⟨hF, hc⟩ h.old.size (Nat.le_refl _)
  have haw : ∀ e ∈ es ++ [(⟨M, (a, n, c), F⟩ : El pageRep)], ∀ y ∈ e.F, v.ownBlock ≠ some y.b := fun e he y hy => by
    rcases List.mem_append.1 he with he | he
    · exact h.away e he y hy
    · rw [List.mem_singleton.1 he] at hy
      intro e2
      have h1 := (h.heads.own _ e2).2
      have h3 := (hF.lt y hy).1
      omega
  refine ⟨⟨M, (a, n, c), F⟩, rfl, ?_⟩
  exact {
    old := h2.old.grown hg h2.old.size (fun k hk => (h2.heads.own k hk).1)
    heads := by rw [cellsOf_snoc]; exact hh
    pages := hpush.stay fun e he => Stay.of_grown hg (fun y hy => (pageRep.own_lt (hpush.1 e he) y hy).2) (fun y hy => haw e he y hy)
    away := fun e he y hy => by
      simp only [Value.ownBlock]
      intro e2
      injection e2 with e2
      rcases hat with hat | hat
      · exact haw e he y hy (by rw [hat, e2])
      · have := (pageRep.own_lt (hpush.1 e he) y hy).2
        omega }
theorem heads_nil (w : World) (B : Nat) : Heads w B (.slice none 0 0) [] := ⟨rfl, .inl ⟨rfl, rfl⟩⟩
def strLen : Value → Nat
  | .string s => s.size
  | _ => 0
set_option maxRecDepth 100000 in
theorem ippages (s : ByteArray) (hs : s.size ≤ 2000000) (w : World) (hm : Mx w) (hL : Tab w ∧ Syn w) : Calls Tryd.prog 11 #[.string s] w (PagesGive s.data.toList w) := by
  have HM := Lib.hid hm
  have HL := Lib.hid hL
  have hsl : s.data.toList.length = s.size := by simp
  obtain ⟨l0, hl0⟩ : ∃ l0, l0 = s.data.toList := ⟨_, rfl⟩
  have hs0 : s = ⟨l0.toArray⟩ := by rw [hl0]
  rw [← hl0] at hsl ⊢
  have HLN := Lib.hid (show l0.length ≤ 2000000 by omega)
  subst hs0
  clear hm hL hl0 hsl hs
  have T0 : Hid (Takes w (.slice none 0 0) [] w) := ⟨Below.refl _ _, heads_nil _ _, OwnAll.nil _ _ _, fun e he => by cases he⟩
  go_enter Tryd.func11, Tryd.ntmps11
  go_wp2_with fail
  go_loopw [0, 4] (fun u v wr => ∃ (l : List UInt8) (y : Value) (es : List (El pageRep)), u = .string ⟨l.toArray⟩ ∧ y = v ∧ Hid (l.length + es.length ≤ l0.length) ∧ Hid (R.parsePages l0 = (R.parsePages l).map (es.map El.x ++ ·)) ∧ Hid (Takes w y es wr)) (fun u _ _ => strLen u)
  case atStart => exact ⟨l0, _, [], rfl, rfl, Nat.le_refl _, (by show _ = _; simp), T0⟩
  case round =>
    obtain ⟨l, y, es, rfl, rfl, hle, hpl, hT⟩ := hrel
    have hsz : w.heap.size ≤ wr.heap.size := hT.out.old.size
    have hlen : l.length ≤ 2000000 := by have := hle.out; have := HLN.out; omega
    have hel : es.length ≤ 2000000 := by have := hle.out; have := HLN.out; omega
    have hcl : (cellsOf es).length = es.length := by rw [cellsOf_length]; exact Nat.mul_one _
    have hld : (⟨l.toArray⟩ : ByteArray).data.toList = l := by simp
    by_cases hne : l = []
    · subst hne
      obtain ⟨ay, cy, rfl⟩ := hT.out.heads.slice
      have hfin : PagesGive l0 w (.returned (.tuple #[.slice ay (cellsOf es).length cy, .bool true])) wr := by
        obtain ⟨F, hF⟩ := pages_done hT.out.heads hT.out.pages hT.out.away (by unfold maxLen; omega)
        exact pagesgive_yes (by rw [hpl.out, R.parsePages_nil]; simp) hF hT.out.old
      have HFIN := Lib.hid hfin
      clear hfin hld
      go_wp2_with fail
      go_ret2
      exact HFIN.out
    · have hbne : l.isEmpty = false := by simpa using hne
      have FR := Lib.hid (ipfront ⟨l.toArray⟩ (by simp [ByteArray.size]; omega) (by rw [hld]; exact hne) wr (HM.out.stay hT.out.old) (laid_stay HL.out hT.out.old))
      rw [hld] at FR
      clear hld hne
      go_wp2_with fail
      refine FR.out.mono ?_
      rintro e w1 ⟨hans, b1⟩
      have T1 := Lib.hid (hT.out.keep b1)
      have B1 := Lib.hid b1
      clear b1 FR
      rcases hans with ⟨hno, rfl⟩ | ⟨M, t, a, n, c, F, rfl, htl, hmap, hF, hac⟩
      · have HNO := Lib.hid (show R.parsePages l0 = none by rw [hpl.out, hno]; rfl)
        clear hno
        go_wp2_with fail
        go_ret2
        exact pagesgive_no HNO.out (T1.out.old.alloc T1.out.old.size _)
      · have HF := Lib.hid hF
        have HAC := Lib.hid hac
        have HMP := Lib.hid (show R.parsePages l0 = (R.parsePages t).map (es.map El.x ++ [M] ++ ·) by rw [hpl.out, hmap, Option.map_map]; congr 1; funext x; simp)
        have HH1 := Lib.hid T1.out.heads
        have hs1 : w.heap.size ≤ w1.heap.size := T1.out.old.size
        have bx := (Below.refl w1.heap.size w1).alloc (Nat.le_refl _) (.cells #[.slice a n c] 41)
        have BX := Lib.hid (B1.out.trans (bx.mono B1.out.size))
        have HHX := Lib.hid (HH1.out.keep bx)
        have FX := Lib.hid (HF.out.keep bx)
        have hsx : w.heap.size ≤ (w1.alloc (.cells #[.slice a n c] 41)).heap.size := by simp; omega
        clear hF hac hmap bx
        go_wp2_with (at_builtin; refine wpList_pushP (.tmp 18) (.tmp 20) (w1.heap.size + 1) (by simp) rfl rfl rfl rfl HHX.out hsx (by omega) rfl ?_; intro g4 c4 w4 hh4 hg4 hat4)
        obtain ⟨e4, he4, T4⟩ := hT.out.push BX.out FX.out HAC.out hh4 hg4 hat4
        rw [hcl] at T4
        have HT4 := Lib.hid T4
        have HE4 := Lib.hid he4
        clear T4 hh4 hg4 hat4 he4
        go_wp2_with fail
        go_roundw
        case rel => exact ⟨t, _, es ++ [e4], rfl, rfl, (by show _ ≤ _; rw [List.length_append, List.length_singleton]; have := hle.out; omega), (by show _ = _; rw [HMP.out, List.map_append, List.map_singleton, HE4.out]), HT4⟩
        case measure => simp [strLen, ByteArray.size]; omega
end Go.Proofs.YtoiobaiiammehaaDoor
