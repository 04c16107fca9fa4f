/- The reference's ParsePages, by contract. -/
import Derived.Test.YtoiobaiiammehaaDoorFmtPages
import Derived.Test.YtoiobaiiammehaaDoorProwsM
import Derived.Test.YtoiobaiiammehaaDoorCuts
import Derived.Test.YtoiobaiiammehaaDoorPg
namespace Go.Proofs.YtoiobaiiammehaaDoor
open Go.RowKit Go.Lib

theorem heads_apart {w : World} {B g : Nat} {v : Value} {cs : List Value} {xs : Array Value} {fz : Nat × Nat} (h : Heads w B v cs) (hg : w.heap[g]? = some (.cells xs 9 fz)) : v.ownBlock ≠ some g := by
  intro e
  obtain ⟨h1, ⟨rfl, h0⟩ | ⟨g', cap, cur, rfl, hB, hh, -⟩⟩ := h
  · simp [Value.ownBlock] at e
  · simp only [Value.ownBlock] at e
    injection e with e
    subst e
    rw [hh] at hg
    simp at hg
/-- What ParsePages answers: a slice in memory of its own, and whether. -/
def PagesGive (l : List UInt8) (w : World) (e : Ending) (w' : World) : Prop := ∃ a n c F, e = .returned (.tuple #[.slice a n c, .bool (R.parsePages l).isSome]) ∧ SeqOwn pageRep w' w.heap.size a n ((R.parsePages l).getD []) F ∧ Below w.heap.size w w'
theorem pagesgive_no {l : List UInt8} {w w' : World} {a : Option Addr} {cap : Nat} (h : R.parsePages l = none) (hb : Below w.heap.size w w') : PagesGive l w (.returned (.tuple #[.slice a 0 cap, .bool false])) w' := by
  refine ⟨a, 0, cap, [], ?_, ?_, hb⟩
  · rw [h]; rfl
  · rw [h]; exact ⟨rfl, Nat.zero_le _, .inl ⟨rfl, rfl⟩⟩
theorem pagesgive_yes {l : List UInt8} {w w' : World} {a : Option Addr} {n cap : Nat} {P : List (List R)} {F : List Reg} (h : R.parsePages l = some P) (ho : SeqOwn pageRep w' w.heap.size a n P F) (hb : Below w.heap.size w w') : PagesGive l w (.returned (.tuple #[.slice a n cap, .bool true])) w' := by
  refine ⟨a, n, cap, F, ?_, ?_, hb⟩
  · rw [h]; rfl
  · rw [h]; exact ho
theorem parsePages_bad {l : List UInt8} (t : Nat) (ht0 : t < (Cut.cut 93 l).length) (ht : t + 1 < (Cut.cut 93 l).length) (h : R.readPage (Cut.cut 93 l)[t] = none) : R.parsePages l = none := by
  unfold R.parsePages
  have hd : t < (Cut.cut 93 l).dropLast.length := by rw [List.length_dropLast]; omega
  have := R.readPages_bad (Cut.cut 93 l).dropLast t hd (by rw [List.getElem_dropLast]; exact h)
  rw [this]
theorem parsePages_all {l : List UInt8} {P : List (List R)} (h : R.readPages (Cut.cut 93 l).dropLast = some P) : R.parsePages l = if R.allPages P && decide (R.fmtPages P = l) then some P else none := by
  unfold R.parsePages
  rw [h]
/-- What the loop keeps. -/
structure Reads (w : World) (g : Nat) (ps : List (List UInt8)) (v : Value) (es : List (El pageRep)) (wr : World) : Prop where
  old : Below w.heap.size w wr
  heads : Heads wr w.heap.size v (cellsOf es)
  pages : OwnAll pageRep wr w.heap.size es
  away : ∀ e ∈ es, ∀ y ∈ e.F, v.ownBlock ≠ some y.b
  strs : IsStrs wr g ps
theorem Reads.keep {w wr wr' : World} {g : Nat} {ps : List (List UInt8)} {v : Value} {es : List (El pageRep)} (h : Reads w g ps v es wr) (hb : Below wr.heap.size wr wr') : Reads w g ps v es wr' :=
  ⟨h.old.trans (hb.mono h.old.size), h.heads.keep hb, h.pages.keep hb, h.away, h.strs.keep hb⟩
/-- One page more. -/
theorem Reads.push {w wr w2 w4 : World} {g g4 n c n4 c4 : Nat} {a : Option Addr} {ps : List (List UInt8)} {v : Value} {es : List (El pageRep)} {M : List R} {F : List Reg} (h : Reads w g ps v es wr) (hb : Below wr.heap.size wr w2) (hF : SeqOwn rowRep w2 wr.heap.size a n M F) (hc : a = none → c = 0)
    (hh : Heads w4 w.heap.size (.slice (some ⟨g4, 0, none⟩) n4 c4) (cellsOf es ++ [.slice a n c])) (hg : w2.grownBy w4 v.ownBlock) (hat : v.ownBlock = some g4 ∨ w2.heap.size ≤ g4) :
    ∃ e : El pageRep, e.x = M ∧ Reads w g ps (.slice (some ⟨g4, 0, none⟩) n4 c4) (es ++ [e]) w4 := by
  have h2 := h.keep hb
  have hpush := h.pages.push (e := ⟨M, (a, n, c), F⟩) hb ⟨hF, hc⟩ h.old.size (Nat.le_refl _)
  have haw : ∀ e ∈ es ++ [(⟨M, (a, n, c), F⟩ : El pageRep)], ∀ y ∈ e.F, v.ownBlock ≠ some y.b := fun e he y hy => by
    rcases List.mem_append.1 he with he | he
    · exact h.away e he y hy
    · rw [List.mem_singleton.1 he] at hy
      intro e2
      have h1 := (h.heads.own _ e2).2
      have h3 := (hF.lt y hy).1
      omega
  refine ⟨⟨M, (a, n, c), F⟩, rfl, ?_⟩
  exact {
    old := h2.old.grown hg h2.old.size (fun k hk => (h2.heads.own k hk).1)
    heads := by rw [cellsOf_snoc]; exact hh
    pages := hpush.stay fun e he => Stay.of_grown hg (fun y hy => (pageRep.own_lt (hpush.1 e he) y hy).2) (fun y hy => haw e he y hy)
    away := fun e he y hy => by
      simp only [Value.ownBlock]
      intro e2
      injection e2 with e2
      rcases hat with hat | hat
      · exact haw e he y hy (by rw [hat, e2])
      · have := (pageRep.own_lt (hpush.1 e he) y hy).2
        omega
    strs := by
      obtain ⟨⟨cs, fz, hcs⟩, -⟩ := h2.strs
      exact h2.strs.same (hg.block g (lt_of_block hcs) (fun e => heads_apart h2.heads hcs e.symm)) }
set_option maxRecDepth 100000 in
set_option maxHeartbeats 2000000 in
theorem sppages (s : ByteArray) (hs : s.size ≤ 2000000) (w : World) : Calls Tryd.prog 10 #[.string s] w (PagesGive s.data.toList w) := by
  have hsl : s.data.toList.length = s.size := by simp
  have hcl := Cut.cut_length 93 s.data.toList
  rw [hsl] at hcl
  have hmem : ∀ (t : Nat) (ht : t < (Cut.cut 93 s.data.toList).length), (Cut.cut 93 s.data.toList)[t].length ≤ s.size := by
    intro t ht
    have hj := Cut.join_cut 93 s.data.toList
    rw [← hsl]
    conv => rhs; rw [← hj]
    exact Cut.join_mem_length _ [93] _ (List.getElem_mem ht)
  have HM := Lib.hid hmem
  have hne := Cut.cut_ne 93 s.data.toList
  obtain ⟨ps, hps⟩ : ∃ ps, ps = Cut.cut 93 s.data.toList := ⟨_, rfl⟩
  have HBAD := Lib.hid (fun t => @parsePages_bad s.data.toList t)
  have HALL := Lib.hid (fun P => @parsePages_all s.data.toList P)
  rw [← hps] at HM hcl HBAD HALL hne
  have hps1 : 1 ≤ ps.length := List.length_pos_iff.2 hne
  have HC := Lib.hid hps
  have be := (Below.refl w.heap.size w).alloc (Nat.le_refl _) (.cells #[] 41)
  have H0 := Lib.hid (heads_zero w w.heap.size (Nat.le_refl _))
  have B0 := Lib.hid be
  clear hps hsl hmem hne be
  go_enter Tryd.func10, Tryd.ntmps10
  go_wp2_with fail
  refine (scut s 93 93 rfl (by omega) _).mono ?_
  rintro e w1 ⟨g, cap, rfl, hg, hst, b1⟩
  rw [← HC.out] at hst ⊢
  have R0 : Hid (Reads w g ps (.slice (some ⟨w.heap.size, 0, none⟩) 0 0) [] w1) := ⟨B0.out.trans (b1.mono B0.out.size), H0.out.keep b1, OwnAll.nil _ _ _, fun e he => (by cases he), hst⟩
  clear b1 hst H0 B0
  go_wp2_with fail
  go_loopw [4, 6] (fun v i wr => ∃ (t : Nat) (y : Value) (es : List (El pageRep)), y = v ∧ i = .int .i64 t ∧ t + 1 ≤ ps.length ∧ Hid (R.readPages (ps.take t) = some (es.map El.x)) ∧ Hid (Reads w g ps y es wr)) (fun _ i _ => ps.length - (RowKit.intOf i).toNat)
  case atStart => exact ⟨0, _, [], rfl, rfl, by omega, rfl, R0⟩
  case round =>
    obtain ⟨t, y, es, rfl, rfl, ht, hread, hR⟩ := hrel
    have hsz : w.heap.size ≤ wr.heap.size := hR.out.old.size
    have hel : es.length = t := by
      have h1 := R.readPages_length hread.out
      rw [List.length_map, List.length_take] at h1
      omega
    by_cases hlt : t + 1 < ps.length
    · have htl : t < ps.length := by omega
      have hc : wr.cell? ⟨g, t, none⟩ = some (.string ⟨ps[t].toArray⟩) := hR.out.strs.2 t htl
      have hi0 : (0 : Int) ≤ (t : Int) := by omega
      have hi1 : (t : Int) < (ps.length : Int) := by omega
      have hi2 : (t : Int) + 1 < (ps.length : Int) := by omega
      obtain ⟨p, hp⟩ : ∃ p, p = ps[t] := ⟨_, rfl⟩
      rw [← hp] at hc
      have hpl : p.length ≤ s.size := by rw [hp]; exact HM.out t htl
      have HN := Lib.hid (R.readPages_next ps t htl _ hread.out)
      have HB := Lib.hid (HBAD.out t htl hlt)
      rw [← hp] at HN HB
      clear hp
      cases p with
      | nil =>
        have HNO := Lib.hid (HB.out rfl)
        clear HN HB
        go_wp2_with fail
        go_ret2
        exact pagesgive_no HNO.out (hR.out.old.alloc hsz _)
      | cons x q =>
        have hg0 : ∀ (h : 0 < (⟨(x :: q).toArray⟩ : ByteArray).size), (⟨(x :: q).toArray⟩ : ByteArray)[0]'h = x := fun h => rfl
        by_cases hx : x = 91
        · subst hx
          have PR := Lib.hid (sprowsM ⟨q.toArray⟩ (by simp [ByteArray.size]; simp at hpl; omega))
          have hpd : (⟨q.toArray⟩ : ByteArray).data.toList = q := by simp
          rw [hpd] at PR
          have hex : (⟨(91 :: q).toArray⟩ : ByteArray).extract 1 (q.length + 1) = ⟨q.toArray⟩ := by rw [piece]; simp
          have hrd : R.readPage (91 :: q) = parseRows q := rfl
          rw [hrd] at HN HB
          clear hpd hrd
          go_wp2_with fail
          refine (PR.out _).mono ?_
          rintro e w2 ⟨⟨a2, n2, c2, F2, rfl, ho2, hc2⟩, b2⟩
          have R2 := Lib.hid (hR.out.keep b2)
          have O2 := Lib.hid ho2
          have B2 := Lib.hid b2
          have hz2 : w.heap.size ≤ w2.heap.size := R2.out.old.size
          clear b2 ho2 hex hg0
          cases hpr : parseRows q with
          | none =>
            have HNO := Lib.hid (HB.out hpr)
            clear hpr HN HB
            go_wp2_with fail
            go_ret2
            exact pagesgive_no HNO.out (R2.out.old.alloc hz2 _)
          | some M =>
            rw [hpr] at HN O2
            have hrm : Hid (SeqOwn rowRep w2 wr.heap.size a2 n2 M F2) := O2
            have HH2 := Lib.hid R2.out.heads
            have hcl2 : (cellsOf es).length = es.length := by rw [cellsOf_length]; exact Nat.mul_one _
            have hlen2 : (cellsOf es).length + 1 ≤ 1000000000000 := by omega
            clear hpr O2
            go_wp2_with (at_builtin; refine wpList_pushP (.tmp 45) (.tmp 48) w2.heap.size rfl rfl rfl rfl rfl HH2.out hz2 hlen2 rfl ?_; intro g4 c4 w4 hh4 hg4 hat4)
            obtain ⟨e4, he4, R4⟩ := hR.out.push B2.out hrm.out hc2 hh4 hg4 hat4
            rw [hcl2, hel] at R4
            have HR4 := Lib.hid R4
            clear R4 hh4 hg4 hat4
            go_roundw
            case rel =>
              refine ⟨t + 1, _, es ++ [e4], rfl, by go_num, by omega, ?_, HR4⟩
              show _ = _
              rw [HN.out, List.map_append]
              simp [he4]
            case measure => simp [RowKit.intOf]; omega
        · have hrd : R.readPage (x :: q) = none := by
            unfold R.readPage
            split
            · rename_i h1; injection h1 with h1; exact absurd h1 hx
            · rfl
          have HNO := Lib.hid (HB.out hrd)
          clear hrd HN HB
          have hxb : ((x.toNat : Int) == 91) = false := by
            rw [beq_eq_false_iff_ne]
            intro e
            apply hx
            apply UInt8.toNat_inj.1
            have : x.toNat = 91 := by omega
            rw [this]; rfl
          go_wp2_with fail
          go_ret2
          exact pagesgive_no HNO.out (hR.out.old.alloc hsz _)
    · have hkl : t + 1 = ps.length := by omega
      have hdl : ps.take t = ps.dropLast := by rw [List.dropLast_eq_take]; congr 1; omega
      obtain ⟨P, hP⟩ : ∃ P, P = es.map El.x := ⟨_, rfl⟩
      have hrd := hread.out
      rw [hdl, ← hP] at hrd
      have HAN := Lib.hid (HALL.out P hrd)
      obtain ⟨ay, cy, hy⟩ := hR.out.heads.slice
      have hcl2 : (cellsOf es).length = es.length := by rw [cellsOf_length]; exact Nat.mul_one _
      rw [hcl2, hel] at hy
      have hfin : ∃ F, SeqOwn pageRep wr w.heap.size ay t P F := by
        obtain ⟨F, hF⟩ := pages_done (a := ay) (n := t) (c := cy) (by rw [← hy]; exact hR.out.heads) hR.out.pages (fun e he y hy2 => by rw [← hy]; exact hR.out.away e he y hy2) (by unfold maxLen; omega)
        exact ⟨F, by rw [hP]; exact hF⟩
      obtain ⟨F, hF⟩ := hfin
      have HF := Lib.hid hF
      have HOLD := Lib.hid hR.out.old
      subst hy
      have hi2 : ¬ ((t : Int) + 1 < (ps.length : Int)) := by omega
      have hfl : Hid (P.flatten.length ≤ 1000000000000) := by
        have h1 := R.readPages_flat hrd
        have h2 : P.length = t := by rw [hP, List.length_map, hel]
        show _ ≤ _
        omega
      clear hdl hrd hP hF hkl hR hread
      go_wp2_with fail
      refine (sallpages ay t cy P _ HF.out.inn hfl.out).mono ?_
      rintro e w2 ⟨rfl, b2⟩
      have F2 := Lib.hid (HF.out.keep b2)
      have B2 := Lib.hid (HOLD.out.trans (b2.mono hsz))
      have hz2 : w.heap.size ≤ w2.heap.size := B2.out.size
      clear b2 HF HOLD
      cases hok : R.allPages P with
      | false =>
        have HNO := Lib.hid (show R.parsePages s.data.toList = none by rw [HAN.out, hok]; rfl)
        clear hok
        go_wp2_with fail
        go_ret2
        exact pagesgive_no HNO.out (B2.out.alloc hz2 _)
      | true =>
        have HOK := Lib.hid hok
        clear hok
        go_wp2_with fail
        refine (sfpages ay t cy P _ F2.out.inn (by omega) hfl.out).mono ?_
        rintro e w3 ⟨rfl, b3⟩
        have F3 := Lib.hid (F2.out.keep b3)
        have B3 := Lib.hid (B2.out.trans (b3.mono hz2))
        have hz3 : w.heap.size ≤ w3.heap.size := B3.out.size
        clear b3 F2 B2
        by_cases hf : R.fmtPages P = s.data.toList
        · have HY := Lib.hid (show R.parsePages s.data.toList = some P by rw [HAN.out, HOK.out, decide_eq_true hf]; rfl)
          have hf2 : (⟨(R.fmtPages P).toArray⟩ : ByteArray) = s := by rw [hf]
          rw [hf2]
          clear hf hf2
          go_wp2_with fail
          go_ret2
          exact pagesgive_yes HY.out F3.out B3.out
        · have HNO := Lib.hid (show R.parsePages s.data.toList = none by rw [HAN.out, HOK.out, decide_eq_false hf]; rfl)
          have hd : ((R.fmtPages P) == s.toList) = false := by
            rw [beq_eq_false_iff_ne, ByteArray.toList_eq]
            exact hf
          clear hf
          go_wp2_with fail
          go_ret2
          exact pagesgive_no HNO.out (B3.out.alloc hz3 _)
end Go.Proofs.YtoiobaiiammehaaDoor
