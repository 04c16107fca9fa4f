/- The reference's PackPages, by contract. -/
import Derived.Test.YtoiobaiiammehaaPagesS
import Derived.Test.YtoiobaiiammehaaOverS
import Derived.Test.YtoiobaiiammehaaHeads
import Derived.Test.YtoiobaiiammehaaOwned
import Derived.Deep.QuietTactic
import Derived.BigQuiet
import Derived.StillTailTactics
namespace Go.Proofs.Ytoiobaiiammehaa
open Go.RowKit

/-- A page's head, as a value. -/
def El.v (e : El pageRep) : Value := .slice e.h.1 e.h.2.1 e.h.2.2
/-- What the loop of PackPages keeps: the page that is being filled lies in the variable's block, its rows in a block of their own; the full pages' heads in another; the full pages' rows apart from all of these. -/
structure Fills (w : World) (B G : Nat) (s : List (List R) × List R) (v : Value) (es : List (El pageRep)) (wr : World) (vp : Value) : Prop where
  old : Below B w wr
  var : wr.heap[G]? = some (.cells #[vp] 29 (0, 0))
  low : B ≤ G
  rows : Mine wr B vp s.2
  heads : Heads wr B v (cellsOf es)
  pages : OwnAll pageRep wr B es
  list : es.map El.x = s.1
  vG : v.ownBlock ≠ some G
  pG : vp.ownBlock ≠ some G
  pv : ∀ k, vp.ownBlock = some k → v.ownBlock ≠ some k
  away : ∀ e ∈ es, ∀ y ∈ e.F, y.b ≠ G ∧ v.ownBlock ≠ some y.b ∧ vp.ownBlock ≠ some y.b
  wf : ∀ r ∈ s.2, r.wf
  whole : ∀ e ∈ es, Mine wr B e.v e.x ∧ ∀ k, e.v.ownBlock = some k → k ≠ G ∧ v.ownBlock ≠ some k ∧ vp.ownBlock ≠ some k
theorem Fills.keep {w wr wr' : World} {B G : Nat} {s : List (List R) × List R} {v vp : Value} {es : List (El pageRep)} (h : Fills w B G s v es wr vp) (hb : Below wr.heap.size wr wr') (hB : B ≤ wr.heap.size) : Fills w B G s v es wr' vp :=
  ⟨h.old.trans (hb.mono hB), (hb.block G (lt_of_block h.var)).trans h.var, h.low, h.rows.keep hb, h.heads.keep hb, h.pages.keep hb, h.list, h.vG, h.pG, h.pv, h.away, h.wf, fun e he => ⟨(h.whole e he).1.keep hb, (h.whole e he).2⟩⟩
/-- The page is full: its head is appended. -/
theorem Fills.push {w wr w' : World} {B G g gp np cp : Nat} {s : List (List R) × List R} {v : Value} {es : List (El pageRep)} (h : Fills w B G s v es wr (.slice (some ⟨gp, 0, none⟩) np cp)) (hm : np ≤ maxLen)
    (hg : wr.grownBy w' v.ownBlock) (hat : v.ownBlock = some g ∨ wr.heap.size ≤ g) :
    ∃ e : El pageRep, cellsOf (es ++ [e]) = cellsOf es ++ [.slice (some ⟨gp, 0, none⟩) np cp] ∧ OwnAll pageRep w' B (es ++ [e]) ∧ (es ++ [e]).map El.x = s.1 ++ [s.2] ∧ g ≠ G ∧ (∀ f ∈ es ++ [e], ∀ y ∈ f.F, y.b ≠ G ∧ y.b ≠ g) ∧ ∀ f ∈ es ++ [e], Mine w' B f.v f.x ∧ ∀ k, f.v.ownBlock = some k → k ≠ G ∧ k ≠ g := by
  have hGl := lt_of_block h.var
  have hgpl : gp < wr.heap.size := (World.ownsRow.lt h.rows gp rfl).2
  have hgG : g ≠ G := by
    rcases hat with hat | hat
    · intro e; exact h.vG (by rw [hat, e])
    · omega
  have hrows' : Mine w' B (.slice (some ⟨gp, 0, none⟩) np cp) s.2 := h.rows.grown hg fun k hk => h.pv k hk
  obtain ⟨F, hF, hFb⟩ := rows_own hrows' h.wf hm
  have hgpG : gp ≠ G := fun e => h.pG (by rw [← e]; rfl)
  have hgpg : gp ≠ g := by
    rcases hat with hat | hat
    · intro e; exact h.pv gp rfl (by rw [hat, e])
    · omega
  have hes' : OwnAll pageRep w' B es := h.pages.stay fun e he => Stay.of_grown hg (fun y hy => (pageRep.own_lt (h.pages.1 e he) y hy).2) (fun y hy => (h.away e he y hy).2.1)
  refine ⟨⟨s.2, (some ⟨gp, 0, none⟩, np, cp), F⟩, by rw [cellsOf_snoc]; rfl, ⟨fun e he => ?_, ?_⟩, by rw [List.map_append, h.list]; rfl, hgG, fun e he y hy => ?_, fun e he => ?_⟩
  · rcases List.mem_append.1 he with he | he
    · exact hes'.1 e he
    · rw [List.mem_singleton.1 he]; exact ⟨hF, fun e => by cases e⟩
  · rw [List.pairwise_append]
    refine ⟨hes'.2, List.pairwise_singleton _ _, fun e he f hf x hx y hy => .inl ?_⟩
    rw [List.mem_singleton.1 hf] at hy
    rw [hFb y hy]
    intro e2
    exact (h.away e he x hx).2.2 (by rw [e2]; rfl)
  · rcases List.mem_append.1 he with he | he
    · refine ⟨(h.away e he y hy).1, fun e2 => ?_⟩
      have hyl := (pageRep.own_lt (h.pages.1 e he) y hy).2
      rcases hat with hat | hat
      · exact (h.away e he y hy).2.1 (by rw [hat, e2])
      · omega
    · rw [List.mem_singleton.1 he] at hy
      rw [hFb y hy]
      exact ⟨hgpG, hgpg⟩
  · rcases List.mem_append.1 he with he | he
    · obtain ⟨h1, h2⟩ := h.whole e he
      refine ⟨h1.grown hg fun k hk => (h2 k hk).2.1, fun k hk => ⟨(h2 k hk).1, fun e2 => ?_⟩⟩
      rcases hat with hat | hat
      · exact (h2 k hk).2.1 (by rw [hat, e2])
      · have := (World.ownsRow.lt h1 k hk).2
        omega
    · rw [List.mem_singleton.1 he]
      refine ⟨hrows', fun k hk => ?_⟩
      have hk' : gp = k := by simp only [El.v, Value.ownBlock] at hk; injection hk
      rw [← hk']
      exact ⟨hgpG, hgpg⟩
/-- .. and the variable is emptied. -/
theorem Fills.full {w wr w' : World} {B G g n c gp np cp : Nat} {s : List (List R) × List R} {v : Value} {es : List (El pageRep)} (h : Fills w B G s v es wr (.slice (some ⟨gp, 0, none⟩) np cp)) (hB : B ≤ wr.heap.size) (hm : np ≤ maxLen)
    (hh : Heads w' B (.slice (some ⟨g, 0, none⟩) n c) (cellsOf es ++ [.slice (some ⟨gp, 0, none⟩) np cp])) (hg : wr.grownBy w' v.ownBlock) (hat : v.ownBlock = some g ∨ wr.heap.size ≤ g) :
    ∃ e : El pageRep, Fills w B G (s.1 ++ [s.2], []) (.slice (some ⟨g, 0, none⟩) n c) (es ++ [e]) (w'.setCell ⟨G, 0, none⟩ (.slice none 0 0)) (.slice none 0 0) := by
  obtain ⟨e, hcs, hall, hli, hgG, haw, hwh⟩ := h.push hm hg hat
  have hblk := (hg.block G (lt_of_block h.var) (fun e => h.vG e.symm)).trans h.var
  refine ⟨e, ?_⟩
  exact {
    old := (h.old.grown hg hB (fun k hk => (h.heads.own k hk).1)).setCell h.low _
    var := Joins.block_setCell hblk (i := 0) _
    low := h.low
    rows := mine_none _ _
    heads := by
      rw [hcs]
      exact hh.far fun k hk _ => Below.heap_setCell w' ⟨G, 0, none⟩ _ k (fun e => by simp only [Value.ownBlock] at hk; injection hk with hk; exact hgG (hk.trans e))
    pages := hall.stay fun e he => (Stay.refl _ _).set _ fun y hy => (haw e he y hy).1
    list := hli
    vG := by simp only [Value.ownBlock]; intro e; injection e with e; exact hgG e
    pG := by simp [Value.ownBlock]
    pv := fun k hk => by simp [Value.ownBlock] at hk
    away := fun e he y hy => by
      refine ⟨(haw e he y hy).1, ?_, by simp [Value.ownBlock]⟩
      simp only [Value.ownBlock]
      intro e2
      injection e2 with e2
      exact (haw e he y hy).2 e2.symm
    wf := fun r hr => by cases hr
    whole := fun f hf => by
      obtain ⟨h1, h2⟩ := hwh f hf
      refine ⟨h1.grown (row := some G) ⟨rfl, rfl, rfl, by simp [World.setCell], fun k _ hne => Below.heap_setCell w' ⟨G, 0, none⟩ _ k (fun e => hne (by rw [e]))⟩ fun k hk e => ?_, fun k hk => ⟨(h2 k hk).1, ?_, by simp [Value.ownBlock]⟩⟩
      · injection e with e
        exact (h2 k hk).1 e.symm
      · simp only [Value.ownBlock]
        intro e2
        injection e2 with e2
        exact (h2 k hk).2 e2.symm }
/-- One row more on the page that is being filled. -/
theorem Fills.more {w wr w' : World} {B G g n c : Nat} {s : List (List R) × List R} {v vp : Value} {es : List (El pageRep)} {r : R} (h : Fills w B G s v es wr vp) (hB : B ≤ wr.heap.size) (hr : r.wf)
    (hh : Mine w' B (.slice (some ⟨g, 0, none⟩) n c) (s.2 ++ [r])) (hg : wr.grownBy w' vp.ownBlock) (hat : vp.ownBlock = some g ∨ wr.heap.size ≤ g) :
    Fills w B G (s.1, s.2 ++ [r]) v es (w'.setCell ⟨G, 0, none⟩ (.slice (some ⟨g, 0, none⟩) n c)) (.slice (some ⟨g, 0, none⟩) n c) := by
  have hGl := lt_of_block h.var
  have hgG : g ≠ G := by
    rcases hat with hat | hat
    · intro e; exact h.pG (by rw [hat, e])
    · omega
  have hblk := (hg.block G hGl (fun e => h.pG e.symm)).trans h.var
  have hvg : ∀ k, v.ownBlock = some k → vp.ownBlock ≠ some k := fun k hk e => h.pv k e hk
  exact {
    old := (h.old.grown hg hB (fun k hk => (World.ownsRow.lt h.rows k hk).1)).setCell h.low _
    var := Joins.block_setCell hblk (i := 0) _
    low := h.low
    rows := by
      refine hh.grown (row := some G) ⟨rfl, rfl, rfl, by simp [World.setCell], fun k _ hne => Below.heap_setCell w' ⟨G, 0, none⟩ _ k (fun e => hne (by rw [e]))⟩ fun k hk e => ?_
      simp only [Value.ownBlock] at hk
      injection hk with hk
      injection e with e
      exact hgG (hk.trans e.symm)
    heads := by
      have h1 : Heads w' B v (cellsOf es) := h.heads.far fun k hk hlt => hg.block k hlt (fun e => hvg k hk e.symm)
      exact h1.far fun k hk _ => Below.heap_setCell w' ⟨G, 0, none⟩ _ k (fun e => h.vG (by rw [hk, e]))
    pages := (h.pages.stay fun e he => Stay.of_grown hg (fun y hy => (pageRep.own_lt (h.pages.1 e he) y hy).2) (fun y hy => (h.away e he y hy).2.2)).stay fun e he => (Stay.refl _ _).set _ fun y hy => (h.away e he y hy).1
    list := h.list
    vG := h.vG
    pG := by simp only [Value.ownBlock]; intro e; injection e with e; exact hgG e
    pv := fun k hk e => by
      simp only [Value.ownBlock] at hk
      injection hk with hk
      rcases hat with hat | hat
      · exact h.pv g hat (by rw [e, hk])
      · have := (h.heads.own k e).2
        omega
    away := fun e he y hy => by
      refine ⟨(h.away e he y hy).1, (h.away e he y hy).2.1, ?_⟩
      simp only [Value.ownBlock]
      intro e2
      injection e2 with e2
      rcases hat with hat | hat
      · exact (h.away e he y hy).2.2 (by rw [hat, e2])
      · have := (pageRep.own_lt (h.pages.1 e he) y hy).2
        omega
    wf := fun q hq => by
      rcases List.mem_append.1 hq with hq | hq
      · exact h.wf q hq
      · rw [List.mem_singleton.1 hq]; exact hr
    whole := fun f hf => by
      obtain ⟨h1, h2⟩ := h.whole f hf
      have h3 := h1.grown hg fun k hk => (h2 k hk).2.2
      refine ⟨h3.grown (row := some G) ⟨rfl, rfl, rfl, by simp [World.setCell], fun k _ hne => Below.heap_setCell w' ⟨G, 0, none⟩ _ k (fun e => hne (by rw [e]))⟩ fun k hk e => ?_, fun k hk => ⟨(h2 k hk).1, (h2 k hk).2.1, ?_⟩⟩
      · injection e with e
        exact (h2 k hk).1 e.symm
      · simp only [Value.ownBlock]
        intro e2
        injection e2 with e2
        rcases hat with hat | hat
        · exact (h2 k hk).2.2 (by rw [hat, e2])
        · have := (World.ownsRow.lt h1 k hk).2
          omega }
/-- What PackPages answers: the heads in a block of their own, and each page's rows in one. -/
def PackAns (xs : List (List R)) (w : World) (e : Ending) (w' : World) : Prop :=
  ∃ (x : Option Addr) (k m : Nat) (es : List (El pageRep)), e = .returned (.slice x k m) ∧ k = es.length ∧ Heads w' w.heap.size (.slice x k m) (cellsOf es) ∧ OwnAll pageRep w' w.heap.size es ∧ es.map El.x = xs ∧ (∀ e ∈ es, ∀ y ∈ e.F, (Value.slice x k m).ownBlock ≠ some y.b) ∧
    (∀ e ∈ es, Mine w' w.heap.size e.v e.x ∧ ∀ j, e.v.ownBlock = some j → (Value.slice x k m).ownBlock ≠ some j) ∧ Below w.heap.size w w'
set_option maxRecDepth 100000 in
set_option maxHeartbeats 2000000 in
theorem spackW (a : Option Addr) (n c : Nat) (L : List R) (w : World) (h : IsRows w a n L) (hn : n ≤ 1000000000) : Calls Try.prog 13 #[.slice a n c] w (PackAns (R.pack L) w) := by
  have HL := Lib.hid h.1
  have HW := Lib.hid h.2.1
  have be := (Below.refl w.heap.size w).alloc (Nat.le_refl _) (.cells #[] 29)
  have H0 := Lib.hid (heads_zero w w.heap.size (Nat.le_refl _))
  have R0 := Lib.hid (h.keep be)
  have HI := Lib.hid h
  have B0 := Lib.hid be
  clear h be
  go_enter Try.func13, Try.ntmps13
  go_wp2_with fail
  refine (sare a n c L _ R0.out (by omega)).mono ?_
  rintro e w1 ⟨rfl, b1⟩
  have B1 := Lib.hid (B0.out.trans (b1.mono B0.out.size))
  have H1 := Lib.hid (H0.out.keep b1)
  clear b1 R0 H0
  cases hok : okRows L with
  | false =>
    have HP := Lib.hid (R.pack_bad hok)
    clear hok
    go_wp2_with fail
    go_ret
    exact ⟨_, _, _, [], rfl, rfl, H1.out, OwnAll.nil _ _ _, by rw [HP.out]; rfl, fun e he => (by cases he), fun e he => (by cases he), B1.out⟩
  | true =>
    have HP := Lib.hid (R.pack_eq hok)
    obtain ⟨G, hG⟩ : ∃ G, G = w1.heap.size := ⟨_, rfl⟩
    have hb2 := (Below.refl w1.heap.size w1).alloc (Nat.le_refl _) (.cells #[.slice none 0 0] 29)
    have hv2 := heap_alloc_new w1 (.cells #[.slice none 0 0] 29)
    have hwl : w.heap.size ≤ w1.heap.size := B1.out.size
    have hsl : w.heap.size < G := by rw [hG]; exact H1.out.own w.heap.size rfl |>.2
    have F0 : Hid (Fills w w.heap.size G (R.packSt (L.take 0)) (.slice (some ⟨w.heap.size, 0, none⟩) 0 0) [] (w1.alloc (.cells #[.slice none 0 0] 29)) (.slice none 0 0)) := {
      old := B1.out.trans (hb2.mono hwl)
      var := by rw [hG]; exact hv2
      low := by omega
      rows := mine_none _ _
      heads := H1.out.keep hb2
      pages := OwnAll.nil _ _ _
      list := rfl
      vG := by simp only [Value.ownBlock]; intro e; injection e with e; omega
      pG := by simp [Value.ownBlock]
      pv := fun k hk => by simp [Value.ownBlock] at hk
      away := fun e he => by cases he
      wf := fun r hr => by cases hr
      whole := fun e he => by cases he }
    have HG := Lib.hid hG
    clear hok hb2 hv2
    go_wp2_with fail
    rw [← hG]
    clear hG
    go_loopw [3, 5] (fun v i wr => ∃ (k : Nat) (es : List (El pageRep)) (vp y : Value), y = v ∧ i = .int .i64 k ∧ k ≤ n ∧ Hid (Fills w w.heap.size G (R.packSt (L.take k)) y es wr vp)) (fun _ i _ => n - (intOf i).toNat)
    case atStart => exact ⟨0, [], _, _, rfl, rfl, Nat.zero_le _, F0⟩
    case round =>
      obtain ⟨k, es, vp, y, rfl, rfl, hk, hF⟩ := hrel
      obtain ⟨v0, hv0⟩ : ∃ v0, v0 = wr := ⟨_, rfl⟩
      subst hv0
      obtain ⟨s, hs⟩ : ∃ s, s = R.packSt (L.take k) := ⟨_, rfl⟩
      rw [← hs] at hF
      obtain ⟨ap, cp, rfl⟩ := hF.out.rows.slice
      obtain ⟨np, hnp⟩ : ∃ np, np = s.2.length := ⟨_, rfl⟩
      rw [← hnp] at hF
      have hold := hF.out.old
      have hvar := hF.out.var
      have hvl : w.heap.size ≤ v0.heap.size := hold.size
      have cG : v0.cell? ⟨G, 0, none⟩ = some (.slice ap np cp) := by simp [World.cell?, hvar]
      have fG : v0.frozen? ⟨G, 0, none⟩ = false := by simp [World.frozen?, hvar]
      have hsz := R.packSt_sizes (L.take k)
      rw [← hs, List.length_take, HL.out, ← hnp, ← hF.out.list, List.length_map] at hsz
      have HKP : Hid (k < n → R.packSt (L.take (k + 1)) = R.packStep s (L.getD k R.zero)) := fun hk => by rw [hs]; exact R.packSt_next L k (by have := HL.out; omega)
      have hsum := total_range s.2
      have HNP := Lib.hid hnp
      have HS := Lib.hid hs
      have HOLD := Lib.hid hold
      have HF := Lib.hid hF.out
      clear hs hold hF hnp
      by_cases hlt : k < n
      · obtain ⟨b, o, rfl, hbl, hat⟩ := HI.out.at hlt
        obtain ⟨r, hr⟩ : ∃ r, r = L.getD k R.zero := ⟨_, rfl⟩
        have hrw : r.wf := by rw [hr]; exact HI.out.wf k hlt
        rw [← hr] at hat HKP
        have HST := Lib.hid (HKP.out hlt)
        have hcr := r.cost_range
        have HAT := Lib.hid hat
        obtain ⟨c0, c1, c2⟩ := HAT.out.below HOLD.out hbl
        clear hat
        have PR := Lib.hid (SeqIn.keep (w' := v0.drew) (in_rows ((HF.out.rows).rows HF.out.wf) (by unfold maxLen; omega)) (Below.refl v0.heap.size v0).drew)
        have hi0 : (0 : Int) ≤ (k : Int) := by omega
        have hi1 : (k : Int) < (n : Int) := by omega
        clear hr HKP
        go_wp2_with fail
        go_still_tail 5, (by kernel_rfl)
        go_wp2_with fail
        refine (soverflow ap np cp s.2 r hrw v0.drew PR.out (by omega)).mono ?_
        rintro e w3 ⟨rfl, b3⟩
        have bb3 : Below v0.heap.size v0 w3 := (Below.refl v0.heap.size v0).drew.trans b3
        have F3 := Lib.hid (HF.out.keep bb3 hvl)
        have hvl3 : w.heap.size ≤ w3.heap.size := Nat.le_trans hvl bb3.size
        clear b3 bb3 cG fG hvar c0 c1 c2 HF PR HOLD
        have hvar3 := F3.out.var
        have hGl3 := lt_of_block hvar3
        have cG3 : w3.cell? ⟨G, 0, none⟩ = some (.slice ap np cp) := by simp [World.cell?, hvar3]
        have fG3 : w3.frozen? ⟨G, 0, none⟩ = false := by simp [World.frozen?, hvar3]
        by_cases hov : 8 < total s.2 + r.cost
        · rw [decide_eq_true hov]
          have HOV := Lib.hid hov
          have hnp0 : np ≠ 0 := by
            intro e
            have h2 : s.2.length = 0 := by rw [← HNP.out]; exact e
            rw [h2] at hsum
            omega
          obtain ⟨gp, rfl⟩ : ∃ gp, ap = some ⟨gp, 0, none⟩ := by
            obtain ⟨gp, c', e, -, -⟩ := F3.out.rows.addr (by intro e; injection e with _ e2 _; exact hnp0 e2)
            injection e with e1 _ _
            exact ⟨gp, e1⟩
          have hcl : (cellsOf es).length = es.length := by rw [cellsOf_length]; exact Nat.mul_one _
          have HH3 := Lib.hid F3.out.heads
          have hvG := F3.out.vG
          clear hov hsum
          go_wp2_with (at_builtin; refine wpList_pushP (.tmp 24) (.tmp 26) w3.heap.size rfl rfl rfl rfl rfl HH3.out hvl3 (by omega) rfl ?_; intro g4 c4 w4 hh4 hg4 hat4; have hv4 := (hg4.block G hGl3 (fun e => hvG e.symm)).trans hvar3; have cG4 : w4.cell? ⟨G, 0, none⟩ = some (.slice (some ⟨gp, 0, none⟩) np cp) := (by simp [World.cell?, hv4]); have fG4 : w4.frozen? ⟨G, 0, none⟩ = false := (by simp [World.frozen?, hv4]))
          obtain ⟨e4, F4⟩ := F3.out.full hvl3 (by unfold maxLen; omega) hh4 hg4 hat4
          have hold4 := F4.old
          obtain ⟨w5, hw5⟩ : ∃ w5, w5 = w4.setCell ⟨G, 0, none⟩ (.slice none 0 0) := ⟨_, rfl⟩
          rw [← hw5] at F4 hold4 ⊢
          have F5 := F4
          have hold5 := hold4
          clear F4 hold4 hw5 hh4 hg4 hat4 hv4
          obtain ⟨d0, d1, d2⟩ := HAT.out.below hold5 hbl
          have hvar5 := F5.var
          have hGl5 := lt_of_block hvar5
          have cG5 : w5.cell? ⟨G, 0, none⟩ = some (.slice none 0 0) := by simp [World.cell?, hvar5]
          have fG5 : w5.frozen? ⟨G, 0, none⟩ = false := by simp [World.frozen?, hvar5]
          have hvl5 : w.heap.size ≤ w5.heap.size := hold5.size
          have bx : Below w5.heap.size w5 (w5.alloc (.cells #[.int .i64 r.key, .int .i64 r.value, .int .i64 r.width] 50)).drew := ((Below.refl _ _).alloc (Nat.le_refl _) _).drew
          have F6 := Lib.hid (F5.keep bx hvl5)
          have M6 := Lib.hid F6.out.rows
          have hvar6 : (w5.alloc (.cells #[.int .i64 r.key, .int .i64 r.value, .int .i64 r.width] 50)).drew.heap[G]? = some (.cells #[.slice none 0 0] 29 (0, 0)) := F6.out.var
          have hGl6 := lt_of_block hvar6
          have hpG := F6.out.pG
          have HC6 := Lib.hid (World.news_of_block (w := (w5.alloc (.cells #[.int .i64 r.key, .int .i64 r.value, .int .i64 r.width] 50)).drew) (heap_alloc_new w5 (.cells #[.int .i64 r.key, .int .i64 r.value, .int .i64 r.width] 50)))
          have HV6 := Lib.hid hvar6
          have HPG := Lib.hid hpG
          have HGL6 := Lib.hid hGl6
          have hvl6 : w.heap.size ≤ ((w5.alloc (.cells #[.int .i64 r.key, .int .i64 r.value, .int .i64 r.width] 50)).drew).heap.size := F6.out.old.size
          have HVL6 := Lib.hid hvl6
          have hln : ([] : List R).length + 1 ≤ 1000000000000 := by simp
          clear F5 hold5 bx hvar5 hvar6 hpG hGl6 hvl6
          go_region_law (refine step_pushM (w := (w5.alloc (.cells #[.int .i64 r.key, .int .i64 r.value, .int .i64 r.width] 50)).drew) (M := ([] : List R)) (.tmp 30) (.tmp 35) ⟨w5.heap.size, 0, none⟩ r rfl rfl rfl rfl M6.out HC6.out HVL6.out hln ?_; intro g6 c6 w6 hm6 hg6 hat6; have hv6 := (hg6.block G HGL6.out (fun e => HPG.out e.symm)).trans HV6.out; have cG6 : w6.cell? ⟨G, 0, none⟩ = some (.slice none 0 0) := (by simp [World.cell?, hv6]); have fG6 : w6.frozen? ⟨G, 0, none⟩ = false := (by simp [World.frozen?, hv6]))
          all_goals
            have F7 := Lib.hid (F6.out.more HVL6.out hrw hm6 hg6 hat6)
            clear hm6 hg6 hat6 hv6
            go_wp2_with fail
            go_roundw
            case rel => exact ⟨k + 1, _, _, _, rfl, by go_num, by omega, by show Fills _ _ _ (R.packSt (L.take (k + 1))) _ _ _ _; rw [HST.out]; unfold R.packStep; rw [if_pos HOV.out]; have h7 := F7.out; simp only [List.length_nil, List.nil_append, Nat.zero_add, hcl] at h7; exact h7⟩
            case measure => simp [intOf]; omega
        · rw [decide_eq_false hov]
          have HOV := Lib.hid hov
          clear hov hsum
          go_wp2_with fail
          obtain ⟨w5, hw5⟩ : ∃ w5, w5 = w3 := ⟨_, rfl⟩
          subst hw5
          have F5 := F3.out
          have hold5 := F5.old
          obtain ⟨d0, d1, d2⟩ := HAT.out.below hold5 hbl
          have hvar5 := F5.var
          have hGl5 := lt_of_block hvar5
          have cG5 : w5.cell? ⟨G, 0, none⟩ = some (.slice ap np cp) := by simp [World.cell?, hvar5]
          have fG5 : w5.frozen? ⟨G, 0, none⟩ = false := by simp [World.frozen?, hvar5]
          have hvl5 : w.heap.size ≤ w5.heap.size := hold5.size
          have bx : Below w5.heap.size w5 (w5.alloc (.cells #[.int .i64 r.key, .int .i64 r.value, .int .i64 r.width] 50)).drew := ((Below.refl _ _).alloc (Nat.le_refl _) _).drew
          have F6 := Lib.hid (F5.keep bx hvl5)
          have M6 := Lib.hid F6.out.rows
          have hvar6 : (w5.alloc (.cells #[.int .i64 r.key, .int .i64 r.value, .int .i64 r.width] 50)).drew.heap[G]? = some (.cells #[.slice ap np cp] 29 (0, 0)) := F6.out.var
          have hGl6 := lt_of_block hvar6
          have hpG := F6.out.pG
          have HC6 := Lib.hid (World.news_of_block (w := (w5.alloc (.cells #[.int .i64 r.key, .int .i64 r.value, .int .i64 r.width] 50)).drew) (heap_alloc_new w5 (.cells #[.int .i64 r.key, .int .i64 r.value, .int .i64 r.width] 50)))
          have HV6 := Lib.hid hvar6
          have HPG := Lib.hid hpG
          have HGL6 := Lib.hid hGl6
          have hvl6 : w.heap.size ≤ ((w5.alloc (.cells #[.int .i64 r.key, .int .i64 r.value, .int .i64 r.width] 50)).drew).heap.size := F6.out.old.size
          have HVL6 := Lib.hid hvl6
          have hln : s.2.length + 1 ≤ 1000000000000 := by rw [← HNP.out]; omega
          clear F5 hold5 bx hvar5 hvar6 hpG hGl6 hvl6
          go_region_law (refine step_pushM (w := (w5.alloc (.cells #[.int .i64 r.key, .int .i64 r.value, .int .i64 r.width] 50)).drew) (M := s.2) (.tmp 30) (.tmp 35) ⟨w5.heap.size, 0, none⟩ r rfl rfl rfl rfl M6.out HC6.out HVL6.out hln ?_; intro g6 c6 w6 hm6 hg6 hat6; have hv6 := (hg6.block G HGL6.out (fun e => HPG.out e.symm)).trans HV6.out; have cG6 : w6.cell? ⟨G, 0, none⟩ = some (.slice ap np cp) := (by simp [World.cell?, hv6]); have fG6 : w6.frozen? ⟨G, 0, none⟩ = false := (by simp [World.frozen?, hv6]))
          all_goals
            have F7 := Lib.hid (F6.out.more HVL6.out hrw hm6 hg6 hat6)
            clear hm6 hg6 hat6 hv6
            go_wp2_with fail
            go_roundw
            case rel => exact ⟨k + 1, _, _, _, rfl, by go_num, by omega, by show Fills _ _ _ (R.packSt (L.take (k + 1))) _ _ _ _; rw [HST.out]; unfold R.packStep; rw [if_neg (by have := HOV.out; omega)]; exact F7.out⟩
            case measure => simp [intOf]; omega
      · have hkn : k = n := by omega
        have hst : s = R.packSt L := by rw [HS.out, hkn, List.take_of_length_le (by have := HL.out; omega)]
        have HST := Lib.hid hst
        have hcl : (cellsOf es).length = es.length := by rw [cellsOf_length]; exact Nat.mul_one _
        clear hst hkn hsum HKP
        rcases Nat.eq_zero_or_pos np with h0 | h0
        · subst h0
          have hnil : s.2 = [] := List.eq_nil_of_length_eq_zero HNP.out.symm
          obtain ⟨ay, cy, hy⟩ := HF.out.heads.slice
          have hfin : PackAns (R.pack L) w (.returned (.slice ay (cellsOf es).length cy)) v0 := by
            refine ⟨ay, _, cy, es, rfl, hcl, by rw [← hy]; exact HF.out.heads, HF.out.pages, ?_, fun e he y hy2 => by rw [← hy]; exact (HF.out.away e he y hy2).2.1, fun e he => ⟨(HF.out.whole e he).1, fun j hj => by rw [← hy]; exact ((HF.out.whole e he).2 j hj).2.1⟩, HOLD.out⟩
            rw [HP.out, ← HST.out]
            unfold R.packEnd
            rw [if_pos hnil, ← HF.out.list]
          have HFIN := Lib.hid hfin
          clear hfin hnil
          subst hy
          go_wp2_with fail
          go_ret
          exact HFIN.out
        · obtain ⟨gp, rfl⟩ : ∃ gp, ap = some ⟨gp, 0, none⟩ := by
            obtain ⟨gp, c', e, -, -⟩ := HF.out.rows.addr (by intro e; injection e with _ e2 _; omega)
            injection e with e1 _ _
            exact ⟨gp, e1⟩
          have HH3 := Lib.hid HF.out.heads
          have hpos : (0 : Int) < (np : Int) := by omega
          go_wp2_with (at_builtin; refine wpList_pushP (.tmp 42) (.tmp 44) v0.heap.size rfl rfl rfl rfl rfl HH3.out hvl (by omega) rfl ?_; intro g4 c4 w4 hh4 hg4 hat4)
          have hfin : PackAns (R.pack L) w (.returned (.slice (some ⟨g4, 0, none⟩) ((cellsOf es).length + 1) c4)) w4 := by
            obtain ⟨e4, hcs, hall, hli, hgG, haw, hwh⟩ := HF.out.push (by unfold maxLen; omega) hg4 hat4
            have hne : ∀ k, k ≠ g4 → (Value.slice (some ⟨g4, 0, none⟩) ((cellsOf es).length + 1) c4).ownBlock ≠ some k := fun k hk e2 => by
              simp only [Value.ownBlock] at e2
              injection e2 with e2
              exact hk e2.symm
            refine ⟨_, _, c4, es ++ [e4], rfl, by rw [List.length_append, hcl]; rfl, by rw [hcs]; exact hh4, hall, ?_, fun e he y hy2 => hne _ (haw e he y hy2).2, fun e he => ⟨(hwh e he).1, fun j hj => hne j ((hwh e he).2 j hj).2⟩, HF.out.old.grown hg4 hvl (fun k hk => (HF.out.heads.own k hk).1)⟩
            have hnil : ¬ s.2 = [] := by
              intro e
              have h2 := HNP.out
              rw [e] at h2
              simp at h2
              omega
            rw [HP.out, ← HST.out]
            unfold R.packEnd
            rw [if_neg hnil, ← hli]
          rw [hcl] at hfin
          have HFIN := Lib.hid hfin
          clear hfin hh4 hg4 hat4
          go_ret
          exact HFIN.out
theorem spack (a : Option Addr) (n c : Nat) (L : List R) (w : World) (h : IsRows w a n L) (hn : n ≤ 1000000000) :
    Calls Try.prog 13 #[.slice a n c] w fun e w' => ∃ x k m F, e = .returned (.slice x k m) ∧ SeqOwn pageRep w' w.heap.size x k (R.pack L) F ∧ Below w.heap.size w w' :=
  (spackW a n c L w h hn).mono fun e w' ⟨x, k, m, es, he, hk, hh, hall, hli, hne, _, hb⟩ => by
    have hln := congrArg List.length hli
    rw [List.length_map] at hln
    have := R.pack_length (L := L)
    have := h.1
    obtain ⟨F, hF⟩ := pages_done hh hall hne (by unfold maxLen; omega)
    exact ⟨x, k, m, F, he, by rw [← hli]; exact hF, hb⟩
end Go.Proofs.Ytoiobaiiammehaa
