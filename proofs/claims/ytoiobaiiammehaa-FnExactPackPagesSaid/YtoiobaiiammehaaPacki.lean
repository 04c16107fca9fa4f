/- The program's PackPages, by contract. -/
import Derived.Test.YtoiobaiiammehaaUnpacki
import Derived.Test.YtoiobaiiammehaaFirsti
import Derived.Test.YtoiobaiiammehaaClone
import Derived.Test.YtoiobaiiammehaaHeads
namespace Go.Proofs.Ytoiobaiiammehaa
open Go.RowKit

/-- A part of a block of rows, as a slice of its own. -/
theorem rows_part {w : World} {B g n cap : Nat} {L : List R} (h : Mine w B (.slice (some ⟨g, 0, none⟩) n cap) L) (hwf : ∀ r ∈ L, r.wf) {k i : Nat} (hki : k + i ≤ n) (hi : 0 < i) (hm : i ≤ maxLen) :
    SeqOwn rowRep w B (some ⟨g, k * 3, none⟩) i ((L.drop k).take i) [⟨g, k * 3, k * 3 + i * 3⟩] := by
  have hl := h.len
  have hB : B ≤ g := (World.ownsRow.lt h g rfl).1
  have hlt : g < w.heap.size := (World.ownsRow.lt h g rfl).2
  have hf : ∀ i, w.frozen? ⟨g, i, none⟩ = false := by
    obtain ⟨g', e', -, -, -, hfz, -⟩ := h.at (k := 0) (by omega)
    injection e' with e'
    injection e' with e'
    subst e'
    exact hfz
  have hfl : (List.range i).flatMap (fun _ => ([] : List Reg)) = [] := by simp
  refine ⟨by rw [List.length_take, List.length_drop]; omega, hm, .inr ⟨g, k * 3, fun _ => (), fun _ => [], rfl, hB, hlt, by rw [hfl]; rfl, List.pairwise_singleton _ _, fun j _ _ => hf j, fun t x ht => ⟨fun j u hj => ?_, hwf x ?_, rfl⟩⟩⟩
  · have htl := idx_lt ht
    rw [List.length_take, List.length_drop] at htl
    have hg : L.getD (k + t) R.zero = x := by
      rw [List.getElem?_take, if_pos (by omega), List.getElem?_drop] at ht
      simp [List.getD, ht]
    obtain ⟨g', e', -, -, ⟨c0, c1, c2⟩, -, -⟩ := h.at (k := k + t) (by omega)
    injection e' with e'
    injection e' with e'
    subst e'
    rw [hg, Nat.add_mul] at c0 c1 c2
    match j, hj with
    | 0, hj => obtain rfl := Option.some.inj hj; exact c0
    | 1, hj => obtain rfl := Option.some.inj hj; exact c1
    | 2, hj => obtain rfl := Option.some.inj hj; exact c2
  · exact List.mem_of_mem_drop (List.mem_of_mem_take (List.mem_of_getElem? ht))
theorem rows_rest {w : World} {B g n cap : Nat} {L : List R} (h : Mine w B (.slice (some ⟨g, 0, none⟩) n cap) L) (hwf : ∀ r ∈ L, r.wf) {k m : Nat} (hk : k + m = n) (hm : 0 < m) (hmax : n ≤ maxLen) : IsRows w (some ⟨g, k * 3, none⟩) m (L.drop k) := by
  have hl := h.len
  have := rows_in (rows_part h hwf (k := k) (i := m) (by omega) hm (by omega)).inn
  rwa [List.take_of_length_le (by rw [List.length_drop]; omega)] at this
theorem Mine.caps {w : World} {B : Nat} {a : Option Addr} {len cap : Nat} {L : List R} (h : Mine w B (.slice a len cap) L) : len ≤ cap ∧ cap ≤ maxLen := by
  have hl := h.len
  rcases h.2 with ⟨h0, h2⟩ | ⟨g', cap', cur, hv, hB, hh, hc, hm, -⟩
  · injection h0 with e1 e2 e3; subst e2 e3; exact ⟨Nat.le_refl _, Nat.zero_le _⟩
  · injection hv with e1 e2 e3; subst e3; exact ⟨by omega, hm⟩
theorem Heads.mono {w : World} {B B' : Nat} {v : Value} {cs : List Value} (h : Heads w B v cs) (hb : B' ≤ B) : Heads w B' v cs := by
  obtain ⟨h1, h0 | ⟨g, cap, cur, hv, hB, h2⟩⟩ := h
  · exact ⟨h1, .inl h0⟩
  · exact ⟨h1, .inr ⟨g, cap, cur, hv, Nat.le_trans hb hB, h2⟩⟩
theorem heads_none (w : World) (B : Nat) : Heads w B (.slice none 0 0) [] := ⟨rfl, .inl ⟨rfl, rfl⟩⟩
/-- What the loop keeps: the pages that have been cut lie in the copy's block, below the rows that are left; their heads in another. -/
structure Packs (w w2 : World) (g k : Nat) (L : List R) (y : Value) (es : List (El pageRep)) (wr : World) : Prop where
  old : Below w2.heap.size w2 wr
  heads : Heads wr w2.heap.size y (cellsOf es)
  pages : OwnAll pageRep w2 w.heap.size es
  low : ∀ e ∈ es, ∀ x ∈ e.F, x.b = g ∧ x.hi ≤ k * 3
  list : es.map El.x ++ R.packEnd (R.packSt (L.drop k)) = R.packEnd (R.packSt L)
  few : es.length ≤ k
theorem Packs.push {w w2 wr w3 w4 : World} {g k n c i g4 c4 : Nat} {L : List R} {y : Value} {es : List (El pageRep)} (h : Packs w w2 g k L y es wr) (hM : Mine w2 w.heap.size (.slice (some ⟨g, 0, none⟩) n c) L) (hwf : ∀ r ∈ L, r.wf)
    (hk : k < n) (hf : R.First (L.drop k) i) (hb : Below wr.heap.size wr w3) (hh : Heads w4 w2.heap.size (.slice (some ⟨g4, 0, none⟩) ((cellsOf es).length + 1) c4) (cellsOf es ++ [.slice (some ⟨g, k * 3, none⟩) i i])) (hg : w3.grownBy w4 y.ownBlock) (hmax : n ≤ maxLen) :
    ∃ es', Packs w w2 g (k + i) L (.slice (some ⟨g4, 0, none⟩) ((cellsOf es).length + 1) c4) es' w4 ∧ (cellsOf es').length = (cellsOf es).length + 1 := by
  have hl := hM.len
  have hdl : 0 < (L.drop k).length := by rw [List.length_drop]; omega
  have hip := hf.pos hdl
  have hile := hf.le
  rw [List.length_drop] at hile
  have hs2 : w2.heap.size ≤ w3.heap.size := Nat.le_trans h.old.size hb.size
  have hcs : cellsOf (es ++ [(⟨(L.drop k).take i, (some ⟨g, k * 3, none⟩, i, i), [⟨g, k * 3, k * 3 + i * 3⟩]⟩ : El pageRep)]) = cellsOf es ++ [.slice (some ⟨g, k * 3, none⟩) i i] := by rw [cellsOf_snoc]; rfl
  refine ⟨es ++ [⟨(L.drop k).take i, (some ⟨g, k * 3, none⟩, i, i), [⟨g, k * 3, k * 3 + i * 3⟩]⟩], ⟨?_, ?_, ?_, ?_, ?_, ?_⟩, by rw [hcs]; simp⟩
  · exact (h.old.trans (hb.mono h.old.size)).grown hg hs2 fun j hj => (h.heads.own j hj).1
  · rw [hcs]; exact hh
  · refine ⟨fun e he => ?_, ?_⟩
    · rcases List.mem_append.1 he with he | he
      · exact h.pages.1 e he
      · rw [List.mem_singleton.1 he]
        exact ⟨rows_part hM hwf (show k + i ≤ n by omega) hip (show i ≤ maxLen by omega), fun e => by cases e⟩
    · rw [List.pairwise_append]
      refine ⟨h.pages.2, List.pairwise_singleton _ _, fun e he f hf' x hx z hz => ?_⟩
      rw [List.mem_singleton.1 hf'] at hz
      rw [List.mem_singleton.1 hz]
      exact .inr (.inl (h.low e he x hx).2)
  · intro e he x hx
    rcases List.mem_append.1 he with he | he
    · obtain ⟨h1, h2⟩ := h.low e he x hx
      exact ⟨h1, by omega⟩
    · rw [List.mem_singleton.1 he] at hx
      rw [List.mem_singleton.1 hx]
      exact ⟨rfl, by simp only []; omega⟩
  · rw [← h.list, hf.pack hdl, List.map_append, List.append_assoc, List.drop_drop]
    rfl
  · rw [List.length_append, List.length_singleton]; have := h.few; omega
theorem Packs.done {w w2 wr : World} {g n : Nat} {L : List R} {a : Option Addr} {m c : Nat} {es : List (El pageRep)} (h : Packs w w2 g n L (.slice a m c) es wr) (hn : L.length = n) (h2 : Below w.heap.size w w2) (hg : g < w2.heap.size) (hmax : n ≤ maxLen) :
    ∃ F, SeqOwn pageRep wr w.heap.size a m (R.packEnd (R.packSt L)) F := by
  have hli := h.list
  rw [List.drop_of_length_le (by omega)] at hli
  have e0 : R.packEnd (R.packSt []) = [] := rfl
  rw [e0, List.append_nil] at hli
  obtain ⟨F, hF⟩ := pages_done (h.heads.mono h2.size) (h.pages.keep h.old) (fun e he x hx e2 => by
    have h1 := (h.low e he x hx).1
    have h3 := (h.heads.own _ e2).1
    omega) (by have := h.few; omega)
  exact ⟨F, by rw [← hli]; exact hF⟩
def lenV : Value → Nat
  | .slice _ n _ => n
  | _ => 0
set_option maxRecDepth 100000 in
theorem ipack (a : Option Addr) (n c : Nat) (L : List R) (w : World) (h : SeqIn rowRep w a n L) (hn : n ≤ 1000000000) :
    Calls Try.prog 15 #[.slice a n c] w (Gives pageRep (R.pack L) w) := by
  have HL := Lib.hid h.1
  have HI := Lib.hid (rows_in h)
  clear h
  go_enter Try.func15, Try.ntmps15
  go_wp2_with fail
  refine (iare a n c L _ HI.out (by omega)).mono ?_
  rintro e w1 ⟨rfl, b1⟩
  have B1 := Lib.hid b1
  have I1 := Lib.hid (HI.out.keep b1)
  clear b1
  cases hok : okRows L with
  | false =>
    have HP := Lib.hid (R.pack_bad hok)
    clear hok
    go_wp2_with fail
    go_ret
    exact ⟨_, _, _, [], rfl, by rw [HP.out]; exact ⟨rfl, Nat.zero_le _, .inl ⟨rfl, rfl⟩⟩, B1.out⟩
  | true =>
    have HP := Lib.hid (R.pack_eq hok)
    clear hok
    go_wp2_with fail
    refine (clone a n c L _ I1.out (by omega)).mono ?_
    rintro e w2 ⟨v, rfl, hm, b2⟩
    have B2 := Lib.hid (B1.out.trans (b2.mono B1.out.size))
    have M2 := Lib.hid (hm.mono B1.out.size)
    have hwf := HI.out.2.1
    have HWF := Lib.hid hwf
    clear hm b2 hwf
    obtain ⟨av, cv, rfl⟩ := M2.out.slice
    obtain ⟨hcv, hcm⟩ := M2.out.caps
    rcases Nat.eq_zero_or_pos n with h0 | h0
    · have hL0 : L = [] := List.eq_nil_of_length_eq_zero (by rw [HL.out, h0])
      have HF := Lib.hid (show R.pack L = [] by rw [hL0]; rfl)
      have hll : L.length = 0 := by rw [hL0]; rfl
      clear hL0
      rw [hll]
      go_wp2_with fail
      go_loopw [3, 4] (fun u y wr => u = .slice av 0 cv ∧ y = .slice none 0 0 ∧ Hid (Below w.heap.size w wr)) (fun _ _ _ => 0)
      case atStart => exact ⟨rfl, rfl, B2⟩
      case round =>
        obtain ⟨rfl, rfl, hb⟩ := hrel
        go_wp2_with fail
        go_ret
        exact ⟨_, _, _, [], rfl, by rw [HF.out]; exact ⟨rfl, Nat.zero_le _, .inl ⟨rfl, rfl⟩⟩, hb.out⟩
    · obtain ⟨g, rfl⟩ : ∃ g, av = some ⟨g, 0, none⟩ := by
        obtain ⟨g, c', e, -, -⟩ := M2.out.addr (by intro e; injection e with _ e2 _; have := HL.out; omega)
        injection e with e1 _ _
        exact ⟨g, e1⟩
      have hlen := HL.out
      rw [hlen] at M2 hcv ⊢
      have HGL := Lib.hid M2.out.lt
      have P0 : Hid (Packs w w2 g 0 L (.slice none 0 0) [] w2) := {
        old := Below.refl _ _
        heads := heads_none _ _
        pages := OwnAll.nil _ _ _
        low := fun e he => by cases he
        list := rfl
        few := Nat.le_refl _ }
      clear hlen
      unfold maxLen at hcm
      go_wp2_with fail
      go_loopw [3, 4] (fun u y wr => ∃ (k m d : Nat) (au : Option Addr) (es : List (El pageRep)) (z : Value), z = y ∧ u = .slice au m d ∧ k + m = n ∧ k + d = cv ∧ (0 < m → au = some ⟨g, k * 3, none⟩) ∧ Hid (Packs w w2 g k L y es wr)) (fun u _ _ => lenV u)
      case atStart => exact ⟨0, n, cv, _, [], _, rfl, rfl, by omega, by omega, fun _ => rfl, P0⟩
      case round =>
        obtain ⟨k, m, d, au, es, z, rfl, rfl, hkm, hkd, hau, hP⟩ := hrel
        rcases Nat.eq_zero_or_pos m with hm0 | hm0
        · subst hm0
          have hkn : k = n := by omega
          have hfin : Gives pageRep (R.pack L) w (.returned z) wr := by
            obtain ⟨ay, cy, rfl⟩ := hP.out.heads.slice
            rw [hkn] at hP
            obtain ⟨F, hF⟩ := hP.out.done HL.out B2.out HGL.out (by unfold maxLen; omega)
            exact ⟨ay, _, cy, F, rfl, by rw [HP.out]; exact hF, B2.out.trans (hP.out.old.mono B2.out.size)⟩
          have HFIN := Lib.hid hfin
          clear hfin hkn
          go_wp2_with fail
          go_ret
          exact HFIN.out
        · obtain rfl := hau hm0
          have hpos : (0 : Int) < (m : Int) := by omega
          have HR := Lib.hid ((rows_rest M2.out HWF.out hkm hm0 (by unfold maxLen; omega)).keep hP.out.old)
          go_wp2_with fail
          refine (icount (some ⟨g, k * 3, none⟩) m d (L.drop k) wr HR.out (by omega) (by omega) (by unfold maxLen; omega)).mono ?_
          rintro e w3 ⟨i, rfl, hf, b3⟩
          have hile := hf.le
          rw [List.length_drop, HL.out] at hile
          have hip := hf.pos (by rw [List.length_drop, HL.out]; omega)
          have HF := Lib.hid hf
          have H3 := Lib.hid (hP.out.heads.keep b3)
          have B3 := Lib.hid b3
          have hs3 : w2.heap.size ≤ w3.heap.size := Nat.le_trans hP.out.old.size b3.size
          have hcl : (cellsOf es).length = es.length := by rw [cellsOf_length]; exact Nat.mul_one _
          have hfew := hP.out.few
          clear hf b3
          have hid1 : (i : Int) ≤ (d : Int) := by omega
          have him1 : (i : Int) ≤ (m : Int) := by omega
          go_wp2_with (at_builtin; refine wpList_pushP (.tmp 16) (.tmp 22) w3.heap.size rfl rfl rfl rfl rfl H3.out hs3 (by omega) rfl ?_; intro g4 c4 w4 hh4 hg4 hat4)
          obtain ⟨es', hP', hel⟩ := hP.out.push M2.out HWF.out (by omega) HF.out B3.out hh4 hg4 (by unfold maxLen; omega)
          rw [hcl] at hP'
          have HP' := Lib.hid hP'
          clear hP' hh4 hg4 hat4
          go_wp2_with fail
          go_roundw
          case rel => exact ⟨k + i, m - i, d - i, _, es', _, rfl, rfl, by omega, by omega, fun h => by rw [if_neg (by omega), Nat.add_mul], HP'⟩
          case measure => simp [lenV]; omega
end Go.Proofs.Ytoiobaiiammehaa
