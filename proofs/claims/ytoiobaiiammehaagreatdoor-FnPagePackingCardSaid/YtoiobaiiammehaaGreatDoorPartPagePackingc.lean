/- Texts joined: Packi Kit Laid Strs SplitN CutOne Cuts Block Parsei In Bits Fmt Parses Valids Frows Prows Prowi Prowsi Ares PagesS. -/
import Derived.Test.YtoiobaiiammehaaGreatDoorPartPagePackingb
import Derived.Test.YtoiobaiiammehaaGreatDoorProg
import Derived.WalkKit
import Derived.Below
import Derived.Lib.Hide
import Derived.OwnWalk
import Derived.Laws.IdiomStrings
import Derived.IntWalk
import Derived.Laws.OwnMore
import Derived.Test.YtoiobaiiammehaaGreatDoorRows
import Derived.Test.YtoiobaiiammehaaGreatDoorShelf
import Derived.Stop.LaidErr
import Derived.Stop.Joined
import Derived.LaidMore
import Derived.Lib.LaidTab
import Derived.Lib.SmallJoins
import Derived.Lib.ItoaNum
import Derived.Deep.OwnRows
import Derived.Shelf.Strings.SplitShaped
import Derived.Lib.AtoiBound
import Derived.Lib.ConvBytes
import Derived.Laws.BitsAllLaws
import Derived.Laws.BitsLemmas
import Derived.Deep.RegionHeld3
/- The program's PackPages, by contract. -/
namespace Go.Proofs.YtoiobaiiammehaaGreatDoor
open Go.RowKit

/-- A part of a block of rows, as a slice of its own. -/
theorem rows_part {w : World} {B g n cap : Nat} {L : List R} (h : Mine w B (.slice (some ⟨g, 0, none⟩) n cap) L) (hwf : ∀ r ∈ L, r.wf) {k i : Nat} (hki : k + i ≤ n) (hi : 0 < i) (hm : i ≤ maxLen) :
    SeqOwn rowRep w B (some ⟨g, k * 3, none⟩) i ((L.drop k).take i) [⟨g, k * 3, k * 3 + i * 3⟩] := by
  have hl := h.len
  have hB : B ≤ g := (World.ownsRow.lt h g rfl).1
  have hlt : g < w.heap.size := (World.ownsRow.lt h g rfl).2
  have hf : ∀ i, w.frozen? ⟨g, i, none⟩ = false := by
    obtain ⟨g', e', -, -, -, hfz, -⟩ := h.at (k := 0) (by omega)
    injection e' with e'
    injection e' with e'
    subst e'
    exact hfz
  have hfl : (List.range i).flatMap (fun _ => ([] : List Reg)) = [] := by simp
  refine ⟨by rw [List.length_take, List.length_drop]; omega, hm, .inr ⟨g, k * 3, fun _ => (), fun _ => [], rfl, hB, hlt, by rw [hfl]; rfl, List.pairwise_singleton _ _, fun j _ _ => hf j, fun t x ht => ⟨fun j u hj => ?_, hwf x ?_, rfl⟩⟩⟩
  · have htl := idx_lt ht
    rw [List.length_take, List.length_drop] at htl
    have hg : L.getD (k + t) R.zero = x := by
      rw [List.getElem?_take, if_pos (by omega), List.getElem?_drop] at ht
      simp [List.getD, ht]
    obtain ⟨g', e', -, -, ⟨c0, c1, c2⟩, -, -⟩ := h.at (k := k + t) (by omega)
    injection e' with e'
    injection e' with e'
    subst e'
    rw [hg, Nat.add_mul] at c0 c1 c2
    match j, hj with
    | 0, hj => obtain rfl := Option.some.inj hj; exact c0
    | 1, hj => obtain rfl := Option.some.inj hj; exact c1
    | 2, hj => obtain rfl := Option.some.inj hj; exact c2
  · exact List.mem_of_mem_drop (List.mem_of_mem_take (List.mem_of_getElem? ht))
theorem rows_rest {w : World} {B g n cap : Nat} {L : List R} (h : Mine w B (.slice (some ⟨g, 0, none⟩) n cap) L) (hwf : ∀ r ∈ L, r.wf) {k m : Nat} (hk : k + m = n) (hm : 0 < m) (hmax : n ≤ maxLen) : IsRows w (some ⟨g, k * 3, none⟩) m (L.drop k) := by
  have hl := h.len
  have := rows_in (rows_part h hwf (k := k) (i := m) (by omega) hm (by omega)).inn
  rwa [List.take_of_length_le (by rw [List.length_drop]; omega)] at this
theorem Mine.caps {w : World} {B : Nat} {a : Option Addr} {len cap : Nat} {L : List R} (h : Mine w B (.slice a len cap) L) : len ≤ cap ∧ cap ≤ maxLen := by
  have hl := h.len
  rcases h.2 with ⟨h0, h2⟩ | ⟨g', cap', cur, hv, hB, hh, hc, hm, -⟩
  · injection h0 with e1 e2 e3; subst e2 e3; exact ⟨Nat.le_refl _, Nat.zero_le _⟩
  · injection hv with e1 e2 e3; subst e3; exact ⟨by omega, hm⟩
theorem Heads.mono {w : World} {B B' : Nat} {v : Value} {cs : List Value} (h : Heads w B v cs) (hb : B' ≤ B) : Heads w B' v cs := by
  obtain ⟨h1, h0 | ⟨g, cap, cur, hv, hB, h2⟩⟩ := h
  · exact ⟨h1, .inl h0⟩
  · exact ⟨h1, .inr ⟨g, cap, cur, hv, Nat.le_trans hb hB, h2⟩⟩
theorem heads_none (w : World) (B : Nat) : Heads w B (.slice none 0 0) [] := ⟨rfl, .inl ⟨rfl, rfl⟩⟩
/-- What the loop keeps: the pages that have been cut lie in the copy's block, below the rows that are left; their heads in another. -/
structure Packs (w w2 : World) (g k : Nat) (L : List R) (y : Value) (es : List (El pageRep)) (wr : World) : Prop where
  old : Below w2.heap.size w2 wr
  heads : Heads wr w2.heap.size y (cellsOf es)
  pages : OwnAll pageRep w2 w.heap.size es
  low : ∀ e ∈ es, ∀ x ∈ e.F, x.b = g ∧ x.hi ≤ k * 3
  list : es.map El.x ++ R.packEnd (R.packSt (L.drop k)) = R.packEnd (R.packSt L)
  few : es.length ≤ k
theorem Packs.push {w w2 wr w3 w4 : World} {g k n c i g4 c4 : Nat} {L : List R} {y : Value} {es : List (El pageRep)} (h : Packs w w2 g k L y es wr) (hM : Mine w2 w.heap.size (.slice (some ⟨g, 0, none⟩) n c) L) (hwf : ∀ r ∈ L, r.wf)
    (hk : k < n) (hf : R.First (L.drop k) i) (hb : Below wr.heap.size wr w3) (hh : Heads w4 w2.heap.size (.slice (some ⟨g4, 0, none⟩) ((cellsOf es).length + 1) c4) (cellsOf es ++ [.slice (some ⟨g, k * 3, none⟩) i i])) (hg : w3.grownBy w4 y.ownBlock) (hmax : n ≤ maxLen) :
    ∃ es', Packs w w2 g (k + i) L (.slice (some ⟨g4, 0, none⟩) ((cellsOf es).length + 1) c4) es' w4 ∧ (cellsOf es').length = (cellsOf es).length + 1 := by
  have hl := hM.len
  have hdl : 0 < (L.drop k).length := by rw [List.length_drop]; omega
  have hip := hf.pos hdl
  have hile := hf.le
  rw [List.length_drop] at hile
  have hs2 : w2.heap.size ≤ w3.heap.size := Nat.le_trans h.old.size hb.size
  have hcs : cellsOf (es ++ [(⟨(L.drop k).take i, (some ⟨g, k * 3, none⟩, i, i), [⟨g, k * 3, k * 3 + i * 3⟩]⟩ : El pageRep)]) = cellsOf es ++ [.slice (some ⟨g, k * 3, none⟩) i i] := by rw [cellsOf_snoc]; rfl
  refine ⟨es ++ [⟨(L.drop k).take i, (some ⟨g, k * 3, none⟩, i, i), [⟨g, k * 3, k * 3 + i * 3⟩]⟩], ⟨?_, ?_, ?_, ?_, ?_, ?_⟩, by rw [hcs]; simp⟩
  · exact (h.old.trans (hb.mono h.old.size)).grown hg hs2 fun j hj => (h.heads.own j hj).1
  · rw [hcs]; exact hh
  · refine ⟨fun e he => ?_, ?_⟩
    · rcases List.mem_append.1 he with he | he
      · exact h.pages.1 e he
      · rw [List.mem_singleton.1 he]
        exact ⟨rows_part hM hwf (show k + i ≤ n by omega) hip (show i ≤ maxLen by omega), fun e => by cases e⟩
    · rw [List.pairwise_append]
      refine ⟨h.pages.2, List.pairwise_singleton _ _, fun e he f hf' x hx z hz => ?_⟩
      rw [List.mem_singleton.1 hf'] at hz
      rw [List.mem_singleton.1 hz]
      exact .inr (.inl (h.low e he x hx).2)
  · intro e he x hx
    rcases List.mem_append.1 he with he | he
    · obtain ⟨h1, h2⟩ := h.low e he x hx
      exact ⟨h1, by omega⟩
    · rw [List.mem_singleton.1 he] at hx
      rw [List.mem_singleton.1 hx]
      exact ⟨rfl, by simp only []; omega⟩
  · rw [← h.list, hf.pack hdl, List.map_append, List.append_assoc, List.drop_drop]
    rfl
  · rw [List.length_append, List.length_singleton]; have := h.few; omega
theorem Packs.done {w w2 wr : World} {g n : Nat} {L : List R} {a : Option Addr} {m c : Nat} {es : List (El pageRep)} (h : Packs w w2 g n L (.slice a m c) es wr) (hn : L.length = n) (h2 : Below w.heap.size w w2) (hg : g < w2.heap.size) (hmax : n ≤ maxLen) :
    ∃ F, SeqOwn pageRep wr w.heap.size a m (R.packEnd (R.packSt L)) F := by
  have hli := h.list
  rw [List.drop_of_length_le (by omega)] at hli
  have e0 : R.packEnd (R.packSt []) = [] := rfl
  rw [e0, List.append_nil] at hli
  obtain ⟨F, hF⟩ := pages_done (h.heads.mono h2.size) (h.pages.keep h.old) (fun e he x hx e2 => by
    have h1 := (h.low e he x hx).1
    have h3 := (h.heads.own _ e2).1
    omega) (by have := h.few; omega)
  exact ⟨F, by rw [← hli]; exact hF⟩
def lenV : Value → Nat
  | .slice _ n _ => n
  | _ => 0
set_option maxRecDepth 100000 in
theorem ipack (a : Option Addr) (n c : Nat) (L : List R) (w : World) (h : SeqIn rowRep w a n L) (hn : n ≤ 1000000000) :
    Calls Tryz.prog 6 #[.slice a n c] w (Gives pageRep (R.pack L) w) := by
  have HL := Lib.hid h.1
  have HI := Lib.hid (rows_in h)
  clear h
  go_enter Tryz.func6, Tryz.ntmps6
  go_wp2_with fail
  refine (iare a n c L _ HI.out (by omega)).mono ?_
  rintro e w1 ⟨rfl, b1⟩
  have B1 := Lib.hid b1
  have I1 := Lib.hid (HI.out.keep b1)
  clear b1
  cases hok : okRows L with
  | false =>
    have HP := Lib.hid (R.pack_bad hok)
    clear hok
    go_wp2_with fail
    go_ret
    exact ⟨_, _, _, [], rfl, by rw [HP.out]; exact ⟨rfl, Nat.zero_le _, .inl ⟨rfl, rfl⟩⟩, B1.out⟩
  | true =>
    have HP := Lib.hid (R.pack_eq hok)
    clear hok
    go_wp2_with fail
    refine (clone a n c L _ I1.out (by omega)).mono ?_
    rintro e w2 ⟨v, rfl, hm, b2⟩
    have B2 := Lib.hid (B1.out.trans (b2.mono B1.out.size))
    have M2 := Lib.hid (hm.mono B1.out.size)
    have hwf := HI.out.2.1
    have HWF := Lib.hid hwf
    clear hm b2 hwf
    obtain ⟨av, cv, rfl⟩ := M2.out.slice
    obtain ⟨hcv, hcm⟩ := M2.out.caps
    rcases Nat.eq_zero_or_pos n with h0 | h0
    · have hL0 : L = [] := List.eq_nil_of_length_eq_zero (by rw [HL.out, h0])
      have HF := Lib.hid (show R.pack L = [] by rw [hL0]; rfl)
      have hll : L.length = 0 := by rw [hL0]; rfl
      clear hL0
      rw [hll]
      go_wp2_with fail
      go_loopw [3, 4] (fun u y wr => u = .slice av 0 cv ∧ y = .slice none 0 0 ∧ Hid (Below w.heap.size w wr)) (fun _ _ _ => 0)
      case atStart => exact ⟨rfl, rfl, B2⟩
      case round =>
        obtain ⟨rfl, rfl, hb⟩ := hrel
        go_wp2_with fail
        go_ret
        exact ⟨_, _, _, [], rfl, by rw [HF.out]; exact ⟨rfl, Nat.zero_le _, .inl ⟨rfl, rfl⟩⟩, hb.out⟩
    · obtain ⟨g, rfl⟩ : ∃ g, av = some ⟨g, 0, none⟩ := by
        obtain ⟨g, c', e, -, -⟩ := M2.out.addr (by intro e; injection e with _ e2 _; have := HL.out; omega)
        injection e with e1 _ _
        exact ⟨g, e1⟩
      have hlen := HL.out
      rw [hlen] at M2 hcv ⊢
      have HGL := Lib.hid M2.out.lt
      have P0 : Hid (Packs w w2 g 0 L (.slice none 0 0) [] w2) := {
        old := Below.refl _ _
        heads := heads_none _ _
        pages := OwnAll.nil _ _ _
        low := fun e he => by cases he
        list := rfl
        few := Nat.le_refl _ }
      clear hlen
      unfold maxLen at hcm
      go_wp2_with fail
      go_loopw [3, 4] (fun u y wr => ∃ (k m d : Nat) (au : Option Addr) (es : List (El pageRep)) (z : Value), z = y ∧ u = .slice au m d ∧ k + m = n ∧ k + d = cv ∧ (0 < m → au = some ⟨g, k * 3, none⟩) ∧ Hid (Packs w w2 g k L y es wr)) (fun u _ _ => lenV u)
      case atStart => exact ⟨0, n, cv, _, [], _, rfl, rfl, by omega, by omega, fun _ => rfl, P0⟩
      case round =>
        obtain ⟨k, m, d, au, es, z, rfl, rfl, hkm, hkd, hau, hP⟩ := hrel
        rcases Nat.eq_zero_or_pos m with hm0 | hm0
        · subst hm0
          have hkn : k = n := by omega
          have hfin : Gives pageRep (R.pack L) w (.returned z) wr := by
            obtain ⟨ay, cy, rfl⟩ := hP.out.heads.slice
            rw [hkn] at hP
            obtain ⟨F, hF⟩ := hP.out.done HL.out B2.out HGL.out (by unfold maxLen; omega)
            exact ⟨ay, _, cy, F, rfl, by rw [HP.out]; exact hF, B2.out.trans (hP.out.old.mono B2.out.size)⟩
          have HFIN := Lib.hid hfin
          clear hfin hkn
          go_wp2_with fail
          go_ret
          exact HFIN.out
        · obtain rfl := hau hm0
          have hpos : (0 : Int) < (m : Int) := by omega
          have HR := Lib.hid ((rows_rest M2.out HWF.out hkm hm0 (by unfold maxLen; omega)).keep hP.out.old)
          go_wp2_with fail
          refine (icount (some ⟨g, k * 3, none⟩) m d (L.drop k) wr HR.out (by omega) (by omega) (by unfold maxLen; omega)).mono ?_
          rintro e w3 ⟨i, rfl, hf, b3⟩
          have hile := hf.le
          rw [List.length_drop, HL.out] at hile
          have hip := hf.pos (by rw [List.length_drop, HL.out]; omega)
          have HF := Lib.hid hf
          have H3 := Lib.hid (hP.out.heads.keep b3)
          have B3 := Lib.hid b3
          have hs3 : w2.heap.size ≤ w3.heap.size := Nat.le_trans hP.out.old.size b3.size
          have hcl : (cellsOf es).length = es.length := by rw [cellsOf_length]; exact Nat.mul_one _
          have hfew := hP.out.few
          clear hf b3
          have hid1 : (i : Int) ≤ (d : Int) := by omega
          have him1 : (i : Int) ≤ (m : Int) := by omega
          go_wp2_with (at_builtin; refine wpList_pushP (.tmp 16) (.tmp 22) w3.heap.size rfl rfl rfl rfl rfl H3.out hs3 (by omega) rfl ?_; intro g4 c4 w4 hh4 hg4 hat4)
          obtain ⟨es', hP', hel⟩ := hP.out.push M2.out HWF.out (by omega) HF.out B3.out hh4 hg4 (by unfold maxLen; omega)
          rw [hcl] at hP'
          have HP' := Lib.hid hP'
          clear hP' hh4 hg4 hat4
          go_wp2_with fail
          go_roundw
          case rel => exact ⟨k + i, m - i, d - i, _, es', _, rfl, rfl, by omega, by omega, fun h => by rw [if_neg (by omega), Nat.add_mul], HP'⟩
          case measure => simp [lenV]; omega
end Go.Proofs.YtoiobaiiammehaaGreatDoor
/- Small lemmas about rows of bytes that a call made itself: what is appended, what string(b) reads; no function of the program is walked here. -/
namespace Go.Proofs.YtoiobaiiammehaaGreatDoor
open Go.RowKit

/-- A row of bytes as cells. -/
def b8 (l : List UInt8) : List Value := l.map fun b => Value.int .u8 (b.toNat : Int)
theorem b8_nil : b8 [] = [] := rfl
theorem b8_length (l : List UInt8) : (b8 l).length = l.length := by simp [b8]
theorem b8_snoc (l : List UInt8) (b : UInt8) (n : Int) (h : n = (b.toNat : Int)) : b8 l ++ [Value.int .u8 n] = b8 (l ++ [b]) := by subst h; simp [b8]
theorem b8_get (l : List UInt8) (j : Nat) (hj : j < l.length) : (b8 l)[j]? = some (Value.int .u8 (l[j].toNat : Int)) := by simp [b8, hj]
theorem b8_one (l : List UInt8) : ∀ u ∈ b8 l, u.oneCell' = true := by
  intro u hu
  simp only [b8, List.mem_map] at hu
  obtain ⟨b, _, rfl⟩ := hu
  rfl
theorem b8_set (l : List UInt8) (j : Nat) (b : UInt8) (n : Int) (h : n = (b.toNat : Int)) : (b8 l).set j (Value.int .u8 n) = b8 (l.set j b) := by subst h; simp [b8, List.map_set]
theorem b8_made (n : Nat) : (madeCells (Value.int .u8 0).cells (n * 1)).toList = b8 (List.replicate n 0) := by
  rw [Nat.mul_one, show (Value.int .u8 0).cells = #[Value.int .u8 0] from rfl, toList_madeCells_one]; simp [b8]
theorem byte_info : (Tryz.prog.info? 5).map (fun i => (i.zero, i.size, i.bytes)) = some (some (.int .u8 0), 1, 1) := by kernel_rfl
/-- 'string(b)' of a row of the call's own. -/
theorem run_own_string {w : World} {base : Nat} {v : Value} {n : Nat} {l : List UInt8} (h : w.ownsRow base 5 1 v n (b8 l)) :
    (convert 22 9 v).run Tryz.prog w = .ok (.string ⟨l.toArray⟩) w := by
  have hn : l.length = n := by have := h.1; rw [b8_length] at this; omega
  rcases h.2 with ⟨rfl, h0⟩ | ⟨g, cap, cur, rfl, _, _, _, _, _, _⟩
  · subst h0
    have hl : l = [] := List.eq_nil_of_length_eq_zero hn
    subst hl
    rw [run_convert_bytes_string w _ _ _ none 0 0 Tryz.underlying22 Tryz.underlying5 Tryz.underlying9]
    rfl
  · have := hn
    subst this
    exact run_convert_bytes_back w _ _ _ ⟨g, 0, none⟩ cap l Tryz.underlying22 Tryz.underlying5 Tryz.underlying9 fun j hj => h.cells (g := g) rfl j _ (b8_get l j hj)
theorem cell_new1 (w : World) (u : Value) (t : TypeId) : ∀ (j : Nat) (x : Value), [u][j]? = some x → (w.alloc (.cells #[u] t)).cell? ((⟨w.heap.size, 0, none⟩ : Addr).add j) = some x := by
  intro j x hj
  match j, hj with
  | 0, hj => simp at hj; subst hj; simp [Addr.add]
/-- 'out = append(out, b)': one byte more on a row of the call's own, the byte in a block of its own. -/
theorem wpList_push {ops : Array Oper} {rest : List Oper} {o : Oper} {a : Act} {Q : Exit → Act → World → Prop} {W wr : World} {out : List UInt8} {n : Int} {v : Value} (s x : Operand) (b : UInt8)
    (hgd : o.guard = none) (ho : o.op = .call { callee := .builtin .append, args := #[s, x], argTypes := #[22, 22] })
    (hs : a.eval s = v) (hx : a.eval x = .slice (some ⟨wr.heap.size, 0, none⟩) 1 1) (hown : wr.ownsRow W.heap.size 5 1 v out.length (b8 out)) (hb : Below W.heap.size W wr)
    (hlen : out.length + 1 ≤ 140737488355328) (hn : n = (b.toNat : Int))
    (h : ∀ v' w', w'.ownsRow W.heap.size 5 1 v' (out ++ [b]).length (b8 (out ++ [b])) → Below W.heap.size W w' → wpList Tryz.prog ops Q rest (a.put o.dst v') w') :
    wpList Tryz.prog ops Q (o :: rest) a (wr.alloc (.cells #[.int .u8 n] 5)) := by
  obtain ⟨i0, hi, hz0, hz1, hz2⟩ := info_parts byte_info
  have hsz := hb.size
  refine wpList_append_own _ hgd s x 22 ho W.heap.size 5 i0 (.int .u8 0) 1 1 Tryz.underlying22 hi hz0 hz1 hz2 rfl (by decide) v out.length (b8 out) hs (hown.alloc _)
    ⟨wr.heap.size, 0, none⟩ 1 1 [.int .u8 n] hx rfl (cell_new1 _ _ _) (by intro u hu; simp at hu; subst hu; rfl) (by unfold maxLen; omega) (by omega) (by simp; omega) ?_
  intro v' w' hown' hg _
  rw [b8_snoc out b n hn] at hown'
  refine h v' w' (by simpa using hown') ((hb.alloc hsz _).grown hg (by simp; omega) fun k hk => (hown.lt k hk).1)
theorem b8_snoc2 (l : List UInt8) (b c : UInt8) (m n : Int) (h : m = (b.toNat : Int)) (h' : n = (c.toNat : Int)) : b8 l ++ [Value.int .u8 m, Value.int .u8 n] = b8 (l ++ [b, c]) := by subst h; subst h'; simp [b8]
theorem cell_new2 (w : World) (u v : Value) (t : TypeId) : ∀ (j : Nat) (x : Value), [u, v][j]? = some x → (w.alloc (.cells #[u, v] t)).cell? ((⟨w.heap.size, 0, none⟩ : Addr).add j) = some x := by
  intro j x hj
  match j, hj with
  | 0, hj => simp at hj; subst hj; simp [Addr.add]
  | 1, hj => simp at hj; subst hj; simp [Addr.add]
/-- 'out = append(out, b, c)'. -/
theorem wpList_push2 {ops : Array Oper} {rest : List Oper} {o : Oper} {a : Act} {Q : Exit → Act → World → Prop} {W wr : World} {out : List UInt8} {m n : Int} {v : Value} (s x : Operand) (b c : UInt8)
    (hgd : o.guard = none) (ho : o.op = .call { callee := .builtin .append, args := #[s, x], argTypes := #[22, 22] })
    (hs : a.eval s = v) (hx : a.eval x = .slice (some ⟨wr.heap.size, 0, none⟩) 2 2) (hown : wr.ownsRow W.heap.size 5 1 v out.length (b8 out)) (hb : Below W.heap.size W wr)
    (hlen : out.length + 2 ≤ 140737488355328) (hm : m = (b.toNat : Int)) (hn : n = (c.toNat : Int))
    (h : ∀ v' w', w'.ownsRow W.heap.size 5 1 v' (out ++ [b, c]).length (b8 (out ++ [b, c])) → Below W.heap.size W w' → wpList Tryz.prog ops Q rest (a.put o.dst v') w') :
    wpList Tryz.prog ops Q (o :: rest) a (wr.alloc (.cells #[.int .u8 m, .int .u8 n] 5)) := by
  obtain ⟨i0, hi, hz0, hz1, hz2⟩ := info_parts byte_info
  have hsz := hb.size
  refine wpList_append_own _ hgd s x 22 ho W.heap.size 5 i0 (.int .u8 0) 1 1 Tryz.underlying22 hi hz0 hz1 hz2 rfl (by decide) v out.length (b8 out) hs (hown.alloc _)
    ⟨wr.heap.size, 0, none⟩ 2 2 [.int .u8 m, .int .u8 n] hx rfl (cell_new2 _ _ _ _) (by intro u hu; simp at hu; rcases hu with rfl | rfl <;> rfl) (by unfold maxLen; omega) (by omega) (by simp; omega) ?_
  intro v' w' hown' hg _
  rw [b8_snoc2 out b c m n hm hn] at hown'
  refine h v' w' (by simpa using hown') ((hb.alloc hsz _).grown hg (by simp; omega) fun k hk => (hown.lt k hk).1)
/-- 'string([]byte{b})'. -/
theorem one_string (wr : World) (x : Int) (b : UInt8) (hx : x = (b.toNat : Int)) :
    (convert 22 9 (.slice (some ⟨wr.heap.size, 0, none⟩) 1 1)).run Tryz.prog (wr.alloc (.cells #[.int .u8 x] 5)) = .ok (.string ⟨[b].toArray⟩) (wr.alloc (.cells #[.int .u8 x] 5)) := by
  subst hx
  exact run_convert_bytes_back _ _ _ _ ⟨wr.heap.size, 0, none⟩ 1 [b] Tryz.underlying22 Tryz.underlying5 Tryz.underlying9 fun j hj => cell_new1 wr _ _ j _ (by simp at hj; subst hj; rfl)
theorem ext_take (s : ByteArray) (k : Nat) : (s.extract 0 k).toList = s.data.toList.take k := by
  rw [ByteArray.toList_eq]
  simp
end Go.Proofs.YtoiobaiiammehaaGreatDoor
/- What the rows' listed variables give the walks: the table of powers of ten, and the two sentinel errors of strconv; and how they are kept. -/
namespace Go.Proofs.YtoiobaiiammehaaGreatDoor
open Go Go.RowKit Go.Shelf

theorem gTab : Tryz.prog.globalNamed "internal/strconv.uint64pow10" = some 5 := by kernel_rfl
theorem tTab : (Tryz.prog.globals[5]?).map (·.type) = some 136 := by kernel_rfl
theorem gES : Tryz.prog.globalNamed "strconv.ErrSyntax" = some 3 := by kernel_rfl
theorem tES : (Tryz.prog.globals[3]?).map (·.type) = some 65 := by kernel_rfl
theorem starName : "*" ++ "errors.errorString" = "*errors.errorString" := by decide
theorem rowErr (u : TypeId) (h : Tryz.prog.typeName? 3 u = some "*errors.errorString") : u = 142 :=
  typeName_ptr_named (nm := "errors.errorString") (by rw [starName]; kernel_rfl) (by kernel_rfl) (by decide) u (by rw [starName]; exact h)
theorem tabDatum : (Rows.laid_internal_strconv_uint64pow10 : DataW Unit) = Lib.tabData .u64 Lib.pow10Tab := by kernel_rfl

/-- The table of powers of ten lies as the library lays it. -/
def Tab (w : World) : Prop := Lib.TabIs Tryz.prog w "internal/strconv.uint64pow10" .u64 Lib.pow10Tab
/-- strconv.ErrSyntax holds a pointer's value. -/
def Syn (w : World) : Prop := ∃ tp p, w.var? Tryz.prog "strconv.ErrSyntax" = some #[.iface tp p]
theorem Tab.stay {w w' : World} (h : Tab w) (hb : Below w.heap.size w w') : Tab w' := Joins.tab_stays gTab h hb (Nat.le_refl _)
theorem Syn.stay {w w' : World} (h : Syn w) (hb : Below w.heap.size w w') : Syn w' := by
  obtain ⟨tp, p, h⟩ := h
  exact ⟨tp, p, Joins.var_stays gES h hb (Nat.le_refl _)⟩
theorem tab_of {r : List (String × DataW Unit)} {w : World} (h : laidMet Tryz.prog (("internal/strconv.uint64pow10", Rows.laid_internal_strconv_uint64pow10) :: r) w) : Tab w := by
  rw [tabDatum] at h
  exact Lib.tabIs_of_head gTab tTab Tryz.underlying136 Tryz.underlying120 (by kernel_rfl) (by kernel_rfl) h
theorem syn_of {r : List (String × DataW Unit)} {w : World} (h : laidMet Tryz.prog (("strconv.ErrSyntax", Rows.laid_strconv_ErrSyntax) :: r) w) : Syn w := by
  obtain ⟨a, s, hv, -, -, -⟩ := laid_sentinel h gES tES Tryz.underlying65 rowErr Tryz.underlying142 Tryz.underlying144 rfl rfl Tryz.underlying9 (by kernel_rfl) (by kernel_rfl)
  exact ⟨_, _, hv⟩

/-- FormatInt of the program. -/
theorem below_grow (w : World) (k : Nat) (os : Array Obj) : Below w.heap.size w (Sort.grow (w.drewN k) os) :=
  ⟨rfl, rfl, rfl, by simp [Sort.grow], fun i hi => Sort.heap_grow_old (w.drewN k) os hi⟩
theorem itoa_any (n : Int) (w : World) (h0 : -9223372036854775808 ≤ n) (h1 : n ≤ 9223372036854775807) (ht : Tab w) :
    Calls Tryz.prog 74 #[.int .i64 n] w fun e w' => e = .returned (.string ⟨(Lib.itoa n).toArray⟩) ∧ Below w.heap.size w w' := by
  refine (Tryz.strconv_Itoa n h0 h1 w ht).mono fun e w' ⟨he, hw⟩ => ⟨he, ?_⟩
  obtain ⟨k, os, rfl⟩ := hw
  exact below_grow w k os
theorem ifmt (n : Int) (w : World) (h0 : -9223372036854775808 ≤ n) (h1 : n ≤ 9223372036854775807) (ht : Tab w) :
    Calls Tryz.prog 67 #[.int .i64 n] w fun e w' => e = .returned (.string ⟨(Lib.itoa n).toArray⟩) ∧ Below w.heap.size w w' := by
  have HT := Lib.hid ht
  clear ht
  go_enter Tryz.func67, Tryz.ntmps67
  go_wp2_with fail
  refine (itoa_any n _ h0 h1 HT.out).mono ?_
  rintro e w1 ⟨rfl, b1⟩
  go_wp2_with fail
  go_ret
  exact ⟨rfl, b1⟩
theorem laid_stay {w w' : World} (h : Tab w ∧ Syn w) (hb : Below w.heap.size w w') : Tab w' ∧ Syn w' := ⟨h.1.stay hb, h.2.stay hb⟩
end Go.Proofs.YtoiobaiiammehaaGreatDoor
/- Rows of strings that a call made itself: what one append adds, and what lies there; no function of the program. -/
namespace Go.Proofs.YtoiobaiiammehaaGreatDoor
open Go.RowKit

/-- A row of strings as cells. -/
def strs (l : List (List UInt8)) : List Value := l.map fun p => Value.string ⟨p.toArray⟩
theorem strs_length (l : List (List UInt8)) : (strs l).length = l.length := by simp [strs]
theorem strs_snoc (l : List (List UInt8)) (p : List UInt8) (s : ByteArray) (h : s = ⟨p.toArray⟩) : strs l ++ [Value.string s] = strs (l ++ [p]) := by subst h; simp [strs]
theorem strs_get (l : List (List UInt8)) (j : Nat) (hj : j < l.length) : (strs l)[j]? = some (Value.string ⟨l[j].toArray⟩) := by simp [strs, hj]
theorem str_info : (Tryz.prog.info? 9).map (fun i => (i.zero, i.size, i.bytes)) = some (some (.string ByteArray.empty), 1, 16) := by kernel_rfl
/-- A piece of a string. -/
theorem piece (s : ByteArray) (a b : Nat) : s.extract a b = ⟨((s.data.toList.take b).drop a).toArray⟩ := by
  apply ByteArray.ext
  apply Array.toList_inj.1
  simp [List.drop_take]
/-- 'out = append(out, s)'. -/
theorem wpList_pushS {ops : Array Oper} {rest : List Oper} {o : Oper} {a : Act} {Q : Exit → Act → World → Prop} {wr : World} {B : Nat} {out : List (List UInt8)} {v : Value} (s x : Operand) (p : List UInt8) (b : ByteArray)
    (hgd : o.guard = none) (ho : o.op = .call { callee := .builtin .append, args := #[s, x], argTypes := #[54, 54] })
    (hs : a.eval s = v) (hx : a.eval x = .slice (some ⟨wr.heap.size, 0, none⟩) 1 1) (hown : wr.ownsRow B 9 1 v out.length (strs out)) (hB : B ≤ wr.heap.size)
    (hlen : (out.length + 1) * 16 ≤ 140737488355328) (hb : b = ⟨p.toArray⟩)
    (h : ∀ v' w', w'.ownsRow B 9 1 v' (out ++ [p]).length (strs (out ++ [p])) → Below B wr w' → wpList Tryz.prog ops Q rest (a.put o.dst v') w') :
    wpList Tryz.prog ops Q (o :: rest) a (wr.alloc (.cells #[.string b] 9)) := by
  obtain ⟨i0, hi, hz0, hz1, hz2⟩ := info_parts str_info
  refine wpList_append_own _ hgd s x 54 ho B 9 i0 (.string ByteArray.empty) 1 16 Tryz.underlying54 hi hz0 hz1 hz2 rfl (by decide) v out.length (strs out) hs (hown.alloc _)
    ⟨wr.heap.size, 0, none⟩ 1 1 [.string b] hx rfl (cell_new1 _ _ _) (by intro u hu; simp at hu; subst hu; rfl) (by unfold maxLen; omega) (by omega) (by simp; omega) ?_
  intro v' w' hown' hg _
  rw [strs_snoc out p b hb] at hown'
  exact h v' w' (by simpa using hown') (((Below.refl B wr).alloc hB _).grown hg (by simp; omega) fun k hk => (hown.lt k hk).1)
/-- A slice of strings: its cells hold them. -/
def IsStrs (w : World) (g : Nat) (l : List (List UInt8)) : Prop := (∃ cs fz, w.heap[g]? = some (.cells cs 9 fz)) ∧ ∀ t (h : t < l.length), w.cell? ⟨g, t, none⟩ = some (.string ⟨l[t].toArray⟩)
theorem IsStrs.lt {w : World} {g : Nat} {l : List (List UInt8)} (h : IsStrs w g l) : g < w.heap.size := by
  obtain ⟨⟨cs, fz, h⟩, -⟩ := h
  exact lt_of_block h
theorem IsStrs.same {w w' : World} {g : Nat} {l : List (List UInt8)} (h : IsStrs w g l) (hb : w'.heap[g]? = w.heap[g]?) : IsStrs w' g l :=
  ⟨by obtain ⟨⟨cs, fz, h⟩, -⟩ := h; exact ⟨cs, fz, hb.trans h⟩, fun t ht => (World.cell?_of_block hb).trans (h.2 t ht)⟩
theorem IsStrs.below {w w' : World} {g B : Nat} {l : List (List UInt8)} (h : IsStrs w g l) (hb : Below B w w') (hg : g < B) : IsStrs w' g l := h.same (hb.block g hg)
theorem IsStrs.keep {w w' : World} {g : Nat} {l : List (List UInt8)} (h : IsStrs w g l) (hb : Below w.heap.size w w') : IsStrs w' g l := h.below hb h.lt
theorem IsStrs.other {w : World} {g g' i : Nat} {l : List (List UInt8)} (h : IsStrs w g l) (hne : g ≠ g') (u : Value) : IsStrs (w.setCell ⟨g', i, none⟩ u) g l := h.same (Below.heap_setCell _ _ _ _ (fun e => hne e))
theorem strs_of_own {w : World} {B : Nat} {v : Value} {l : List (List UInt8)} (h : w.ownsRow B 9 1 v l.length (strs l)) (hl : 0 < l.length) : ∃ g cap, v = .slice (some ⟨g, 0, none⟩) l.length cap ∧ B ≤ g ∧ IsStrs w g l := by
  have h' := h
  obtain ⟨g, cap, rfl⟩ := Joins.ownsRow_form h hl
  have hc : ∀ t (ht : t < l.length), w.cell? ⟨g, t, none⟩ = some (.string ⟨l[t].toArray⟩) := fun t ht => by
    have := h.cells (g := g) rfl t _ (strs_get l t ht)
    by_cases h0 : t = 0
    · subst h0; simpa [Addr.add] using this
    · simpa [Addr.add, h0] using this
  refine ⟨g, cap, rfl, ?_, ?_, hc⟩
  · exact (h.lt g rfl).1
  · rcases h'.2 with ⟨h0, _⟩ | ⟨g', cap', cur, h0, _, hh, _⟩
    · cases h0
    · cases h0
      exact ⟨cur, _, hh⟩
/-- 'make([]string, n)'. -/
theorem run_make_strs (n : Nat) (hn : n ≤ 1000000000000) (w : World) :
    (Instr.makeSlice 54 (.int .i64 (n : Int)) (.int .i64 (n : Int))).run Tryz.prog w = .ok (.slice (some ⟨w.heap.size, 0, none⟩) n n) (w.alloc (.cells (strs (List.replicate n [])).toArray 9)) := by
  have h := run_make_row' (P := Tryz.prog) 54 9 (.string ByteArray.empty) 16 Tryz.underlying54 str_info rfl .i64 .i64 n (by omega) (by omega) w
  rw [h]
  have e : madeCells #[Value.string ByteArray.empty] n = (strs (List.replicate n [])).toArray := by
    apply Array.toList_inj.1
    rw [toList_madeCells_one]
    simp only [strs, List.map_replicate]
    rfl
  rw [e]
theorem strs_block {w : World} {g : Nat} {M : List (List UInt8)} {t : TypeId} (h : w.heap[g]? = some (.cells (strs M).toArray t (0, 0))) (k : Nat) (hk : k < M.length) : w.cell? ⟨g, k, none⟩ = some (.string ⟨M[k].toArray⟩) ∧ w.frozen? ⟨g, k, none⟩ = false := by
  refine ⟨?_, by simp [World.frozen?, h]⟩
  simp only [World.cell?, h]
  rw [List.getElem?_toArray]
  exact strs_get M k hk
theorem strs_set {w : World} {g : Nat} {M : List (List UInt8)} {t : TypeId} (h : w.heap[g]? = some (.cells (strs M).toArray t (0, 0))) (k : Nat) (x : List UInt8) : (w.setCell ⟨g, k, none⟩ (.string ⟨x.toArray⟩)).heap[g]? = some (.cells (strs (M.set k x)).toArray t (0, 0)) := by
  rw [Joins.block_setCell h (i := k)]
  congr 2
  simp [strs, List.map_set]
theorem set_next' {α : Type} (F : List α) (z : α) (n k : Nat) (x : α) (hk : k < n) (hF : F.length = k) : (F ++ List.replicate (n - k) z).set k x = (F ++ [x]) ++ List.replicate (n - (k + 1)) z := by
  have e : n - k = (n - (k + 1)) + 1 := by omega
  rw [List.set_append_right _ _ (by omega), hF, Nat.sub_self, e, List.replicate_succ, List.set_cons_zero, List.append_assoc]
  rfl
end Go.Proofs.YtoiobaiiammehaaGreatDoor
/- strings.SplitN over the program: what it asks of the library's own variable, and how that is kept. -/
namespace Go.Proofs.YtoiobaiiammehaaGreatDoor
open Go Go.RowKit Go.Shelf

/-- internal/bytealg.MaxLen holds some int. -/
def Mx (w : World) : Prop := ∃ m, w.cell? ⟨0, 0, none⟩ = some (.int .i64 m)
theorem mx_of {w : World} (h : w.ShapedOpen Tryz.prog) : Mx w := Tryz.laysM147.s1_3 w h
theorem Mx.stay {w w' : World} (h : Mx w) (hb : Below w.heap.size w w') : Mx w' := by
  obtain ⟨m, h⟩ := h
  exact ⟨m, (hb.cell (World.block_lt_of_cell? w _ h)).trans h⟩
theorem splitn (s sep : ByteArray) (n : Nat) (w : World) (hm : Mx w) (hs : s.size < 4294967281) (h1 : 1 ≤ sep.size) (hn : 1 ≤ n) (hn63 : n ≤ 9223372036854775807) :
    Calls Tryz.prog 63 #[.string s, .string sep, .int .i64 n] w fun e w' =>
      e = .returned (.slice (some ⟨w.heap.size, 0, none⟩) (Lib.splitB sep 0 (min n (s.size + 1) - 1) s).length (min n (s.size + 1))) ∧ w' = w.alloc (.cells (Lib.cellsOf (Lib.splitB sep 0 (min n (s.size + 1) - 1) s) (min n (s.size + 1))) 9) := by
  obtain ⟨m, hm⟩ := hm
  exact Any.strings_SplitN { Tryz.laysM147 with } Tryz.laysM147.i9 s sep n m w hs hm h1 hn hn63
theorem size_data (s : ByteArray) : s.data.toList.length = s.size := by simp
/-- strings.SplitN at a sign: all pieces, or n of them where there are more. -/
theorem splitn_sign (s : ByteArray) (b : UInt8) (n : Nat) (w : World) (hm : Mx w) (hs : s.size < 4294967281) (hn : 1 ≤ n) (hn63 : n ≤ 9223372036854775807) :
    Calls Tryz.prog 63 #[.string s, .string ⟨#[b]⟩, .int .i64 n] w fun e w' =>
      ∃ len cap, e = .returned (.slice (some ⟨w.heap.size, 0, none⟩) len cap) ∧ Below w.heap.size w w' ∧ (((Cut.cut b s.data.toList).length ≤ n ∧ len = (Cut.cut b s.data.toList).length ∧ IsStrs w' w.heap.size (Cut.cut b s.data.toList)) ∨ (n < (Cut.cut b s.data.toList).length ∧ len = n)) := by
  refine (splitn s ⟨#[b]⟩ n w hm hs (Nat.le_refl 1) hn hn63).mono ?_
  rintro e w' ⟨rfl, rfl⟩
  refine ⟨_, _, rfl, (Below.refl _ _).alloc (Nat.le_refl _) _, ?_⟩
  have hd := Lib.splitB_data ⟨#[b]⟩ 0 (min n (s.size + 1) - 1) s
  have hsl := size_data s
  have e : (⟨#[b]⟩ : ByteArray).data.toList = [b] := rfl
  rw [e] at hd
  have hl : (Lib.splitB ⟨#[b]⟩ 0 (min n (s.size + 1) - 1) s).length = (Lib.splitK [b] 0 (min n (s.size + 1) - 1) s.data.toList).length := by rw [← hd, List.length_map]
  rw [hl]
  rcases Cut.splitN_sign b n hn s.data.toList with ⟨h1, h2⟩ | ⟨h1, h2⟩
  · left
    rw [hsl] at h1
    rw [h1] at hd ⊢
    refine ⟨h2, rfl, ⟨_, _, heap_alloc_new _ _⟩, fun t ht => ?_⟩
    have hq : (Lib.splitB ⟨#[b]⟩ 0 (min n (s.size + 1) - 1) s).length = (Cut.cut b s.data.toList).length := by rw [← hd, List.length_map]
    have ht' : t < (Lib.splitB ⟨#[b]⟩ 0 (min n (s.size + 1) - 1) s).length := by rw [hq]; exact ht
    have hp : (Lib.splitB ⟨#[b]⟩ 0 (min n (s.size + 1) - 1) s)[t].data.toList = (Cut.cut b s.data.toList)[t] := by
      have : ((Lib.splitB ⟨#[b]⟩ 0 (min n (s.size + 1) - 1) s).map (·.data.toList))[t]? = some ((Cut.cut b s.data.toList)[t]) := by rw [hd, List.getElem?_eq_getElem ht]
      rw [List.getElem?_map, List.getElem?_eq_getElem ht', Option.map_some] at this
      exact Option.some.inj this
    have hv : Value.string (Lib.splitB ⟨#[b]⟩ 0 (min n (s.size + 1) - 1) s)[t] = .string ⟨((Cut.cut b s.data.toList)[t]).toArray⟩ := by rw [← hp, Joins.bytes_eta]
    rw [← hv]
    simp only [World.cell?, heap_alloc_new]
    simp only [Lib.cellsOf, List.getElem?_toArray]
    rw [List.getElem?_append_left (by simpa using ht'), List.getElem?_map, List.getElem?_eq_getElem ht']
    rfl
  · right
    rw [hsl] at h1
    exact ⟨h2, h1⟩
end Go.Proofs.YtoiobaiiammehaaGreatDoor
/- strings.CutPrefix and strings.Cut at one sign, by the library's contracts. -/
namespace Go.Proofs.YtoiobaiiammehaaGreatDoor
open Go Go.RowKit Go.Shelf

theorem below_drewN {B : Nat} {a w : World} (h : Below B a w) (n : Nat) : Below B a (w.drewN n) := ⟨h.os, h.tape, h.output, h.size, h.block⟩
theorem bytes_list (s : ByteArray) : (⟨s.data.toList.toArray⟩ : ByteArray) = s := by simp
theorem cutsign (s : ByteArray) (b : UInt8) (w : World) (hm : Mx w) (hs : s.size < 4294967281) :
    Calls Tryz.prog 51 #[.string s, .string ⟨#[b]⟩] w fun e w' => Below w.heap.size w w' ∧
      ((b ∉ s.data.toList ∧ e = .returned (.tuple #[.string s, .string ⟨#[]⟩, .bool false])) ∨
        ∃ x y, s.data.toList = x ++ b :: y ∧ b ∉ x ∧ e = .returned (.tuple #[.string ⟨x.toArray⟩, .string ⟨y.toArray⟩, .bool true])) := by
  obtain ⟨m, hm⟩ := hm
  refine (Any.strings_Cut { Tryz.laysM145 with } s ⟨#[b]⟩ m w hs hm).mono ?_
  rintro e w' ⟨rfl, n, rfl⟩
  refine ⟨below_drewN (Below.refl _ _) n, ?_⟩
  have hd : (⟨#[b]⟩ : ByteArray).data.toList = [b] := rfl
  rw [hd]
  unfold Lib.cut
  rcases Cut.index_sign b s.data.toList with ⟨h1, h2⟩ | ⟨i, h1, h2, h3, h4⟩
  · left
    refine ⟨h2, ?_⟩
    rw [if_neg (by rw [h1]; omega), bytes_list]
  · right
    refine ⟨s.data.toList.take i, s.data.toList.drop (i + 1), h4, h3, ?_⟩
    rw [if_pos (by rw [h1]; omega), h1]
    rfl
theorem cutpre (s : ByteArray) (b : UInt8) (w : World) :
    Calls Tryz.prog 50 #[.string s, .string ⟨#[b]⟩] w fun e w' => w' = w ∧
      ((s.data.toList.head? ≠ some b ∧ e = .returned (.tuple #[.string s, .bool false])) ∨
        ∃ q, s.data.toList = b :: q ∧ e = .returned (.tuple #[.string ⟨q.toArray⟩, .bool true])) := by
  refine (Tryz.strings_CutPrefix s ⟨#[b]⟩ w).mono ?_
  rintro e w' ⟨rfl, rfl⟩
  refine ⟨rfl, ?_⟩
  have hd : (⟨#[b]⟩ : ByteArray).data.toList = [b] := rfl
  rw [hd]
  unfold Lib.trimPrefix Lib.hasPrefix
  cases hl : s.data.toList with
  | nil =>
    left
    refine ⟨by simp, ?_⟩
    have hs : s = ⟨#[]⟩ := by
      apply ByteArray.ext
      apply Array.toList_inj.1
      exact hl
    rw [hs]; rfl
  | cons c q =>
    by_cases hc : b = c
    · right
      subst hc
      refine ⟨q, rfl, ?_⟩
      simp [List.isPrefixOf]
    · left
      refine ⟨by simpa using fun e => hc e.symm, ?_⟩
      have e : [b].isPrefixOf (c :: q) = false := by simp [List.isPrefixOf, hc]
      rw [e, ← hl]
      simp
end Go.Proofs.YtoiobaiiammehaaGreatDoor
/- The reference's l2Cut, by contract: all pieces between the signs. -/
namespace Go.Proofs.YtoiobaiiammehaaGreatDoor
open Go.RowKit

theorem data_get (s : ByteArray) (k : Nat) (h : k < s.size) : s.data.toList[k]'(by simpa using h) = s[k] := by simp; rfl
set_option maxRecDepth 100000 in
theorem scut (s : ByteArray) (b : UInt8) (n : Int) (hn : n = (b.toNat : Int)) (hs : s.size ≤ 1000000000000) (w : World) : Calls Tryz.prog 36 #[.string s, .int .u8 n] w fun e w' =>
    ∃ g cap, e = .returned (.slice (some ⟨g, 0, none⟩) (Cut.cut b s.data.toList).length cap) ∧ w.heap.size ≤ g ∧ IsStrs w' g (Cut.cut b s.data.toList) ∧ Below w.heap.size w w' := by
  have HN := Lib.hid hn
  clear hn
  have hsl : s.data.toList.length = s.size := by simp
  have HSL := Lib.hid hsl
  clear hsl
  have hb0 : Below w.heap.size w (w.alloc (.cells #[] 9)) := (Below.refl _ _).alloc (Nat.le_refl _) _
  have HO0 := Lib.hid (World.ownsRow_made (e := 9) (size := 1) (base := w.heap.size) w #[] 0 (Nat.le_refl _) (by unfold maxLen; omega) rfl)
  have HB0 := Lib.hid hb0
  clear hb0
  go_enter Tryz.func36, Tryz.ntmps36
  go_wp2_with fail
  go_loopw [5, 6, 7] (fun v f i wr => ∃ (k m : Nat) (x : Value), f = .int .i64 m ∧ i = .int .i64 k ∧ x = v ∧ k ≤ s.size ∧ m ≤ k ∧ Hid (m = Cut.mark b s.data.toList k) ∧ Hid (wr.ownsRow w.heap.size 9 1 x (Cut.scan b (s.data.toList.take k)).1.length (strs (Cut.scan b (s.data.toList.take k)).1)) ∧ Hid (Below w.heap.size w wr)) (fun _ _ i _ => s.size - (intOf i).toNat)
  case atStart =>
    refine ⟨0, 0, _, rfl, rfl, rfl, Nat.zero_le _, Nat.le_refl _, ?_, HO0, HB0⟩
    show _ = _
    rw [Cut.mark_zero]
  case round =>
    obtain ⟨k, m, x, rfl, rfl, rfl, hk, hmk, hm, hown, hb⟩ := hrel
    have hsz := hb.out.size
    have hdl : (Cut.scan b (s.data.toList.take k)).1.length ≤ s.size := by
      have := Cut.scan_length b (s.data.toList.take k)
      rw [List.length_take, HSL.out] at this; omega
    by_cases hlt : k < s.size
    · obtain ⟨c, hc⟩ : ∃ c, c = s[k] := ⟨_, rfl⟩
      have hcc : s.data.toList[k]'(by rw [HSL.out]; exact hlt) = c := by rw [hc]; exact data_get s k hlt
      have hnx := Cut.scan_next b s.data.toList k (by rw [HSL.out]; exact hlt)
      rw [hcc] at hnx
      by_cases he : s[k] = b
      · have hmh := Cut.mark_hit b s.data.toList k (by rw [HSL.out]; exact hlt) (by rw [hcc, hc]; exact he)
        rw [if_pos (hc.trans he)] at hnx
        have HNX := Lib.hid hnx
        have HMH := Lib.hid hmh
        have hd : (s[k].toNat : Int) = n := by rw [HN.out, he]
        have HP : Hid (s.extract m k = ⟨((s.data.toList.take k).drop (Cut.mark b s.data.toList k)).toArray⟩) := by show _ = _; rw [piece, hm.out]
        clear hnx hmh hc hcc he
        have hmk' : (m : Int) ≤ k := by omega
        have hks : (k : Int) ≤ s.size := by omega
        go_wp2_with (at_builtin; refine wpList_pushS (.tmp 20) (.tmp 25) _ _ rfl rfl rfl rfl hown.out hsz (by omega) HP.out ?_; intro v4 w4 hown4 hb4)
        go_roundw
        case rel =>
          refine ⟨k + 1, k + 1, _, by go_num, by go_num, rfl, by omega, Nat.le_refl _, HMH.out.symm, ?_, hb.out.trans hb4⟩
          show World.ownsRow _ _ _ _ _ _ _
          rw [HNX.out]; exact hown4
        case measure => simp [intOf]; omega
      · have hmh := Cut.mark_miss b s.data.toList k (by rw [HSL.out]; exact hlt) (by rw [hcc, hc]; exact he)
        rw [if_neg (by rw [hc]; exact he)] at hnx
        have HNX := Lib.hid hnx
        have HMH := Lib.hid hmh
        have hd : ((s[k].toNat : Int) == n) = false := by
          rw [HN.out, beq_eq_false_iff_ne]
          intro e
          exact he (UInt8.toNat_inj.1 (by omega))
        clear hnx hmh hc hcc he
        have hks : (k : Int) ≤ s.size := by omega
        go_wp2_with fail
        go_roundw
        case rel =>
          refine ⟨k + 1, m, _, rfl, by go_num, rfl, by omega, by omega, ?_, ?_, hb⟩
          · show _ = _
            rw [HMH.out]; exact hm.out
          · show World.ownsRow _ _ _ _ _ _ _
            rw [HNX.out]; exact hown.out
        case measure => simp [intOf]; omega
    · have hkl : k = s.size := by omega
      have htake : s.data.toList.take k = s.data.toList := by rw [hkl, ← HSL.out, List.take_length]
      have hcut : Cut.cut b s.data.toList = (Cut.scan b (s.data.toList.take k)).1 ++ [(s.data.toList.take k).drop (Cut.mark b s.data.toList k)] := by
        rw [← (Cut.scan_take b s.data.toList k (by rw [HSL.out]; exact hk)).1, htake]; exact Cut.cut_scan b _
      have HC := Lib.hid hcut
      have HP : Hid (s.extract m s.size = ⟨((s.data.toList.take k).drop (Cut.mark b s.data.toList k)).toArray⟩) := by show _ = _; rw [piece, hm.out, hkl]
      have hmk' : (m : Int) ≤ s.size := by omega
      clear hkl htake hcut
      go_wp2_with (at_builtin; refine wpList_pushS (.tmp 29) (.tmp 33) _ _ rfl rfl rfl rfl hown.out hsz (by omega) HP.out ?_; intro v4 w4 hown4 hb4)
      rw [← HC.out] at hown4
      obtain ⟨g, cap, rfl, hg, hst⟩ := strs_of_own hown4 (List.length_pos_iff.2 (Cut.cut_ne b _))
      go_wp2_with fail
      go_ret
      exact ⟨g, cap, rfl, hg, hst, hb.out.trans hb4⟩
end Go.Proofs.YtoiobaiiammehaaGreatDoor
/- A variable of three numbers in a block of its own, behind calls and stores; no function of the program. -/
namespace Go.Proofs.YtoiobaiiammehaaGreatDoor
open Go.RowKit

/-- Block g holds the row r and nothing of it is frozen. -/
def Var3 (w : World) (g : Nat) (r : R) : Prop := w.heap[g]? = some (.cells #[.int .i64 r.key, .int .i64 r.value, .int .i64 r.width] 34 (0, 0))
theorem Var3.lt {w : World} {g : Nat} {r : R} (h : Var3 w g r) : g < w.heap.size := lt_of_block h
theorem Var3.below {w w' : World} {g B : Nat} {r : R} (h : Var3 w g r) (hb : Below B w w') (hg : g < B) : Var3 w' g r := (hb.block g hg).trans h
theorem Var3.keep {w w' : World} {g : Nat} {r : R} (h : Var3 w g r) (hb : Below w.heap.size w w') : Var3 w' g r := h.below hb h.lt
theorem Var3.cells {w : World} {g : Nat} {r : R} (h : Var3 w g r) : w.cell? ⟨g, 0, none⟩ = some (.int .i64 r.key) ∧ w.cell? ⟨g, 1, none⟩ = some (.int .i64 r.value) ∧ w.cell? ⟨g, 2, none⟩ = some (.int .i64 r.width) := by
  unfold Var3 at h
  refine ⟨?_, ?_, ?_⟩ <;> simp [World.cell?, h]
theorem Var3.free {w : World} {g : Nat} {r : R} (h : Var3 w g r) : w.frozen? ⟨g, 0, none⟩ = false ∧ w.frozen? ⟨g, 1, none⟩ = false ∧ w.frozen? ⟨g, 2, none⟩ = false := by
  unfold Var3 at h
  refine ⟨?_, ?_, ?_⟩ <;> simp [World.frozen?, h]
theorem Var3.made (w : World) (r : R) : Var3 (w.alloc (.cells #[.int .i64 r.key, .int .i64 r.value, .int .i64 r.width] 34)) w.heap.size r := heap_alloc_new w _
theorem Var3.alloc {w : World} {g : Nat} {r : R} (h : Var3 w g r) (o : Obj) : Var3 (w.alloc o) g r := h.keep ((Below.refl _ _).alloc (Nat.le_refl _) _)
theorem Var3.drew {w : World} {g : Nat} {r : R} (h : Var3 w g r) : Var3 w.drew g r := h
theorem Var3.set0 {w : World} {g : Nat} {r : R} (h : Var3 w g r) (n : Int) : Var3 (w.setCell ⟨g, 0, none⟩ (.int .i64 n)) g ⟨n, r.value, r.width⟩ := Joins.block_setCell h (i := 0) _
theorem Var3.set1 {w : World} {g : Nat} {r : R} (h : Var3 w g r) (n : Int) : Var3 (w.setCell ⟨g, 1, none⟩ (.int .i64 n)) g ⟨r.key, n, r.width⟩ := Joins.block_setCell h (i := 1) _
theorem Var3.set2 {w : World} {g : Nat} {r : R} (h : Var3 w g r) (n : Int) : Var3 (w.setCell ⟨g, 2, none⟩ (.int .i64 n)) g ⟨r.key, r.value, n⟩ := Joins.block_setCell h (i := 2) _
theorem Var3.other {w : World} {g g' i : Nat} {r : R} (h : Var3 w g r) (hne : g ≠ g') (u : Value) : Var3 (w.setCell ⟨g', i, none⟩ u) g r := by
  unfold Var3 at h ⊢
  rw [Below.heap_setCell _ _ _ _ (fun e => hne e)]
  exact h
end Go.Proofs.YtoiobaiiammehaaGreatDoor
/- ParseInt of the program: the number whose numeral the string is, if it has at most nine digits, for every string. -/
namespace Go.Proofs.YtoiobaiiammehaaGreatDoor
open Go Go.RowKit Dec

/-- What both ParseInt answer. -/
def ParAns (l : List UInt8) (e : Ending) : Prop := e = .returned (.tuple #[.int .i64 ((parse l).getD 0), .bool (parse l).isSome])
theorem parans_no {l : List UInt8} (h : parse l = none) : ParAns l (.returned (.tuple #[.int .i64 0, .bool false])) := by unfold ParAns; rw [h]; rfl
theorem parans_yes {l : List UInt8} {n : Int} (h : parse l = some n) : ParAns l (.returned (.tuple #[.int .i64 n, .bool true])) := by unfold ParAns; rw [h]; rfl
theorem trim_any (s : ByteArray) (T : List UInt8) (w : World) (hT : T = Lib.trimPrefix s.data.toList [45]) :
    Calls Tryz.prog 83 #[.string s, .string ⟨#[45]⟩] w fun e w' => e = .returned (.string ⟨T.toArray⟩) ∧ w = w' := by
  refine (Tryz.strings_TrimPrefix s ⟨#[45]⟩ w).mono fun e w' ⟨he, hw⟩ => ⟨?_, hw.symm⟩
  rw [he, hT]
theorem below_bytes (w : World) (e : TypeId) (t : ByteArray) : Below w.heap.size w (Lib.bytesWorld w e t) :=
  ⟨rfl, rfl, rfl, by rw [Lib.bytesWorld_size]; exact Nat.le_succ _, fun k hk => Lib.bytesWorld_at_old w e t k hk⟩
theorem atoi_ok (s : ByteArray) (n : Int) (hl : s.size ≤ 18) (h : Lib.atoi s.data.toList = some n) (w : World) :
    Calls Tryz.prog 84 #[.string s] w fun e w' => e = .returned (.tuple #[.int .i64 n, .nilIface]) ∧ Below w.heap.size w w' := by
  refine (Tryz.strconv_Atoi s n hl h w).mono fun e w' ⟨he, hw⟩ => ⟨he, ?_⟩
  obtain ⟨t, rfl⟩ := hw
  exact below_bytes w _ t
theorem atoi_bad (s : ByteArray) (hl : s.size ≤ 18) (h : Lib.atoi s.data.toList = none) (w : World) (hv : Syn w) :
    Calls Tryz.prog 84 #[.string s] w fun e w' => ∃ N, e = .returned (.tuple #[.int .i64 0, .iface 116 (.pointer (some ⟨N, 0, none⟩))]) ∧ Below w.heap.size w w' := by
  obtain ⟨tp, p, hv⟩ := hv
  refine (Tryz.strconv_Atoi_err_var s hl h tp p w hv).mono fun e w' hh => ?_
  obtain ⟨N, he, _, _, hb⟩ := hh
  exact ⟨N, he, hb⟩

theorem iparse_long (s : ByteArray) (w : World) (h : 9 < (Lib.trimPrefix s.data.toList [45]).length) :
    Calls Tryz.prog 73 #[.string s] w fun e w' => ParAns s.data.toList e ∧ Below w.heap.size w w' := by
  have hans := parans_no (parse_long _ h)
  obtain ⟨T, hT⟩ : ∃ T, T = Lib.trimPrefix s.data.toList [45] := ⟨_, rfl⟩
  rw [← hT] at h
  have HT := Lib.hid hT
  clear hT
  go_enter Tryz.func73, Tryz.ntmps73
  go_wp2_with fail
  refine (trim_any s T _ HT.out).mono ?_
  rintro e w1 ⟨rfl, rfl⟩
  go_wp2_with fail
  go_ret2
  exact ⟨hans, Below.refl _ _⟩
theorem iparse_bad (s : ByteArray) (w : World) (hv : Syn w) (h : ¬ 9 < (Lib.trimPrefix s.data.toList [45]).length) (ha : Lib.atoi s.data.toList = none) :
    Calls Tryz.prog 73 #[.string s] w fun e w' => ParAns s.data.toList e ∧ Below w.heap.size w w' := by
  have hans := parans_no (parse_bad _ ha)
  have hsz : s.size ≤ 18 := by have := trim_length s.data.toList; simp at this; omega
  obtain ⟨T, hT⟩ : ∃ T, T = Lib.trimPrefix s.data.toList [45] := ⟨_, rfl⟩
  rw [← hT] at h
  have HT := Lib.hid hT
  have HA := Lib.hid ha
  have HV := Lib.hid hv
  clear hT ha hv
  go_enter Tryz.func73, Tryz.ntmps73
  go_wp2_with fail
  refine (trim_any s T _ HT.out).mono ?_
  rintro e w1 ⟨rfl, rfl⟩
  go_wp2_with fail
  refine (atoi_bad s hsz HA.out _ HV.out).mono ?_
  rintro e w2 ⟨N, rfl, b2⟩
  go_wp2_with fail
  go_ret2
  exact ⟨hans, b2⟩
theorem iparse_ok (s : ByteArray) (w : World) (ht : Tab w) (n : Int) (h : ¬ 9 < (Lib.trimPrefix s.data.toList [45]).length) (ha : Lib.atoi s.data.toList = some n) :
    Calls Tryz.prog 73 #[.string s] w fun e w' => ParAns s.data.toList e ∧ Below w.heap.size w w' := by
  have hsz : s.size ≤ 18 := by have := trim_length s.data.toList; simp at this; omega
  have hbd := Lib.atoi_bound ha (by simpa using hsz)
  have hsl : Hid (s.toList = s.data.toList) := ByteArray.toList_eq s
  have hyes : Lib.itoa n = s.data.toList → ParAns s.data.toList (.returned (.tuple #[.int .i64 n, .bool true])) := fun he => parans_yes (parse_same _ n he (by omega))
  have hno : Lib.itoa n ≠ s.data.toList → ParAns s.data.toList (.returned (.tuple #[.int .i64 0, .bool false])) := fun he => parans_no (parse_other _ n ha he)
  have HY := Lib.hid hyes
  have HN := Lib.hid hno
  obtain ⟨T, hT⟩ : ∃ T, T = Lib.trimPrefix s.data.toList [45] := ⟨_, rfl⟩
  rw [← hT] at h
  have HT := Lib.hid hT
  have HA := Lib.hid ha
  have HV := Lib.hid ht
  clear hT ha ht hyes hno
  go_enter Tryz.func73, Tryz.ntmps73
  go_wp2_with fail
  refine (trim_any s T _ HT.out).mono ?_
  rintro e w1 ⟨rfl, rfl⟩
  go_wp2_with fail
  refine (atoi_ok s n hsz HA.out _).mono ?_
  rintro e w2 ⟨rfl, b2⟩
  have HW := Lib.hid (HV.out.stay b2)
  go_wp2_with fail
  refine (ifmt n _ (by omega) (by omega) HW.out).mono ?_
  rintro e w3 ⟨rfl, b3⟩
  go_wp2_with fail
  · have hne : (!(Lib.itoa n == s.toList)) = true := by assumption
    rw [hsl.out] at hne
    go_ret2
    exact ⟨HN.out (by simpa using hne), b2.trans (b3.mono b2.size)⟩
  · have heq : (!(Lib.itoa n == s.toList)) = false := by assumption
    rw [hsl.out] at heq
    go_ret2
    exact ⟨HY.out (by simpa using heq), b2.trans (b3.mono b2.size)⟩
theorem iparse (s : ByteArray) (w : World) (ht : Tab w) (hv : Syn w) :
    Calls Tryz.prog 73 #[.string s] w fun e w' => ParAns s.data.toList e ∧ Below w.heap.size w w' := by
  by_cases h : 9 < (Lib.trimPrefix s.data.toList [45]).length
  · exact iparse_long s w h
  · cases ha : Lib.atoi s.data.toList with
    | none => exact iparse_bad s w hv h ha
    | some n => exact iparse_ok s w ht n h ha
end Go.Proofs.YtoiobaiiammehaaGreatDoor
/- The reference's l1In, by contract; a string's ending. -/
namespace Go.Proofs.YtoiobaiiammehaaGreatDoor
open Go.RowKit

theorem in_yes (x lo hi : Int) (w : World) (h1 : lo ≤ x) (h2 : x ≤ hi) : Calls Tryz.prog 28 #[.int .i64 x, .int .i64 lo, .int .i64 hi] w fun e w' => e = .returned (.bool true) ∧ w = w' := by
  go_enter Tryz.func28, Tryz.ntmps28
  go_wp2
  go_ret
  exact ⟨rfl, rfl⟩
theorem in_no (x lo hi : Int) (w : World) (h : x < lo ∨ hi < x) : Calls Tryz.prog 28 #[.int .i64 x, .int .i64 lo, .int .i64 hi] w fun e w' => e = .returned (.bool false) ∧ w = w' := by
  by_cases h1 : x < lo
  · go_enter Tryz.func28, Tryz.ntmps28
    go_wp2
    go_ret
    exact ⟨rfl, rfl⟩
  · have h2 : hi < x := by omega
    have h3 : lo ≤ x := by omega
    have hd : decide (x ≤ hi) = false := by simpa using h2
    clear h1 h
    go_enter Tryz.func28, Tryz.ntmps28
    go_wp2
    go_ret
    exact ⟨rfl, rfl⟩

theorem ret_str {a b : List UInt8} (h : a = b) : Ending.returned (.string ⟨a.toArray⟩) = .returned (.string ⟨b.toArray⟩) := by rw [h]
end Go.Proofs.YtoiobaiiammehaaGreatDoor
/- What '&', '|' and '<<' of the program's integers are on numbers that are not below zero; no function of the program. -/
namespace Go.Proofs.YtoiobaiiammehaaGreatDoor
open Go.RowKit

theorem toNat_bv (a : Nat) (ha : a < 9223372036854775808) : (BitVec.ofInt 64 (a : Int)).toNat = a := by
  rw [BitVec.ofInt_natCast, BitVec.toNat_ofNat]; omega
theorem and64 (a b : Nat) (ha : a < 9223372036854775808) (hb : b < 9223372036854775808) : bits .and .i64 (a : Int) (b : Int) = ((a &&& b : Nat) : Int) := by
  have hx : a &&& b < 2 ^ 63 := Nat.and_lt_two_pow _ (by omega)
  show IntKind.i64.wrap ((BitVec.ofInt 64 (a : Int) &&& BitVec.ofInt 64 (b : Int)).toNat : Int) = _
  rw [BitVec.toNat_and, toNat_bv a ha, toNat_bv b hb, IntKind.wrap_i64]; omega
theorem or64 (a b : Nat) (ha : a < 9223372036854775808) (hb : b < 9223372036854775808) : bits .or .i64 (a : Int) (b : Int) = ((a ||| b : Nat) : Int) := by
  have hx : a ||| b < 2 ^ 63 := Nat.or_lt_two_pow (by omega) (by omega)
  show IntKind.i64.wrap ((BitVec.ofInt 64 (a : Int) ||| BitVec.ofInt 64 (b : Int)).toNat : Int) = _
  rw [BitVec.toNat_or, toNat_bv a ha, toNat_bv b hb, IntKind.wrap_i64]; omega
theorem xor64 (a b : Nat) (ha : a < 9223372036854775808) (hb : b < 9223372036854775808) : bits .xor .i64 (a : Int) (b : Int) = ((a ^^^ b : Nat) : Int) := by
  have hx : a ^^^ b < 2 ^ 63 := Nat.xor_lt_two_pow (by omega) (by omega)
  show IntKind.i64.wrap ((BitVec.ofInt 64 (a : Int) ^^^ BitVec.ofInt 64 (b : Int)).toNat : Int) = _
  rw [BitVec.toNat_xor, toNat_bv a ha, toNat_bv b hb, IntKind.wrap_i64]; omega
/-- A high part and a low part that do not meet: '|' is '+'. -/
theorem or_high (k a b : Nat) (hb : b < 2 ^ k) : (2 ^ k * a) ||| b = 2 ^ k * a + b := (Nat.two_pow_add_eq_or_of_lt hb a).symm
theorem low7 (m : Int) (h0 : 0 ≤ m) (h1 : m < 9223372036854775808) : bits .and .i64 m 127 = m % 128 := by
  obtain ⟨n, rfl⟩ : ∃ n : Nat, m = (n : Int) := ⟨m.toNat, by omega⟩
  have := and64 n 127 (by omega) (by omega)
  rw [show ((127 : Nat) : Int) = 127 from rfl] at this
  rw [this, show (127 : Nat) = 2 ^ 7 - 1 from rfl, Nat.and_two_pow_sub_one_eq_mod]
  omega
theorem high7 (m : Int) (h0 : 0 ≤ m) (h1 : m < 128) : bits .or .i64 m 128 = 128 + m := by
  obtain ⟨n, rfl⟩ : ∃ n : Nat, m = (n : Int) := ⟨m.toNat, by omega⟩
  have := or64 n 128 (by omega) (by omega)
  rw [show ((128 : Nat) : Int) = 128 from rfl] at this
  rw [this, Nat.or_comm, show (128 : Nat) = 2 ^ 7 * 1 from rfl, or_high 7 1 n (by omega)]
  omega
theorem low7_u8 (x : Int) (h0 : 0 ≤ x) (h1 : x < 256) : bits .and .u8 x 127 = x % 128 := bits_mask .u8 8 (by decide) wraps_u8 7 (by decide) x h0 h1
/-- 'v | int(c&127) << (7*k)' where v lies below 2^(7*k): the next seven bits. -/
theorem or_group (v c : Int) (k : Nat) (h7 : k < 7) (hv0 : 0 ≤ v) (hv : v < 2 ^ (7 * k)) (hc0 : 0 ≤ c) (hc : c < 256) :
    bits .or .i64 v (wrap64 (wrap64 (bits .and .u8 c 127) * 2 ^ (7 * k))) = v + 2 ^ (7 * k) * (c % 128) := by
  obtain ⟨V, rfl⟩ : ∃ V : Nat, v = (V : Int) := ⟨v.toNat, by omega⟩
  obtain ⟨C, rfl⟩ : ∃ C : Nat, c = (C : Int) := ⟨c.toNat, by omega⟩
  have hp : (2 : Nat) ^ (7 * k) ≤ 2 ^ 42 := Nat.pow_le_pow_right (by decide) (by omega)
  have hV : V < 2 ^ (7 * k) := by exact_mod_cast hv
  obtain ⟨p, hpe⟩ : ∃ p : Nat, p = 2 ^ (7 * k) := ⟨_, rfl⟩
  have hpi : (2 : Int) ^ (7 * k) = (p : Int) := by rw [hpe]; exact_mod_cast rfl
  rw [low7_u8 _ (by omega) (by omega), hpi]
  have hm : C % 128 * p ≤ 127 * p := Nat.mul_le_mul_right p (by omega)
  have e1 : wrap64 ((C : Int) % 128) = ((C % 128 : Nat) : Int) := by rw [IntWalk.wrap64_in _ ⟨by omega, by omega⟩]; omega
  have e2 : ((C % 128 : Nat) : Int) * (p : Int) = ((C % 128 * p : Nat) : Int) := by rw [Int.natCast_mul]
  rw [e1, e2, IntWalk.wrap64_in _ ⟨by omega, by omega⟩, or64 _ _ (by omega) (by omega), Nat.or_comm]
  have := or_high (7 * k) (C % 128) V (by omega)
  rw [← hpe] at this
  rw [show C % 128 * p = p * (C % 128) from Nat.mul_comm _ _, this, Int.natCast_add, Int.natCast_mul, show ((C % 128 : Nat) : Int) = (C : Int) % 128 by omega, Int.add_comm]
theorem low4_u8 (x : Int) (h0 : 0 ≤ x) (h1 : x < 256) : bits .and .u8 x 15 = x % 16 := bits_mask .u8 8 (by decide) wraps_u8 4 (by decide) x h0 h1
/-- 'v<<8 | b'. -/
theorem or_byte (v b : Int) (h0 : 0 ≤ v) (h1 : v < 281474976710656) (hb0 : 0 ≤ b) (hb : b < 256) : bits .or .i64 (v * 256) b = v * 256 + b := by
  obtain ⟨V, rfl⟩ : ∃ V : Nat, v = (V : Int) := ⟨v.toNat, by omega⟩
  obtain ⟨B, rfl⟩ : ∃ B : Nat, b = (B : Int) := ⟨b.toNat, by omega⟩
  have := or64 (2 ^ 8 * V) B (by omega) (by omega)
  rw [or_high 8 V B (by omega)] at this
  rw [show (V : Int) * 256 = ((2 ^ 8 * V : Nat) : Int) by omega, this]
  omega
end Go.Proofs.YtoiobaiiammehaaGreatDoor
/- FormatInt of the reference: the decimal numeral of every integer. -/
namespace Go.Proofs.YtoiobaiiammehaaGreatDoor
open Go.RowKit Num Dec

theorem str_cat (b : UInt8) (l : List UInt8) : (⟨[b].toArray⟩ : ByteArray) ++ ⟨l.toArray⟩ = ⟨(b :: l).toArray⟩ := ByteArray.mk_append_mk [b] l

theorem sfmt_zero (w : World) : Calls Tryz.prog 69 #[.int .i64 0] w fun e w' => e = .returned (.string ⟨(Lib.itoa 0).toArray⟩) ∧ Below w.heap.size w w' := by
  rw [itoa_zero]
  go_enter Tryz.func69, Tryz.ntmps69
  go_wp2
  go_ret
  exact ⟨rfl, Below.refl _ _⟩

set_option maxRecDepth 100000 in
theorem sfmt_pos (n : Int) (w : World) (h0 : 0 < n) (h63 : n ≤ 9223372036854775807) :
    Calls Tryz.prog 69 #[.int .i64 n] w fun e w' => e = .returned (.string ⟨(Lib.itoa n).toArray⟩) ∧ Below w.heap.size w w' := by
  rw [itoa_pos n h0]
  have hlen := dd_length_le n.toNat (by omega)
  have hz : (n == 0) = false := by rw [beq_eq_false_iff_ne]; omega
  have hneg : decide (n < 0) = false := by simp; omega
  go_enter Tryz.func69, Tryz.ntmps69
  go_wp2
  go_loopw [0, 3, 5] (fun m o _ wr => ∃ (x : Int) (out : List UInt8), m = .int .i64 x ∧ o = .string ⟨out.toArray⟩ ∧ 0 ≤ x ∧ x ≤ 9223372036854775807 ∧ Hid (dd n.toNat = dd x.toNat ++ out) ∧ Below w.heap.size w wr) (fun m _ _ _ => (intOf m).toNat)
  case atStart => exact ⟨n, [], rfl, rfl, by omega, h63, by show _ = _; simp, Below.refl _ _⟩
  case round =>
    obtain ⟨x, out, rfl, rfl, hx0, hx1, hD, hb⟩ := hrel
    have hol : out.length ≤ 20 := by have := congrArg List.length hD.out; rw [List.length_append] at this; omega
    by_cases hx : x = 0
    · have hout := hD.out
      rw [hx] at hout
      have HO : Hid (dd n.toNat = out) := hout
      have ht : (x != 0) = false := by rw [bne_eq_false_iff_eq]; exact hx
      clear hx hout
      go_wp2_with fail
      go_ret
      exact ⟨ret_str HO.out.symm, hb⟩
    · have ht : (x != 0) = true := by rw [bne_iff_ne]; exact hx
      have hxp : 0 < x := by omega
      clear hx
      obtain ⟨b, hb8⟩ : ∃ b : UInt8, b = UInt8.ofNat (48 + x.toNat % 10) := ⟨_, rfl⟩
      have hone := one_string wr (48 + x % 10) b (by rw [hb8, UInt8.toNat_ofNat']; omega)
      have HB := Lib.hid hb8
      clear hb8
      have hdec : ¬ x % 10 < 0 := by omega
      go_wp2_with fail
      go_roundw
      case rel =>
        refine ⟨x / 10, b :: out, rfl, by exact congrArg Value.string (str_cat _ _), by omega, by omega, ?_, hb.alloc hb.size _⟩
        show _ = _
        rw [hD.out, dd_step x.toNat (by omega), ← HB.out, show (x / 10).toNat = x.toNat / 10 by omega, List.append_assoc]; rfl
      case measure => simp [intOf]; omega

set_option maxRecDepth 100000 in
theorem sfmt_neg (n : Int) (w : World) (h0 : n < 0) (h63 : -9223372036854775808 ≤ n) :
    Calls Tryz.prog 69 #[.int .i64 n] w fun e w' => e = .returned (.string ⟨(Lib.itoa n).toArray⟩) ∧ Below w.heap.size w w' := by
  rw [itoa_neg n h0]
  have hlen := dd_length_le n.natAbs (by omega)
  have hz : (n == 0) = false := by rw [beq_eq_false_iff_ne]; omega
  have hneg : decide (n < 0) = true := by simpa using h0
  go_enter Tryz.func69, Tryz.ntmps69
  go_wp2
  go_loopw [0, 3, 5] (fun m o _ wr => ∃ (x : Int) (out : List UInt8), m = .int .i64 x ∧ o = .string ⟨out.toArray⟩ ∧ x ≤ 0 ∧ -9223372036854775808 ≤ x ∧ Hid (dd n.natAbs = dd x.natAbs ++ out) ∧ Below w.heap.size w wr) (fun m _ _ _ => (intOf m).natAbs)
  case atStart => exact ⟨n, [], rfl, rfl, by omega, h63, by show _ = _; simp, Below.refl _ _⟩
  case round =>
    obtain ⟨x, out, rfl, rfl, hx0, hx1, hD, hb⟩ := hrel
    have hol : out.length ≤ 20 := by have := congrArg List.length hD.out; rw [List.length_append] at this; omega
    by_cases hx : x = 0
    · have hout := hD.out
      rw [hx] at hout
      have HO : Hid (dd n.natAbs = out) := hout
      have ht : (x != 0) = false := by rw [bne_eq_false_iff_eq]; exact hx
      clear hx hout
      go_wp2_with fail
      go_ret
      exact ⟨by rw [HO.out]; exact congrArg (fun z => Ending.returned (Value.string z)) (str_cat 45 out), hb⟩
    · have ht : (x != 0) = true := by rw [bne_iff_ne]; exact hx
      have hxp : x < 0 := by omega
      clear hx
      obtain ⟨u, hu⟩ : ∃ u : Nat, x = -(u : Int) := ⟨x.natAbs, by omega⟩
      obtain ⟨b, hb8⟩ : ∃ b : UInt8, b = UInt8.ofNat (48 + u % 10) := ⟨_, rfl⟩
      obtain ⟨r, hr⟩ : ∃ r : Int, r = ((u % 10 : Nat) : Int) := ⟨_, rfl⟩
      obtain ⟨q, hq⟩ : ∃ q : Int, q = -((u / 10 : Nat) : Int) := ⟨_, rfl⟩
      have hmod : x.tmod 10 = -r := by rw [hu, hr, Int.neg_tmod, Int.ofNat_tmod]; rfl
      have hdiv : x.tdiv 10 = q := by rw [hu, hq, Int.neg_tdiv, Int.ofNat_tdiv]; rfl
      have hone := one_string wr (48 + r) b (by rw [hb8, hr, UInt8.toNat_ofNat']; omega)
      have hr0 : 0 ≤ r := by omega
      have hr1 : r ≤ 9 := by omega
      have hq0 : q ≤ 0 := by omega
      have hq1 : -922337203685477580 ≤ q := by omega
      have hqx : q.natAbs < x.natAbs := by omega
      have HB := Lib.hid hb8
      have HR := Lib.hid hr
      have HQ := Lib.hid hq
      have HU := Lib.hid hu
      clear hb8 hr hq hu
      by_cases hr2 : r = 0
      · have hmod0 : x.tmod 10 = 0 := by rw [hmod, hr2]; rfl
        have hone0 := one_string wr 48 b (by rw [HB.out, UInt8.toNat_ofNat']; have := HR.out; omega)
        clear hmod hone hr2 hr0 hr1
        go_wp2_with fail
        go_roundw
        case rel =>
          refine ⟨q, b :: out, rfl, by exact congrArg Value.string (str_cat _ _), hq0, by omega, ?_, hb.alloc hb.size _⟩
          show _ = _
          have h1 := HU.out
          have h2 := HQ.out
          rw [hD.out, dd_step x.natAbs (by omega), show x.natAbs = u by omega, ← HB.out, show q.natAbs = u / 10 by omega, List.append_assoc]; rfl
        case measure => simp [intOf]; omega
      · have hneg1 : decide (-r < 0) = true := by simp; omega
        go_wp2_with fail
        go_roundw
        case rel =>
          refine ⟨q, b :: out, rfl, by exact congrArg Value.string (str_cat _ _), hq0, by omega, ?_, hb.alloc hb.size _⟩
          show _ = _
          have h1 := HU.out
          have h2 := HQ.out
          rw [hD.out, dd_step x.natAbs (by omega), show x.natAbs = u by omega, ← HB.out, show q.natAbs = u / 10 by omega, List.append_assoc]; rfl
        case measure => simp [intOf]; omega
theorem sfmt (n : Int) (w : World) (h0 : -9223372036854775808 ≤ n) (h1 : n ≤ 9223372036854775807) :
    Calls Tryz.prog 69 #[.int .i64 n] w fun e w' => e = .returned (.string ⟨(Lib.itoa n).toArray⟩) ∧ Below w.heap.size w w' := by
  by_cases hz : n = 0
  · subst hz; exact sfmt_zero w
  · by_cases hp : 0 < n
    · exact sfmt_pos n w hp h1
    · exact sfmt_neg n w (by omega) h0
end Go.Proofs.YtoiobaiiammehaaGreatDoor
/- ParseInt of the reference: the same number and the same bool. -/
namespace Go.Proofs.YtoiobaiiammehaaGreatDoor
open Go Go.RowKit Num Dec

theorem dscan_take (l : List UInt8) (t : Nat) (h : t < l.length) : dscan (l.take (t + 1)) = if 48 ≤ l[t].toNat ∧ l[t].toNat ≤ 57 then ((dscan (l.take t)).1 * 10 + (l[t].toNat - 48), (dscan (l.take t)).2 + 1) else dscan (l.take t) := by
  rw [take_snoc l t h, dscan_snoc]
theorem dscan_lt (l : List UInt8) (t : Nat) (ht : t ≤ 11) : ((dscan (l.take t)).1 : Int) < 100000000000 ∧ (dscan (l.take t)).2 ≤ t := by
  obtain ⟨h1, h2⟩ := dscan_le (l.take t)
  have h3 : (l.take t).length ≤ t := List.length_take_le _ _
  have h4 : 10 ^ (dscan (l.take t)).2 ≤ 10 ^ 11 := Nat.pow_le_pow_right (by decide) (by omega)
  exact ⟨by omega, by omega⟩

set_option maxRecDepth 100000 in
theorem sparse_small (s : ByteArray) (w : World) (h10 : s.size ≤ 10) :
    Calls Tryz.prog 65 #[.string s] w fun e w' => ParAns s.data.toList e ∧ Below w.heap.size w w' := by
  have hsl : Hid (s.data.toList.length = s.size) := by show _ = _; simp
  have htl : Hid (s.toList = s.data.toList) := ByteArray.toList_eq s
  go_enter Tryz.func65, Tryz.ntmps65
  go_wp2
  go_loop [4, 5, 6] (fun n c i => ∃ (v k : Int) (t : Nat), n = .int .i64 v ∧ c = .int .i64 k ∧ i = .int .i64 t ∧ t ≤ s.size ∧ t ≤ 11 ∧ 0 ≤ v ∧ v < 100000000000 ∧ 0 ≤ k ∧ k ≤ t ∧ Hid (v = ((dscan (s.data.toList.take t)).1 : Int) ∧ k = ((dscan (s.data.toList.take t)).2 : Int))) (fun _ _ i => s.size - (intOf i).toNat)
  case atStart => exact ⟨0, 0, 0, rfl, rfl, rfl, by omega, by omega, by omega, by omega, by omega, by omega, ⟨rfl, rfl⟩⟩
  case round =>
    obtain ⟨v, k, t, rfl, rfl, rfl, ht, ht11, hv0, hv1, hk0, hk1, hD⟩ := hrel
    by_cases hlt : t < s.size
    · have hbt : (s[t].toNat : Int) < 256 := by have := s[t].toNat_lt; omega
      by_cases hd : 48 ≤ (s[t].toNat : Int)
      · by_cases hd1 : (s[t].toNat : Int) ≤ 57
        · go_wp2
          go_round
          case rel =>
            have hst := dscan_take s.data.toList t (by rw [hsl.out]; exact hlt)
            rw [show (s.data.toList[t]'(by rw [hsl.out]; exact hlt)) = s[t] from rfl] at hst
            have hD1 := hD.out.1
            have hD2 := hD.out.2
            have hlt1 := dscan_lt s.data.toList (t + 1) (by omega)
            rw [hst, if_pos (by omega)] at hlt1
            simp only [] at hlt1
            refine ⟨_, k + 1, t + 1, rfl, rfl, by go_num, by omega, by omega, by omega, by omega, by omega, by omega, ?_⟩
            show _ ∧ _
            rw [hst, if_pos (by omega)]
            simp only []
            omega
          case measure => simp [intOf]; omega
        · have hd2 : decide ((s[t].toNat : Int) ≤ 57) = false := by simp; omega
          go_wp2
          go_round
          case rel =>
            have hst := dscan_take s.data.toList t (by rw [hsl.out]; exact hlt)
            rw [show (s.data.toList[t]'(by rw [hsl.out]; exact hlt)) = s[t] from rfl, if_neg (by omega)] at hst
            refine ⟨v, k, t + 1, rfl, rfl, by go_num, by omega, by omega, hv0, hv1, hk0, by omega, ?_⟩
            show _ ∧ _
            rw [hst]
            exact hD.out
          case measure => simp [intOf]; omega
      · have hd2 : decide (48 ≤ (s[t].toNat : Int)) = false := by simp; omega
        go_wp2
        go_round
        case rel =>
          have hst := dscan_take s.data.toList t (by rw [hsl.out]; exact hlt)
          rw [show (s.data.toList[t]'(by rw [hsl.out]; exact hlt)) = s[t] from rfl, if_neg (by omega)] at hst
          refine ⟨v, k, t + 1, rfl, rfl, by go_num, by omega, by omega, hv0, hv1, hk0, by omega, ?_⟩
          show _ ∧ _
          rw [hst]
          exact hD.out
        case measure => simp [intOf]; omega
    · have hts : t = s.size := by omega
      have hDl : v = ((dscan s.data.toList).1 : Int) ∧ k = ((dscan s.data.toList).2 : Int) := by have := hD.out; rwa [hts, List.take_of_length_le (by rw [hsl.out]; exact Nat.le_refl _)] at this
      have HD := Lib.hid hDl
      clear hD hDl
      by_cases h0 : s.size = 0
      · have hz : ¬ (0 : Int) < s.size := by omega
        have hsig : signed s.data.toList (dscan s.data.toList).1 = v := by
          have hnil : s.data.toList = [] := List.eq_nil_of_length_eq_zero (by rw [hsl.out]; exact h0)
          have := HD.out.1
          unfold signed
          rw [if_neg (by rw [hnil]; simp), this]
        clear h0
        have hyes : Lib.itoa (v) = s.data.toList → (dscan s.data.toList).2 ≤ 9 → ParAns s.data.toList (.returned (.tuple #[.int .i64 (v), .bool true])) := fun he h9 => parans_yes (by have := parse_scan s.data.toList h9 (by rw [hsig]; exact he); rw [hsig] at this; exact this)
        have hno : 9 < (dscan s.data.toList).2 ∨ Lib.itoa (v) ≠ s.data.toList → ParAns s.data.toList (.returned (.tuple #[.int .i64 0, .bool false])) := fun he => parans_no (parse_scan_no _ (by rw [hsig]; exact .inr he))
        have HY := Lib.hid hyes
        have HN := Lib.hid hno
        clear hyes hno hsig
        by_cases hk9 : 9 < k
        · exfalso; omega
        · have hk9' : decide (9 < k) = false := by simpa using hk9
          go_wp2_with fail
          refine (sfmt (v) _ (by omega) (by omega)).mono ?_
          rintro e w1 ⟨rfl, b1⟩
          go_wp2_with fail
          · have hor : 10 < (s.size : Int) ∨ (!(Lib.itoa (v) == s.toList)) = true := by assumption
            have hne : (!(Lib.itoa (v) == s.toList)) = true := hor.resolve_left (by omega)
            rw [htl.out] at hne
            go_ret2
            exact ⟨HN.out (.inr (by simpa using hne)), b1⟩
          · have hand : (s.size : Int) ≤ 10 ∧ (!(Lib.itoa (v) == s.toList)) = false := by assumption
            have heq := hand.2
            rw [htl.out] at heq
            go_ret2
            exact ⟨HY.out (by simpa using heq) (by have := HD.out.2; omega), b1⟩
      · have hp : (0 : Int) < s.size := by omega
        have hp' : 0 < s.size := by omega
        have hhead : s.data.toList.head? = some s[0] := by
          rw [List.head?_eq_getElem?, List.getElem?_eq_getElem (by rw [hsl.out]; exact hp')]; rfl
        by_cases hm : s[0] = 45
        · have hb : ((s[0].toNat : Int) == 45) = true := by rw [hm]; rfl
          have hsig : signed s.data.toList (dscan s.data.toList).1 = -v := by
            have := HD.out.1
            unfold signed; rw [hhead, hm, if_pos rfl]; omega
          clear hm hhead h0
          have hyes : Lib.itoa (-v) = s.data.toList → (dscan s.data.toList).2 ≤ 9 → ParAns s.data.toList (.returned (.tuple #[.int .i64 (-v), .bool true])) := fun he h9 => parans_yes (by have := parse_scan s.data.toList h9 (by rw [hsig]; exact he); rw [hsig] at this; exact this)
          have hno : 9 < (dscan s.data.toList).2 ∨ Lib.itoa (-v) ≠ s.data.toList → ParAns s.data.toList (.returned (.tuple #[.int .i64 0, .bool false])) := fun he => parans_no (parse_scan_no _ (by rw [hsig]; exact .inr he))
          have HY := Lib.hid hyes
          have HN := Lib.hid hno
          clear hyes hno hsig
          by_cases hk9 : 9 < k
          · go_wp2_with fail
            go_ret2
            exact ⟨HN.out (.inl (by have := HD.out.2; omega)), Below.refl _ _⟩
          · have hk9' : decide (9 < k) = false := by simpa using hk9
            go_wp2_with fail
            refine (sfmt (-v) _ (by omega) (by omega)).mono ?_
            rintro e w1 ⟨rfl, b1⟩
            go_wp2_with fail
            · have hor : 10 < (s.size : Int) ∨ (!(Lib.itoa (-v) == s.toList)) = true := by assumption
              have hne : (!(Lib.itoa (-v) == s.toList)) = true := hor.resolve_left (by omega)
              rw [htl.out] at hne
              go_ret2
              exact ⟨HN.out (.inr (by simpa using hne)), b1⟩
            · have hand : (s.size : Int) ≤ 10 ∧ (!(Lib.itoa (-v) == s.toList)) = false := by assumption
              have heq := hand.2
              rw [htl.out] at heq
              go_ret2
              exact ⟨HY.out (by simpa using heq) (by have := HD.out.2; omega), b1⟩
        · have hb : ((s[0].toNat : Int) == 45) = false := by
            rw [beq_eq_false_iff_ne]
            intro hc
            exact hm (UInt8.toNat_inj.1 (by have h45 : (45 : UInt8).toNat = 45 := rfl; omega))
          have hsig : signed s.data.toList (dscan s.data.toList).1 = v := by
            have := HD.out.1
            unfold signed; rw [hhead, if_neg (fun hc => hm (Option.some.inj hc))]; omega
          clear hm hhead h0
          have hyes : Lib.itoa (v) = s.data.toList → (dscan s.data.toList).2 ≤ 9 → ParAns s.data.toList (.returned (.tuple #[.int .i64 (v), .bool true])) := fun he h9 => parans_yes (by have := parse_scan s.data.toList h9 (by rw [hsig]; exact he); rw [hsig] at this; exact this)
          have hno : 9 < (dscan s.data.toList).2 ∨ Lib.itoa (v) ≠ s.data.toList → ParAns s.data.toList (.returned (.tuple #[.int .i64 0, .bool false])) := fun he => parans_no (parse_scan_no _ (by rw [hsig]; exact .inr he))
          have HY := Lib.hid hyes
          have HN := Lib.hid hno
          clear hyes hno hsig
          by_cases hk9 : 9 < k
          · go_wp2_with fail
            go_ret2
            exact ⟨HN.out (.inl (by have := HD.out.2; omega)), Below.refl _ _⟩
          · have hk9' : decide (9 < k) = false := by simpa using hk9
            go_wp2_with fail
            refine (sfmt (v) _ (by omega) (by omega)).mono ?_
            rintro e w1 ⟨rfl, b1⟩
            go_wp2_with fail
            · have hor : 10 < (s.size : Int) ∨ (!(Lib.itoa (v) == s.toList)) = true := by assumption
              have hne : (!(Lib.itoa (v) == s.toList)) = true := hor.resolve_left (by omega)
              rw [htl.out] at hne
              go_ret2
              exact ⟨HN.out (.inr (by simpa using hne)), b1⟩
            · have hand : (s.size : Int) ≤ 10 ∧ (!(Lib.itoa (v) == s.toList)) = false := by assumption
              have heq := hand.2
              rw [htl.out] at heq
              go_ret2
              exact ⟨HY.out (by simpa using heq) (by have := HD.out.2; omega), b1⟩

set_option maxRecDepth 100000 in
theorem sparse_big (s : ByteArray) (hs : s.size ≤ maxLen) (w : World) (h10 : 10 < s.size) :
    Calls Tryz.prog 65 #[.string s] w fun e w' => ParAns s.data.toList e ∧ Below w.heap.size w w' := by
  unfold maxLen at hs
  have hans := parans_no (parse_scan_no s.data.toList (.inl (by simpa using h10)))
  have h10' : (10 : Int) < s.size := by omega
  go_enter Tryz.func65, Tryz.ntmps65
  go_wp2
  go_loop [4, 5, 6] (fun n c i => ∃ (v k : Int) (t : Nat), n = .int .i64 v ∧ c = .int .i64 k ∧ i = .int .i64 t ∧ t ≤ 11 ∧ 0 ≤ v ∧ Hid (v < 10 ^ t) ∧ 0 ≤ k ∧ k ≤ t) (fun _ _ i => 11 - (intOf i).toNat)
  case atStart => exact ⟨0, 0, 0, rfl, rfl, rfl, by omega, by omega, by show (0 : Int) < 1; omega, by omega, by omega⟩
  case round =>
    obtain ⟨v, k, t, rfl, rfl, rfl, ht, hv0, hv, hk0, hk1⟩ := hrel
    have hv1 : v < 100000000000 := by
      have h1 := hv.out
      have h2 : (10 : Nat) ^ t ≤ 10 ^ 11 := Nat.pow_le_pow_right (by decide) ht
      have h3 : ((10 : Nat) ^ t : Nat) = (10 : Int) ^ t := by exact_mod_cast rfl
      omega
    by_cases hlt : t < 11
    · have hts : t < s.size := by omega
      have hbt : (s[t].toNat : Int) < 256 := by have := s[t].toNat_lt; omega
      by_cases hd : 48 ≤ (s[t].toNat : Int)
      · by_cases hd1 : (s[t].toNat : Int) ≤ 57
        · go_wp2
          go_round
          case rel =>
            refine ⟨_, k + 1, t + 1, rfl, rfl, by go_num, by omega, by omega, ?_, by omega, by omega⟩
            show _ < _
            have h1 := hv.out
            rw [Int.pow_succ]; omega
          case measure => simp [intOf]; omega
        · have hd2 : decide ((s[t].toNat : Int) ≤ 57) = false := by simp; omega
          go_wp2
          go_round
          case rel =>
            refine ⟨v, k, t + 1, rfl, rfl, by go_num, by omega, hv0, ?_, hk0, by omega⟩
            show _ < _
            have h1 := hv.out
            have h2 : (0 : Int) < 10 ^ t := by omega
            rw [Int.pow_succ]; omega
          case measure => simp [intOf]; omega
      · have hd2 : decide (48 ≤ (s[t].toNat : Int)) = false := by simp; omega
        go_wp2
        go_round
        case rel =>
          refine ⟨v, k, t + 1, rfl, rfl, by go_num, by omega, hv0, ?_, hk0, by omega⟩
          show _ < _
          have h1 := hv.out
          have h2 : (0 : Int) < 10 ^ t := by omega
          rw [Int.pow_succ]; omega
        case measure => simp [intOf]; omega
    · have hp : (0 : Int) < s.size := by omega
      have hp' : 0 < s.size := by omega
      have htd : decide ((t : Int) < 11) = false := by simp; omega
      by_cases h11 : t < s.size
      · by_cases hm : ((s[0].toNat : Int) == 45) = true
        · by_cases hk9 : 9 < k
          all_goals
            go_wp2
            go_ret2
            exact ⟨hans, Below.refl _ _⟩
        · have hm' : ((s[0].toNat : Int) == 45) = false := by simpa using hm
          clear hm
          by_cases hk9 : 9 < k
          all_goals
            go_wp2
            go_ret2
            exact ⟨hans, Below.refl _ _⟩
      · by_cases hm : ((s[0].toNat : Int) == 45) = true
        · by_cases hk9 : 9 < k
          all_goals
            go_wp2
            go_ret2
            exact ⟨hans, Below.refl _ _⟩
        · have hm' : ((s[0].toNat : Int) == 45) = false := by simpa using hm
          clear hm
          by_cases hk9 : 9 < k
          all_goals
            go_wp2
            go_ret2
            exact ⟨hans, Below.refl _ _⟩
theorem sparse (s : ByteArray) (hs : s.size ≤ maxLen) (w : World) : Calls Tryz.prog 65 #[.string s] w fun e w' => ParAns s.data.toList e ∧ Below w.heap.size w w' := by
  by_cases h : 10 < s.size
  · exact sparse_big s hs w h
  · exact sparse_small s w (by omega)
end Go.Proofs.YtoiobaiiammehaaGreatDoor
/- The reference's IsValidRow and RowCost, by contract. -/
namespace Go.Proofs.YtoiobaiiammehaaGreatDoor
open Go.RowKit

theorem sin (n a b : Int) (w : World) : Calls Tryz.prog 28 #[.int .i64 n, .int .i64 a, .int .i64 b] w fun e w' => e = .returned (.bool (decide (a ≤ n ∧ n ≤ b))) ∧ w = w' := by
  go_enter Tryz.func28, Tryz.ntmps28
  go_wp2
  all_goals go_ret
  all_goals simp_all
  all_goals omega
theorem svalid (r : R) (w : World) : Calls Tryz.prog 26 #[r.val] w fun e w' => e = .returned (.bool r.ok) ∧ Below w.heap.size w w' := by
  obtain ⟨k, v, d⟩ := r
  unfold R.val
  go_enter Tryz.func26, Tryz.ntmps26
  go_wp2_with fail
  refine (sin _ _ _ _).mono ?_
  rintro e w1 ⟨rfl, rfl⟩
  go_wp2_with fail
  case isTrue =>
    refine (sin _ _ _ _).mono ?_
    rintro e w1 ⟨rfl, rfl⟩
    go_wp2_with fail
    case isTrue =>
      refine (sin _ _ _ _).mono ?_
      rintro e w1 ⟨rfl, rfl⟩
      go_wp2_with fail
      all_goals go_ret
      all_goals refine ⟨?_, (Below.refl _ _).alloc (Nat.le_refl _) _⟩
      all_goals simp_all [R.ok]
    all_goals go_ret
    all_goals refine ⟨?_, (Below.refl _ _).alloc (Nat.le_refl _) _⟩
    all_goals simp_all [R.ok]
    all_goals omega
  all_goals go_ret
  all_goals refine ⟨?_, (Below.refl _ _).alloc (Nat.le_refl _) _⟩
  all_goals simp_all [R.ok]
  all_goals omega
theorem scost (r : R) (hr : r.wf) (w : World) : Calls Tryz.prog 46 #[r.val] w fun e w' => e = .returned (.int .i64 r.cost) ∧ Below w.heap.size w w' := by
  have hw := hr.2.2
  have H := Lib.hid (svalid r)
  cases hok : r.ok with
  | true =>
    have hc : r.cost = 1 + r.width := by unfold R.cost; rw [hok]; rfl
    have hk := R.ok_iff.1 hok
    rw [hc]
    unfold R.val
    go_enter Tryz.func46, Tryz.ntmps46
    go_wp2_with fail
    refine (H.out _).mono ?_
    rintro e w1 ⟨rfl, b1⟩
    obtain ⟨⟨c0, c1, c2⟩, b2⟩ := box_row (r := r) b1
    rw [hok]
    simp only [Nat.zero_add] at c2
    go_wp2_with fail
    go_ret
    exact ⟨rfl, b2⟩
  | false =>
    have hc : r.cost = 0 := by unfold R.cost; rw [hok]; rfl
    rw [hc]
    unfold R.val
    go_enter Tryz.func46, Tryz.ntmps46
    go_wp2_with fail
    refine (H.out _).mono ?_
    rintro e w1 ⟨rfl, b1⟩
    obtain ⟨⟨c0, c1, c2⟩, b2⟩ := box_row (r := r) b1
    rw [hok]
    go_wp2_with fail
    go_ret
    exact ⟨rfl, b2⟩
end Go.Proofs.YtoiobaiiammehaaGreatDoor
/- The reference's FormatRow, by contract. -/
namespace Go.Proofs.YtoiobaiiammehaaGreatDoor
open Go.RowKit Go.Lib

/-- The row lies in its box, and what was there at w's time is as it was. -/
structure Boxed (w : World) (r : R) (v : World) : Prop where
  c0 : v.cell? ⟨w.heap.size, 0, none⟩ = some (.int .i64 r.key)
  c1 : v.cell? ⟨w.heap.size, 1, none⟩ = some (.int .i64 r.value)
  c2 : v.cell? ⟨w.heap.size, 2, none⟩ = some (.int .i64 r.width)
  old : Below w.heap.size w v
  big : w.heap.size < v.heap.size
theorem Boxed.drew {w v : World} {r : R} (h : Boxed w r v) : Boxed w r v.drew := ⟨h.c0, h.c1, h.c2, h.old.drew, h.big⟩
theorem Boxed.next {w v v' : World} {r : R} (h : Boxed w r v) (hb : Below v.heap.size v v') : Boxed w r v' :=
  ⟨(hb.cell h.big).trans h.c0, (hb.cell h.big).trans h.c1, (hb.cell h.big).trans h.c2, h.old.trans (hb.mono (Nat.le_of_lt h.big)), Nat.lt_of_lt_of_le h.big hb.size⟩
theorem boxed_start {w w' : World} {r : R} {t : TypeId} (hb : Below (w.alloc (.cells #[.int .i64 r.key, .int .i64 r.value, .int .i64 r.width] t)).heap.size (w.alloc (.cells #[.int .i64 r.key, .int .i64 r.value, .int .i64 r.width] t)) w') : Boxed w r w' := by
  obtain ⟨⟨c0, c1, c2⟩, b⟩ := box_row (r := r) hb
  exact ⟨c0, by simpa using c1, by simpa using c2, b, box_lt hb⟩
theorem Boxed.facts {w v : World} {r : R} (h : Boxed w r v) : v.cell? ⟨w.heap.size, 0, none⟩ = some (.int .i64 r.key) ∧ v.cell? ⟨w.heap.size, 1, none⟩ = some (.int .i64 r.value) ∧ v.cell? ⟨w.heap.size, 2, none⟩ = some (.int .i64 r.width) ∧ Hid (Boxed w r v) := ⟨h.c0, h.c1, h.c2, h⟩
theorem fmt_str (a b c : List UInt8) : (⟨a.toArray⟩ : ByteArray) ++ ⟨#[46]⟩ ++ ⟨b.toArray⟩ ++ ⟨#[46]⟩ ++ ⟨c.toArray⟩ = ⟨(a ++ 46 :: (b ++ 46 :: c)).toArray⟩ := by
  have e : (⟨#[46]⟩ : ByteArray) = ⟨[46].toArray⟩ := rfl
  rw [e, ByteArray.mk_append_mk, ByteArray.mk_append_mk, ByteArray.mk_append_mk, ByteArray.mk_append_mk]
  simp
set_option maxRecDepth 100000 in
theorem sfrow (r : R) (w : World) : Calls Tryz.prog 57 #[r.val] w fun e w' => e = .returned (.string ⟨r.fmt.toArray⟩) ∧ Below w.heap.size w w' := by
  have HV := Lib.hid (svalid r)
  cases hok : r.ok with
  | false =>
    have hf : r.fmt = [] := by unfold R.fmt; rw [hok]; rfl
    have HF := Lib.hid hf
    rw [hok] at HV
    clear hf hok
    unfold R.val at HV ⊢
    go_enter Tryz.func57, Tryz.ntmps57
    go_wp2_with fail
    refine (HV.out _).mono ?_
    rintro e w1 ⟨rfl, b1⟩
    have HB := Lib.hid (boxed_start b1)
    clear b1
    go_wp2_with fail
    go_ret
    exact ⟨by rw [HF.out]; rfl, HB.out.old⟩
  | true =>
    have hf : r.fmt = itoa r.key ++ 46 :: (itoa r.value ++ 46 :: itoa r.width) := by unfold R.fmt; rw [hok]; rfl
    have HF := Lib.hid hf
    have hk := R.ok_iff.1 hok
    have l0 := dd_small r.key (by omega) (by omega)
    have l1 := dd_small r.value (by omega) (by omega)
    have l2 := dd_small r.width (by omega) (by omega)
    have F0 := Lib.hid fun w => sfmt r.key w (by omega) (by omega)
    have F1 := Lib.hid fun w => sfmt r.value w (by omega) (by omega)
    have F2 := Lib.hid fun w => sfmt r.width w (by omega) (by omega)
    rw [hok] at HV
    clear hf hok hk
    obtain ⟨a, ha⟩ : ∃ a, a = itoa r.key := ⟨_, rfl⟩
    obtain ⟨b, hb⟩ : ∃ a, a = itoa r.value := ⟨_, rfl⟩
    obtain ⟨c, hc⟩ : ∃ a, a = itoa r.width := ⟨_, rfl⟩
    rw [← ha] at F0 HF l0
    rw [← hb] at F1 HF l1
    rw [← hc] at F2 HF l2
    clear ha hb hc
    have n0 : ¬ 9223372036854775807 < a.length + 1 := by omega
    have n1 : ¬ 9223372036854775807 < a.length + 1 + b.length := by omega
    have n2 : ¬ 9223372036854775807 < a.length + 1 + b.length + 1 := by omega
    have n3 : ¬ 9223372036854775807 < a.length + 1 + b.length + 1 + c.length := by omega
    unfold R.val at HV ⊢
    go_enter Tryz.func57, Tryz.ntmps57
    go_wp2_with fail
    refine (HV.out _).mono ?_
    rintro e w1 ⟨rfl, b1⟩
    have HB := Lib.hid (boxed_start b1).drew
    have hb := boxed_start b1
    obtain ⟨c0, c1, c2, _, _⟩ := hb
    clear b1
    go_wp2_with fail
    go_region_held3 (fun v => v.cell? ⟨w.heap.size, 0, none⟩ = some (.int .i64 r.key) ∧ v.cell? ⟨w.heap.size, 1, none⟩ = some (.int .i64 r.value) ∧ v.cell? ⟨w.heap.size, 2, none⟩ = some (.int .i64 r.width) ∧ Hid (Boxed w r v)) (first | assumption | exact HB.out.facts | exact (Boxed.next (Hid.out (And.right (And.right (And.right (by assumption))))) (by assumption)).facts) (first | (go_at_call_of 69 r.key; refine (F0.out _).mono ?_; rintro e w' ⟨rfl, b2⟩) | (go_at_call_of 69 r.value; refine (F1.out _).mono ?_; rintro e w' ⟨rfl, b2⟩) | (go_at_call_of 69 r.width; refine (F2.out _).mono ?_; rintro e w' ⟨rfl, b2⟩))
    have hold := (Hid.out (And.right (And.right (And.right (by assumption : _ ∧ _ ∧ _ ∧ Hid (Boxed w r w'))))) : Boxed w r w').old
    go_wp2_with fail
    go_ret
    exact ⟨by rw [HF.out, ← fmt_str]; rfl, hold⟩
end Go.Proofs.YtoiobaiiammehaaGreatDoor
/- The reference's ParseRow, by contract. -/
namespace Go.Proofs.YtoiobaiiammehaaGreatDoor
open Go.RowKit Go.Lib Dec

/-- What ParseRow answers. -/
def RowAns (l : List UInt8) (e : Ending) : Prop := e = .returned (.tuple #[.agg #[.int .i64 ((parseRow l).getD R.zero).key, .int .i64 ((parseRow l).getD R.zero).value, .int .i64 ((parseRow l).getD R.zero).width], .bool (parseRow l).isSome])
theorem rowans_no {l : List UInt8} (h : parseRow l = none) : RowAns l (.returned (.tuple #[.agg #[.int .i64 0, .int .i64 0, .int .i64 0], .bool false])) := by unfold RowAns; rw [h]; rfl
theorem rowans_yes {l : List UInt8} {r : R} (h : parseRow l = some r) : RowAns l (.returned (.tuple #[.agg #[.int .i64 r.key, .int .i64 r.value, .int .i64 r.width], .bool true])) := by unfold RowAns; rw [h]; rfl
set_option maxRecDepth 100000 in
theorem sprow_other (s : ByteArray) (hs : s.size ≤ 1000000000000) (w : World) (h3 : (Cut.cut 46 s.data.toList).length ≠ 3) : Calls Tryz.prog 53 #[.string s] w fun e w' => RowAns s.data.toList e ∧ Below w.heap.size w w' := by
  have HP := Lib.hid (rowans_no (parseRow_other _ h3))
  have V0 := Lib.hid (Var3.made w R.zero)
  have hd : (((Cut.cut 46 s.data.toList).length : Int) == 3) = false := by rw [beq_eq_false_iff_ne]; omega
  go_enter Tryz.func53, Tryz.ntmps53
  go_wp2_with fail
  refine (scut s 46 46 rfl hs _).mono ?_
  rintro e w1 ⟨g, cap, rfl, hg, hst, b1⟩
  have V1 := V0.out.keep b1
  obtain ⟨c0, c1, c2⟩ := V1.cells
  obtain ⟨f0, f1, f2⟩ := V1.free
  have B1 := Lib.hid (((Below.refl w.heap.size w).alloc (Nat.le_refl _) (.cells #[.int .i64 R.zero.key, .int .i64 R.zero.value, .int .i64 R.zero.width] 34)).trans (b1.mono (by simp)))
  clear b1 V1
  go_wp2_with fail
  refine bodyPost_ret (v := .tuple #[.agg #[.int .i64 0, .int .i64 0, .int .i64 0], .bool false]) (by simp [results, Tryz.results53, go_sem, *]) rfl ⟨HP.out, below_set3 B1.out (Nat.le_refl _) _ _ _ _ _ _⟩
theorem sparse_piece (a : List UInt8) (ha : a.length ≤ 1000000000000) (w : World) : Calls Tryz.prog 65 #[.string ⟨a.toArray⟩] w fun e w' => e = .returned (.tuple #[.int .i64 ((parse a).getD 0), .bool (parse a).isSome]) ∧ Below w.heap.size w w' :=
  (sparse ⟨a.toArray⟩ (by unfold maxLen; simp [ByteArray.size]; omega) w).mono fun e w' ⟨h, hb⟩ => ⟨by simpa [ParAns] using h, hb⟩
set_option maxRecDepth 100000 in
theorem sprow_three (s : ByteArray) (hs : s.size ≤ 1000000000000) (w : World) (a b c : List UInt8) (h3 : Cut.cut 46 s.data.toList = [a, b, c]) : Calls Tryz.prog 53 #[.string s] w fun e w' => RowAns s.data.toList e ∧ Below w.heap.size w w' := by
  have H3 := Lib.hid h3
  have hal : a.length ≤ 1000000000000 ∧ b.length ≤ 1000000000000 ∧ c.length ≤ 1000000000000 := by
    have e := congrArg List.length (parseRow_three h3)
    simp only [List.length_append, List.length_cons] at e
    have : s.data.toList.length = s.size := by simp
    omega
  obtain ⟨ha, hb, hc⟩ := hal
  have PA := Lib.hid (sparse_piece a ha)
  have PB := Lib.hid (sparse_piece b hb)
  have PC := Lib.hid (sparse_piece c hc)
  obtain ⟨x, hx⟩ : ∃ x, x = (parse a).getD 0 := ⟨_, rfl⟩
  obtain ⟨y, hy⟩ : ∃ x, x = (parse b).getD 0 := ⟨_, rfl⟩
  obtain ⟨z, hz⟩ : ∃ x, x = (parse c).getD 0 := ⟨_, rfl⟩
  have ht : threeRow s.data.toList = ⟨x, y, z⟩ := by unfold threeRow; rw [h3, hx, hy, hz]; rfl
  have HT := Lib.hid ht
  rw [← hx] at PA
  rw [← hy] at PB
  rw [← hz] at PC
  clear hx hy hz h3 ht ha hb hc
  have V0 := Lib.hid (Var3.made w R.zero)
  go_enter Tryz.func53, Tryz.ntmps53
  go_wp2_with fail
  refine (scut s 46 46 rfl hs _).mono ?_
  rintro e w1 ⟨g, cap, rfl, hg, hst, b1⟩
  rw [H3.out] at hst ⊢
  have V1 := Lib.hid (V0.out.keep b1)
  have B1 := Lib.hid (((Below.refl w.heap.size w).alloc (Nat.le_refl _) (.cells #[.int .i64 R.zero.key, .int .i64 R.zero.value, .int .i64 R.zero.width] 34)).trans (b1.mono (by simp)))
  have S1 := Lib.hid hst
  have hgl : g < w1.heap.size := hst.lt
  have s0 : (w1.alloc (.cells #[.int .i64 0, .int .i64 0, .int .i64 0] 34)).cell? ⟨g, 0, none⟩ = some (.string ⟨a.toArray⟩) := (World.cell?_alloc_old w1 _ _ (Nat.ne_of_lt hgl)).trans (hst.2 0 (by simp))
  have hba : Below w1.heap.size w1 (w1.alloc (.cells #[.int .i64 0, .int .i64 0, .int .i64 0] 34)) := (Below.refl _ _).alloc (Nat.le_refl _) _
  have hsa : w1.heap.size < (w1.alloc (.cells #[.int .i64 0, .int .i64 0, .int .i64 0] 34)).heap.size := by simp
  have VA := Lib.hid (V1.out.keep hba)
  have SA := Lib.hid (hst.keep hba)
  have BA := Lib.hid (B1.out.trans (hba.mono B1.out.size))
  have XA : Hid (Var3 (w1.alloc (.cells #[.int .i64 0, .int .i64 0, .int .i64 0] 34)) w1.heap.size R.zero) := Var3.made w1 R.zero
  have N1 : Hid (w.heap.size < w1.heap.size) := V1.out.lt
  clear b1 hst hba
  go_wp2_with fail
  refine (PA.out _).mono ?_
  rintro e w2 ⟨rfl, b2⟩
  have V2 := Lib.hid (VA.out.keep b2)
  have S2 := Lib.hid (SA.out.keep b2)
  have B2 := Lib.hid (BA.out.trans (b2.mono BA.out.size))
  have X2 := Lib.hid (XA.out.keep b2)
  obtain ⟨c0, c1, c2⟩ := X2.out.cells
  obtain ⟨f0, f1, f2⟩ := X2.out.free
  have s1 : w2.cell? ⟨g, 1, none⟩ = some (.string ⟨b.toArray⟩) := S2.out.2 1 (by simp)
  clear b2 s0
  go_wp2_with fail
  have hne : g ≠ w1.heap.size := Nat.ne_of_lt hgl
  have hne0 : w.heap.size ≠ w1.heap.size := Nat.ne_of_lt N1.out
  have SB := Lib.hid (S2.out.other (i := 0) hne (.int .i64 x))
  have VB := Lib.hid (V2.out.other (i := 0) hne0 (.int .i64 x))
  have XB := Lib.hid (X2.out.set0 x)
  have BB := Lib.hid (B2.out.setCell (p := ⟨w1.heap.size, 0, none⟩) (Nat.le_of_lt N1.out) (.int .i64 x))
  clear c0 c1 c2 f0 f1 f2 s1
  refine (PB.out _).mono ?_
  rintro e w3 ⟨rfl, b3⟩
  have V3 := Lib.hid (VB.out.keep b3)
  have S3 := Lib.hid (SB.out.keep b3)
  have B3 := Lib.hid (BB.out.trans (b3.mono BB.out.size))
  have X3 := Lib.hid (XB.out.keep b3)
  obtain ⟨c0, c1, c2⟩ := X3.out.cells
  obtain ⟨f0, f1, f2⟩ := X3.out.free
  have s2 : w3.cell? ⟨g, 2, none⟩ = some (.string ⟨c.toArray⟩) := S3.out.2 2 (by simp)
  clear b3
  go_wp2_with fail
  have SC := Lib.hid (S3.out.other (i := 1) hne (.int .i64 y))
  have VC := Lib.hid (V3.out.other (i := 1) hne0 (.int .i64 y))
  have XC := Lib.hid (X3.out.set1 y)
  have BC := Lib.hid (B3.out.setCell (p := ⟨w1.heap.size, 1, none⟩) (Nat.le_of_lt N1.out) (.int .i64 y))
  clear c0 c1 c2 f0 f1 f2 s2
  refine (PC.out _).mono ?_
  rintro e w4 ⟨rfl, b4⟩
  have V4 := Lib.hid (VC.out.keep b4)
  have B4 := Lib.hid (BC.out.trans (b4.mono BC.out.size))
  have X4 := Lib.hid (XC.out.keep b4)
  obtain ⟨c0, c1, c2⟩ := X4.out.cells
  obtain ⟨f0, f1, f2⟩ := X4.out.free
  clear b4
  go_wp2_with fail
  have VD := Lib.hid (V4.out.other (i := 2) hne0 (.int .i64 z))
  have XD := Lib.hid (X4.out.set2 z)
  have BD := Lib.hid (B4.out.setCell (p := ⟨w1.heap.size, 2, none⟩) (Nat.le_of_lt N1.out) (.int .i64 z))
  clear c0 c1 c2 f0 f1 f2
  refine (sfrow ⟨x, y, z⟩ _).mono ?_
  rintro e w5 ⟨rfl, b5⟩
  have V5 := Lib.hid (VD.out.keep b5)
  have B5 := Lib.hid (BD.out.trans (b5.mono BD.out.size))
  have X5 := Lib.hid (XD.out.keep b5)
  clear b5
  obtain ⟨c0, c1, c2⟩ := X5.out.cells
  obtain ⟨d0, d1, d2⟩ := V5.out.cells
  obtain ⟨f0, f1, f2⟩ := V5.out.free
  by_cases hf : (⟨(R.fmt ⟨x, y, z⟩).toArray⟩ : ByteArray) = s
  · have hans := parseRow_yes s.data.toList (by rw [H3.out]; rfl) (by rw [HT.out, ← hf])
    rw [HT.out] at hans
    have HA := Lib.hid (rowans_yes hans)
    rw [hf]
    clear hans hf
    go_wp2_with fail
    refine bodyPost_ret (v := .tuple #[.agg #[.int .i64 x, .int .i64 y, .int .i64 z], .bool true]) (by simp [results, Tryz.results53, go_sem, *]) rfl ⟨HA.out, below_set3 B5.out (Nat.le_refl _) _ _ _ _ _ _⟩
  · have hans := parseRow_no s.data.toList (by rw [HT.out]; intro e; apply hf; rw [e])
    have HA := Lib.hid (rowans_no hans)
    have hd : ((R.fmt ⟨x, y, z⟩) == s.toList) = false := by
      rw [beq_eq_false_iff_ne, ByteArray.toList_eq]
      intro e
      apply hf
      rw [e]
    clear hans hf
    go_wp2_with fail
    refine bodyPost_ret (v := .tuple #[.agg #[.int .i64 0, .int .i64 0, .int .i64 0], .bool false]) (by simp [results, Tryz.results53, go_sem, *]) rfl ⟨HA.out, below_set3 B5.out (Nat.le_refl _) _ _ _ _ _ _⟩
theorem sprow (s : ByteArray) (hs : s.size ≤ 1000000000000) (w : World) : Calls Tryz.prog 53 #[.string s] w fun e w' => RowAns s.data.toList e ∧ Below w.heap.size w w' := by
  by_cases h3 : (Cut.cut 46 s.data.toList).length = 3
  · match h : Cut.cut 46 s.data.toList, h3 with
    | [a, b, c], _ => exact sprow_three s hs w a b c h
  · exact sprow_other s hs w h3
end Go.Proofs.YtoiobaiiammehaaGreatDoor
/- The program's ParseRow, by contract. -/
namespace Go.Proofs.YtoiobaiiammehaaGreatDoor
open Go.RowKit Go.Lib Dec

set_option maxRecDepth 100000 in
theorem iprow_other (s : ByteArray) (hs : s.size ≤ 4000000000) (w : World) (hm : Mx w) (h3 : (Cut.cut 46 s.data.toList).length ≠ 3) : Calls Tryz.prog 64 #[.string s] w fun e w' => RowAns s.data.toList e ∧ Below w.heap.size w w' := by
  have HP := Lib.hid (rowans_no (parseRow_other _ h3))
  have V0 := Lib.hid (Var3.made w R.zero)
  have hba : Below w.heap.size w (w.alloc (.cells #[.int .i64 0, .int .i64 0, .int .i64 0] 34)) := (Below.refl _ _).alloc (Nat.le_refl _) _
  have HM := Lib.hid (hm.stay hba)
  have BA := Lib.hid hba
  clear hba hm
  go_enter Tryz.func64, Tryz.ntmps64
  go_wp2_with fail
  refine (splitn_sign s 46 4 _ HM.out (by omega) (by omega) (by omega)).mono ?_
  rintro e w1 ⟨len, cap, rfl, b1, hor⟩
  have hd : ((len : Int) == 3) = false := by
    rw [beq_eq_false_iff_ne]
    rcases hor with ⟨_, h, _⟩ | ⟨_, h⟩ <;> omega
  have V1 := V0.out.keep b1
  obtain ⟨c0, c1, c2⟩ := V1.cells
  obtain ⟨f0, f1, f2⟩ := V1.free
  have B1 := Lib.hid (BA.out.trans (b1.mono BA.out.size))
  clear b1 V1 hor
  go_wp2_with fail
  refine bodyPost_ret (v := .tuple #[.agg #[.int .i64 0, .int .i64 0, .int .i64 0], .bool false]) (by simp [results, Tryz.results64, go_sem, *]) rfl ⟨HP.out, below_set3 B1.out (Nat.le_refl _) _ _ _ _ _ _⟩
theorem iparse_piece (a : List UInt8) (w : World) (h : Tab w ∧ Syn w) : Calls Tryz.prog 73 #[.string ⟨a.toArray⟩] w fun e w' => e = .returned (.tuple #[.int .i64 ((parse a).getD 0), .bool (parse a).isSome]) ∧ Below w.heap.size w w' :=
  (iparse ⟨a.toArray⟩ w h.1 h.2).mono fun e w' ⟨h, hb⟩ => ⟨by simpa [ParAns] using h, hb⟩
set_option maxRecDepth 100000 in
theorem iprow_three (s : ByteArray) (hs : s.size ≤ 4000000000) (w : World) (hm : Mx w) (hL : Tab w ∧ Syn w) (a b c : List UInt8) (h3 : Cut.cut 46 s.data.toList = [a, b, c]) : Calls Tryz.prog 64 #[.string s] w fun e w' => RowAns s.data.toList e ∧ Below w.heap.size w w' := by
  have HR := Lib.hid (parseRow_pieces h3)
  have PA := Lib.hid (iparse_piece a)
  have PB := Lib.hid (iparse_piece b)
  have PC := Lib.hid (iparse_piece c)
  obtain ⟨x, hx⟩ : ∃ x, x = (parse a).getD 0 := ⟨_, rfl⟩
  obtain ⟨y, hy⟩ : ∃ x, x = (parse b).getD 0 := ⟨_, rfl⟩
  obtain ⟨z, hz⟩ : ∃ x, x = (parse c).getD 0 := ⟨_, rfl⟩
  obtain ⟨p, hp⟩ : ∃ x, x = (parse a).isSome := ⟨_, rfl⟩
  obtain ⟨q, hq⟩ : ∃ x, x = (parse b).isSome := ⟨_, rfl⟩
  obtain ⟨r, hr⟩ : ∃ x, x = (parse c).isSome := ⟨_, rfl⟩
  rw [← hx, ← hp] at PA
  rw [← hy, ← hq] at PB
  rw [← hz, ← hr] at PC
  rw [← hx, ← hy, ← hz, ← hp, ← hq, ← hr] at HR
  clear hx hy hz hp hq hr
  have H3 := Lib.hid h3
  clear h3
  have V0 := Lib.hid (Var3.made w R.zero)
  have hba : Below w.heap.size w (w.alloc (.cells #[.int .i64 0, .int .i64 0, .int .i64 0] 34)) := (Below.refl _ _).alloc (Nat.le_refl _) _
  have HM := Lib.hid (hm.stay hba)
  have L0 := Lib.hid (laid_stay hL hba)
  have BA := Lib.hid hba
  clear hba hm hL
  go_enter Tryz.func64, Tryz.ntmps64
  go_wp2_with fail
  refine (splitn_sign s 46 4 _ HM.out (by omega) (by omega) (by omega)).mono ?_
  rintro e w1 ⟨len, cap, rfl, b1, hor⟩
  rw [H3.out] at hor
  obtain ⟨g, hg⟩ : ∃ g, g = (w.alloc (.cells #[.int .i64 0, .int .i64 0, .int .i64 0] 34)).heap.size := ⟨_, rfl⟩
  rw [← hg] at hor ⊢
  have HG := Lib.hid hg
  clear hg
  obtain ⟨rfl, hst⟩ : len = 3 ∧ IsStrs w1 g [a, b, c] := by
    rcases hor with ⟨_, h, hst⟩ | ⟨h, _⟩
    · exact ⟨h, hst⟩
    · simp at h
  have V1 := Lib.hid (V0.out.keep b1)
  have B1 := Lib.hid (BA.out.trans (b1.mono BA.out.size))
  have L1 := Lib.hid (laid_stay L0.out b1)
  have S1 := Lib.hid hst
  have s0 : w1.cell? ⟨g, 0, none⟩ = some (.string ⟨a.toArray⟩) := hst.2 0 (by simp)
  clear b1 hor hst
  go_wp2_with fail
  refine (PA.out _ L1.out).mono ?_
  rintro e w2 ⟨rfl, b2⟩
  have V2 := Lib.hid (V1.out.keep b2)
  have B2 := Lib.hid (B1.out.trans (b2.mono B1.out.size))
  have L2 := Lib.hid (laid_stay L1.out b2)
  have S2 := Lib.hid (S1.out.keep b2)
  have s1 : w2.cell? ⟨g, 1, none⟩ = some (.string ⟨b.toArray⟩) := S2.out.2 1 (by simp)
  clear b2 s0
  go_wp2_with fail
  refine (PB.out _ L2.out).mono ?_
  rintro e w3 ⟨rfl, b3⟩
  have V3 := Lib.hid (V2.out.keep b3)
  have B3 := Lib.hid (B2.out.trans (b3.mono B2.out.size))
  have L3 := Lib.hid (laid_stay L2.out b3)
  have S3 := Lib.hid (S2.out.keep b3)
  have s2 : w3.cell? ⟨g, 2, none⟩ = some (.string ⟨c.toArray⟩) := S3.out.2 2 (by simp)
  clear b3 s1
  go_wp2_with fail
  refine (PC.out _ L3.out).mono ?_
  rintro e w4 ⟨rfl, b4⟩
  have V4 := Lib.hid (V3.out.keep b4)
  have B4 := Lib.hid (B3.out.trans (b4.mono B3.out.size))
  clear b4 s2
  have hbb : Below w4.heap.size w4 (w4.alloc (.cells #[.int .i64 x, .int .i64 y, .int .i64 z] 34)) := (Below.refl _ _).alloc (Nat.le_refl _) _
  have V5 := Lib.hid (V4.out.keep hbb)
  have B5 := Lib.hid (B4.out.trans (hbb.mono B4.out.size))
  have X5 : Hid (Var3 (w4.alloc (.cells #[.int .i64 x, .int .i64 y, .int .i64 z] 34)) w4.heap.size ⟨x, y, z⟩) := Var3.made w4 ⟨x, y, z⟩
  clear hbb
  cases p with
  | false =>
    have HA := Lib.hid (rowans_no (l := s.data.toList) (by rw [HR.out]; simp))
    obtain ⟨d0, d1, d2⟩ := V5.out.cells
    obtain ⟨f0, f1, f2⟩ := V5.out.free
    go_wp2_with fail
    refine bodyPost_ret (v := .tuple #[.agg #[.int .i64 0, .int .i64 0, .int .i64 0], .bool false]) (by simp [results, Tryz.results64, go_sem, *]) rfl ⟨HA.out, below_set3 B5.out (Nat.le_refl _) _ _ _ _ _ _⟩
  | true =>
    cases q with
    | false =>
      have HA := Lib.hid (rowans_no (l := s.data.toList) (by rw [HR.out]; simp))
      obtain ⟨d0, d1, d2⟩ := V5.out.cells
      obtain ⟨f0, f1, f2⟩ := V5.out.free
      go_wp2_with fail
      refine bodyPost_ret (v := .tuple #[.agg #[.int .i64 0, .int .i64 0, .int .i64 0], .bool false]) (by simp [results, Tryz.results64, go_sem, *]) rfl ⟨HA.out, below_set3 B5.out (Nat.le_refl _) _ _ _ _ _ _⟩
    | true =>
      cases r with
      | false =>
        have HA := Lib.hid (rowans_no (l := s.data.toList) (by rw [HR.out]; simp))
        obtain ⟨d0, d1, d2⟩ := V5.out.cells
        obtain ⟨f0, f1, f2⟩ := V5.out.free
        go_wp2_with fail
        refine bodyPost_ret (v := .tuple #[.agg #[.int .i64 0, .int .i64 0, .int .i64 0], .bool false]) (by simp [results, Tryz.results64, go_sem, *]) rfl ⟨HA.out, below_set3 B5.out (Nat.le_refl _) _ _ _ _ _ _⟩
      | true =>
        have HV := Lib.hid (ivalid ⟨x, y, z⟩)
        obtain ⟨c0, c1, c2⟩ := X5.out.cells
        go_wp2_with fail
        refine (HV.out _).mono ?_
        rintro e w5 ⟨rfl, b5⟩
        have V6 := Lib.hid (V5.out.keep b5)
        have B6 := Lib.hid (B5.out.trans (b5.mono B5.out.size))
        have X6 := Lib.hid (X5.out.keep b5)
        obtain ⟨d0, d1, d2⟩ := V6.out.cells
        obtain ⟨f0, f1, f2⟩ := V6.out.free
        obtain ⟨e0, e1, e2⟩ := X6.out.cells
        clear b5 c0 c1 c2
        cases hv : R.ok ⟨x, y, z⟩ with
        | false =>
          have HA := Lib.hid (rowans_no (l := s.data.toList) (by rw [HR.out, hv]; simp))
          clear hv
          go_wp2_with fail
          refine bodyPost_ret (v := .tuple #[.agg #[.int .i64 0, .int .i64 0, .int .i64 0], .bool false]) (by simp [results, Tryz.results64, go_sem, *]) rfl ⟨HA.out, below_set3 B6.out (Nat.le_refl _) _ _ _ _ _ _⟩
        | true =>
          have HA := Lib.hid (rowans_yes (l := s.data.toList) (r := ⟨x, y, z⟩) (by rw [HR.out, hv]; simp))
          clear hv
          go_wp2_with fail
          refine bodyPost_ret (v := .tuple #[.agg #[.int .i64 x, .int .i64 y, .int .i64 z], .bool true]) (by simp [results, Tryz.results64, go_sem, *]) rfl ⟨HA.out, below_set3 B6.out (Nat.le_refl _) _ _ _ _ _ _⟩
theorem iprow (s : ByteArray) (hs : s.size ≤ 4000000000) (w : World) (hm : Mx w) (hL : Tab w ∧ Syn w) : Calls Tryz.prog 64 #[.string s] w fun e w' => RowAns s.data.toList e ∧ Below w.heap.size w w' := by
  by_cases h3 : (Cut.cut 46 s.data.toList).length = 3
  · match h : Cut.cut 46 s.data.toList, h3 with
    | [a, b, c], _ => exact iprow_three s hs w hm hL a b c h
  · exact iprow_other s hs w hm h3
end Go.Proofs.YtoiobaiiammehaaGreatDoor
/- The program's ParseRows, by contract: its rows lie in memory of the call's own. -/
namespace Go.Proofs.YtoiobaiiammehaaGreatDoor
open Go.RowKit

/-- What ParseRows answers: a slice over a block of its own that holds the rows, and whether. -/
def RowsOwn (base : Nat) (l : List UInt8) (e : Ending) (w' : World) : Prop := ∃ a len cap, e = .returned (.tuple #[.slice a len cap, .bool (parseRows l).isSome]) ∧ len ≤ 24 ∧ OwnRows w' base a len ((parseRows l).getD [])
theorem rowsown_no {base : Nat} {l : List UInt8} {w' : World} {a : Option Addr} {cap : Nat} (h : parseRows l = none) : RowsOwn base l (.returned (.tuple #[.slice a 0 cap, .bool false])) w' := by
  refine ⟨a, 0, cap, ?_, Nat.zero_le _, ?_⟩
  · rw [h]; rfl
  · rw [h]; exact ⟨rfl, .inl rfl⟩
theorem rowsown_yes {base : Nat} {l : List UInt8} {w' : World} {a : Option Addr} {cap len : Nat} {M : List R} (h : parseRows l = some M) (hlen : len ≤ 24) (hr : OwnRows w' base a len M) : RowsOwn base l (.returned (.tuple #[.slice a len cap, .bool true])) w' := by
  refine ⟨a, len, cap, ?_, hlen, ?_⟩
  · rw [h]; rfl
  · rw [h]; exact hr
theorem rows_next (M : List R) (n k : Nat) (r : R) (hk : k < n) (hM : M.length = k) : (M ++ List.replicate (n - k) R.zero).set k r = (M ++ [r]) ++ List.replicate (n - (k + 1)) R.zero := set_next' M R.zero n k r hk hM
set_option maxRecDepth 100000 in
theorem iprows_none (s : ByteArray) (h0 : s.data.toList = []) (w : World) : Calls Tryz.prog 52 #[.string s] w fun e w' => RowsOwn w.heap.size s.data.toList e w' ∧ Below w.heap.size w w' := by
  have hs0 : s = ⟨#[]⟩ := by
    apply ByteArray.ext
    apply Array.toList_inj.1
    exact h0
  have HY := Lib.hid fun (a : Option Addr) (cap : Nat) (w' : World) => rowsown_yes (base := w.heap.size) (l := s.data.toList) (w' := w') (a := a) (cap := cap) (len := 0) (M := []) (by rw [h0]; rfl) (Nat.zero_le _) ⟨rfl, .inl rfl⟩
  clear h0
  subst hs0
  go_enter Tryz.func52, Tryz.ntmps52
  go_wp2_with fail
  go_ret2
  exact ⟨HY.out _ _ _, Below.refl _ _⟩
set_option maxRecDepth 100000 in
theorem iprows_long (s : ByteArray) (hs : s.size ≤ 4000000000) (hpos : s.data.toList ≠ []) (w : World) (hm : Mx w) (h24 : 24 < (Cut.cut 32 s.data.toList).length) : Calls Tryz.prog 52 #[.string s] w fun e w' => RowsOwn w.heap.size s.data.toList e w' ∧ Below w.heap.size w w' := by
  have hsne : (s.toList == []) = false := by rw [beq_eq_false_iff_ne, ByteArray.toList_eq]; exact hpos
  have HN := Lib.hid (parseRows_long s.data.toList hpos h24)
  have HM := Lib.hid hm
  clear hpos hm
  go_enter Tryz.func52, Tryz.ntmps52
  go_wp2_with fail
  refine (splitn_sign s 32 25 _ HM.out (by omega) (by omega) (by omega)).mono ?_
  rintro e w1 ⟨len, cap, rfl, b1, hor⟩
  have hlen : (24 : Int) < len := by rcases hor with ⟨_, h, _⟩ | ⟨_, h⟩ <;> omega
  have B1 := Lib.hid b1
  clear hor b1
  go_wp2_with fail
  go_ret2
  exact ⟨rowsown_no HN.out, B1.out⟩
set_option maxRecDepth 100000 in
theorem iprows_some (s : ByteArray) (hs : s.size ≤ 4000000000) (hpos : s.data.toList ≠ []) (w : World) (hm : Mx w) (hL : Tab w ∧ Syn w) (h24 : (Cut.cut 32 s.data.toList).length ≤ 24) : Calls Tryz.prog 52 #[.string s] w fun e w' => RowsOwn w.heap.size s.data.toList e w' ∧ Below w.heap.size w w' := by
  have hsl : s.data.toList.length = s.size := by simp
  have hsne : (s.toList == []) = false := by rw [beq_eq_false_iff_ne, ByteArray.toList_eq]; exact hpos
  have hmem : ∀ (t : Nat) (ht : t < (Cut.cut 32 s.data.toList).length), (Cut.cut 32 s.data.toList)[t].length ≤ s.size := by
    intro t ht
    have hj := Cut.join_cut 32 s.data.toList
    rw [← hsl]
    conv => rhs; rw [← hj]
    exact Cut.join_mem_length _ [32] _ (List.getElem_mem ht)
  have HMM := Lib.hid hmem
  obtain ⟨ps, hps⟩ : ∃ ps, ps = Cut.cut 32 s.data.toList := ⟨_, rfl⟩
  have HBAD := Lib.hid (parseRows_bad s.data.toList hpos)
  have HALL := Lib.hid (parseRows_all s.data.toList hpos)
  have HSP := Lib.hid fun v hv => splitn_sign s 32 25 v hv (by omega) (by omega) (by omega)
  rw [← hps] at HMM HBAD HALL HSP h24
  have HM := Lib.hid hm
  have HL := Lib.hid hL
  clear hps hsl hmem hpos hm hL
  go_enter Tryz.func52, Tryz.ntmps52
  go_wp2_with fail
  refine (HSP.out _ HM.out).mono ?_
  rintro e w1 ⟨len, cap, rfl, b1, hor⟩
  obtain ⟨g, hg⟩ : ∃ g, g = w.heap.size := ⟨_, rfl⟩
  obtain ⟨hlen, hst⟩ : len = ps.length ∧ IsStrs w1 g ps := by
    rcases hor with ⟨_, h, hst⟩ | ⟨h, _⟩
    · exact ⟨h, by rw [hg]; exact hst⟩
    · omega
  subst hlen
  rw [← hg]
  have HG := Lib.hid hg
  clear hor hg
  have B1 := Lib.hid b1
  have S1 := Lib.hid hst
  have hmk := run_make_rows ps.length (by omega)
  have hbw : Below w1.heap.size w1 (w1.alloc (.cells (cells3 (List.replicate ps.length R.zero)).toArray 34)) := (Below.refl _ _).alloc (Nat.le_refl _) _
  have GA := Lib.hid (heap_alloc_new w1 (.cells (cells3 (List.replicate ps.length R.zero)).toArray 34))
  have SA := Lib.hid (hst.keep hbw)
  have BA := Lib.hid (B1.out.trans (hbw.mono B1.out.size))
  have hle := B1.out.size
  have hgl := hst.lt
  clear b1 hst hbw
  go_wp2_with fail
  clear hmk
  go_loopw [22] (fun i wr => ∃ (k : Nat) (M : List R), i = .int .i64 k ∧ k ≤ ps.length ∧ Hid (M.length = k) ∧ Hid (readAll (ps.take k) = some M) ∧ Hid (wr.heap[w1.heap.size]? = some (.cells (cells3 (M ++ List.replicate (ps.length - k) R.zero)).toArray 34 (0, 0))) ∧ Hid (IsStrs wr g ps) ∧ Hid (Below w.heap.size w wr)) (fun i _ => ps.length - (intOf i).toNat)
  case atStart => exact ⟨0, [], rfl, Nat.zero_le _, rfl, rfl, GA, SA, BA⟩
  case round =>
    obtain ⟨k, M, rfl, hk, hml, hread, hown, hst, hb⟩ := hrel
    have hsz := hb.out.size
    by_cases hlt : k < ps.length
    · have hc : wr.cell? ⟨g, k, none⟩ = some (.string ⟨ps[k].toArray⟩) := hst.out.2 k hlt
      obtain ⟨p, hp⟩ : ∃ p, p = ps[k] := ⟨_, rfl⟩
      rw [← hp] at hc
      have hpl : p.length ≤ s.size := by rw [hp]; exact HMM.out k hlt
      have HN := Lib.hid (readAll_next ps k hlt M hread.out)
      have HB := Lib.hid (HBAD.out k hlt)
      rw [← hp] at HN HB
      clear hp
      have PR := Lib.hid (iprow ⟨p.toArray⟩ (by simp [ByteArray.size]; omega))
      unfold RowAns at PR
      have hpd : (⟨p.toArray⟩ : ByteArray).data.toList = p := by simp
      rw [hpd] at PR
      have M1 := Lib.hid (HM.out.stay hb.out)
      have L1 := Lib.hid (laid_stay HL.out hb.out)
      clear hpd
      cases hpr : parseRow p with
      | none =>
        rw [hpr] at PR HN
        have HNO := Lib.hid (HB.out hpr)
        clear hpr
        go_wp2_with fail
        refine (PR.out _ M1.out L1.out).mono ?_
        rintro e w2 ⟨rfl, b2⟩
        have B2 := Lib.hid (hb.out.trans (b2.mono hsz))
        clear b2
        go_wp2_with fail
        go_ret2
        exact ⟨rowsown_no HNO.out, B2.out.alloc B2.out.size _⟩
      | some r =>
        rw [hpr] at PR HN
        simp only [Option.getD_some, Option.isSome_some] at PR
        clear hpr
        go_wp2_with fail
        refine (PR.out _ M1.out L1.out).mono ?_
        rintro e w2 ⟨rfl, b2⟩
        have B2 := Lib.hid (hb.out.trans (b2.mono hsz))
        have O2 := Lib.hid ((b2.block _ (lt_of_block hown.out)).trans hown.out)
        have S2 := Lib.hid (hst.out.keep b2)
        clear b2
        have hbox : Below w2.heap.size w2 (w2.alloc (.cells #[.int .i64 r.key, .int .i64 r.value, .int .i64 r.width] 34)) := (Below.refl _ _).alloc (Nat.le_refl _) _
        have S3 := Lib.hid (S2.out.keep hbox)
        have B3 := Lib.hid (B2.out.trans (hbox.mono B2.out.size))
        have O3 := Lib.hid ((hbox.block _ (lt_of_block O2.out)).trans O2.out)
        have hml' : k < (M ++ List.replicate (ps.length - k) R.zero).length := by rw [List.length_append, List.length_replicate, hml.out]; omega
        obtain ⟨x, d0, d1, d2⟩ : ∃ x, RowAt (w2.alloc (.cells #[.int .i64 r.key, .int .i64 r.value, .int .i64 r.width] 34)) w1.heap.size (k * 3) x := ⟨_, rows_cells O3.out k hml'⟩
        have f0 := rows_free O3.out (k * 3)
        have f1 := rows_free O3.out (k * 3 + 1)
        have f2 := rows_free O3.out (k * 3 + 2)
        have HS := Lib.hid (rows_set O3.out k hml' r)
        rw [rows_next M ps.length k r hlt hml.out] at HS
        have hne : g ≠ w1.heap.size := Nat.ne_of_lt hgl
        have SS := Lib.hid (((S3.out.other (i := k * 3) hne (.int .i64 r.key)).other (i := k * 3 + 1) hne (.int .i64 r.value)).other (i := k * 3 + 2) hne (.int .i64 r.width))
        clear hbox hml' hne
        go_wp2_with fail
        go_roundw
        case rel =>
          refine ⟨k + 1, M ++ [r], by go_num, by omega, ?_, HN.out, HS, SS, below_set3 B3.out hle _ _ _ _ _ _⟩
          show _ = _
          rw [List.length_append, hml.out]; rfl
        case measure => simp [intOf]; omega
    · have hkl : k = ps.length := by omega
      have hall : readAll ps = some M := by have := hread.out; rwa [hkl, List.take_length] at this
      have hok : okRows M = true := by
        unfold okRows
        rw [(readAll_ok hall).1, Bool.and_true, decide_eq_true_eq, hml.out]; omega
      have HAN := Lib.hid (HALL.out M hall)
      have hfin : wr.heap[w1.heap.size]? = some (.cells (cells3 M).toArray 34 (0, 0)) := by
        rw [hown.out, hkl, Nat.sub_self]; simp
      have HF := Lib.hid hfin
      have HOK := Lib.hid hok
      have HK := Lib.hid (hml.out.trans hkl)
      clear hkl hall hok hfin
      go_wp2_with fail
      go_ret2
      refine ⟨rowsown_yes (by rw [HAN.out, if_pos HOK.out]) h24 ⟨HK.out, .inr ⟨_, rfl, hle, HF.out⟩⟩, hb.out⟩
theorem iprows (s : ByteArray) (hs : s.size ≤ 4000000000) (w : World) (hm : Mx w) (hL : Tab w ∧ Syn w) : Calls Tryz.prog 52 #[.string s] w fun e w' => RowsOwn w.heap.size s.data.toList e w' ∧ Below w.heap.size w w' := by
  by_cases h : s.data.toList = []
  · exact iprows_none s h w
  · by_cases h24 : (Cut.cut 32 s.data.toList).length ≤ 24
    · exact iprows_some s hs h w hm hL h24
    · exact iprows_long s hs h w hm (by omega)
end Go.Proofs.YtoiobaiiammehaaGreatDoor
/- The reference's AreValidRows and TotalCost, by contract. -/
namespace Go.Proofs.YtoiobaiiammehaaGreatDoor
open Go.RowKit

set_option maxRecDepth 100000 in
theorem sare (a : Option Addr) (len cap : Nat) (L : List R) (w : World) (h : IsRows w a len L) (hlen : len ≤ 9223372036854775807) :
    Calls Tryz.prog 8 #[.slice a len cap] w fun e w' => e = .returned (.bool (okRows L)) ∧ Below w.heap.size w w' := by
  obtain ⟨hl, hwf, hc⟩ := h
  have HL := Lib.hid hl
  have HC := Lib.hid hc
  clear hl hwf hc
  go_enter Tryz.func8, Tryz.ntmps8
  go_wp2_with fail
  go_loopw [3] (fun i wr => ∃ k : Nat, i = .int .i64 k ∧ k ≤ len ∧ Hid (allOk (L.take k) = true) ∧ Hid (Below w.heap.size w wr)) (fun i _ => len - (intOf i).toNat)
  case atStart => exact ⟨0, rfl, Nat.zero_le _, rfl, Below.refl _ _⟩
  case round =>
    obtain ⟨k, rfl, hk, hok, hb⟩ := hrel
    by_cases hlt : k < len
    · obtain ⟨b, o, rfl, hbl, hc⟩ : ∃ b o : Nat, a = some ⟨b, o, none⟩ ∧ b < w.heap.size ∧ ∀ t, t < len → RowAt w b (o + t * 3) (L.getD t R.zero) := by
        rcases HC.out with h0 | h0
        · omega
        · exact h0
      obtain ⟨r, hr⟩ : ∃ r, r = L.getD k R.zero := ⟨_, rfl⟩
      have hat : RowAt wr b (o + k * 3) r := by rw [hr]; exact (hc k hlt).below hb.out hbl
      obtain ⟨c0, c1, c2⟩ := hat
      have HR := Lib.hid hr
      clear hr hc
      go_wp2_with fail
      refine (svalid r _).mono ?_
      rintro e w1 ⟨rfl, b1⟩
      have B1 := Lib.hid (hb.out.trans (b1.mono hb.out.size))
      clear b1
      cases hv : r.ok with
      | true =>
        go_wp2_with fail
        go_roundw
        case rel => exact ⟨k + 1, by go_num, by omega, by show _ = _; rw [allOk_take L k (by rw [HL.out]; exact hlt), hok.out, ← HR.out, hv]; rfl, B1⟩
        case measure => simp [intOf]; omega
      | false =>
        have hno : okRows L = false := by unfold okRows; rw [allOk_bad L k (by rw [HL.out]; exact hlt) (by rw [← HR.out]; exact hv), Bool.and_false]
        go_wp2_with fail
        go_ret
        exact ⟨by rw [hno]; rfl, B1.out⟩
    · have hkl : k = len := by omega
      have hall : okRows L = decide ((len : Int) ≤ 24) := by
        have : allOk L = true := by have := hok.out; rwa [hkl, ← HL.out, List.take_length] at this
        unfold okRows; rw [this, Bool.and_true, HL.out]
        simp; omega
      clear hkl
      have HA := Lib.hid hall
      clear hall
      go_wp2_with fail
      go_ret
      exact ⟨by rw [HA.out]; rfl, hb.out⟩
set_option maxRecDepth 100000 in
theorem stotal (a : Option Addr) (len cap : Nat) (L : List R) (w : World) (h : IsRows w a len L) (hlen : len ≤ 1000000000000) :
    Calls Tryz.prog 29 #[.slice a len cap] w fun e w' => e = .returned (.int .i64 (total L)) ∧ Below w.heap.size w w' := by
  have HW := Lib.hid h.wf
  obtain ⟨hl, -, hc⟩ := h
  have HL := Lib.hid hl
  have HC := Lib.hid hc
  clear hl hc
  go_enter Tryz.func29, Tryz.ntmps29
  go_wp2_with fail
  go_loopw [3, 4] (fun n i wr => ∃ (k : Nat) (v : Int), n = .int .i64 v ∧ i = .int .i64 k ∧ k ≤ len ∧ 0 ≤ v ∧ v ≤ 4 * k ∧ Hid (total (L.take k) = v) ∧ Hid (Below w.heap.size w wr)) (fun _ i _ => len - (intOf i).toNat)
  case atStart => exact ⟨0, 0, rfl, rfl, Nat.zero_le _, by omega, by omega, rfl, Below.refl _ _⟩
  case round =>
    obtain ⟨k, v, rfl, rfl, hk, hv0, hv1, hsum, hb⟩ := hrel
    by_cases hlt : k < len
    · obtain ⟨b, o, rfl, hbl, hc⟩ : ∃ b o : Nat, a = some ⟨b, o, none⟩ ∧ b < w.heap.size ∧ ∀ t, t < len → RowAt w b (o + t * 3) (L.getD t R.zero) := by
        rcases HC.out with h0 | h0
        · omega
        · exact h0
      obtain ⟨r, hr⟩ : ∃ r, r = L.getD k R.zero := ⟨_, rfl⟩
      have hat : RowAt wr b (o + k * 3) r := by rw [hr]; exact (hc k hlt).below hb.out hbl
      have hrw : r.wf := by rw [hr]; exact HW.out k hlt
      obtain ⟨c0, c1, c2⟩ := hat
      have HR := Lib.hid hr
      have HRW := Lib.hid hrw
      clear hr hc hrw
      go_wp2_with fail
      refine (scost r HRW.out _).mono ?_
      rintro e w1 ⟨rfl, b1⟩
      have B1 := Lib.hid (hb.out.trans (b1.mono hb.out.size))
      clear b1
      obtain ⟨x, hx⟩ : ∃ x, x = r.cost := ⟨_, rfl⟩
      have hx0 : 0 ≤ x ∧ x ≤ 4 := by rw [hx]; exact r.cost_range
      obtain ⟨hx0, hx4⟩ := hx0
      have HX := Lib.hid hx
      rw [← hx]
      clear hx
      go_wp2_with fail
      go_roundw
      case rel => exact ⟨k + 1, v + x, by go_num, by go_num, by omega, by omega, by omega, by show _ = _; rw [total_take L k (by rw [HL.out]; exact hlt), hsum.out, ← HR.out, HX.out], B1⟩
      case measure => simp [intOf]; omega
    · have hkl : k = len := by omega
      have hall : total L = v := by have := hsum.out; rwa [hkl, ← HL.out, List.take_length] at this
      clear hkl
      have HA := Lib.hid hall
      clear hall
      go_wp2_with fail
      go_ret
      exact ⟨by rw [HA.out]; rfl, hb.out⟩
end Go.Proofs.YtoiobaiiammehaaGreatDoor
/- The reference's IsValidPage, by contract. -/
namespace Go.Proofs.YtoiobaiiammehaaGreatDoor
open Go.RowKit

set_option maxRecDepth 100000 in
theorem svalidpage (a : Option Addr) (n c : Nat) (p : List R) (w : World) (h : SeqIn rowRep w a n p) (hn : n ≤ 1000000000000) :
    Calls Tryz.prog 10 #[.agg #[.slice a n c]] w fun e w' => e = .returned (.bool (R.pageOk p)) ∧ Below w.heap.size w w' := by
  have b0 : Below w.heap.size w (w.alloc (.cells #[.slice a n c] 31)) := (Below.refl _ _).alloc (Nat.le_refl _) _
  have R0 := Lib.hid (rows_in (h.keep b0))
  have C0 := heap_alloc_new w (.cells #[.slice a n c] 31)
  have HC := Lib.hid C0
  have B0 := Lib.hid b0
  have hsz : w.heap.size < (w.alloc (.cells #[.slice a n c] 31)).heap.size := by simp
  have HV := Lib.hid (show R.pageOk p = (okRows p && decide (1 ≤ total p ∧ total p ≤ 8)) from rfl)
  have HR := Lib.hid (total_range p)
  clear b0 h C0
  go_enter Tryz.func10, Tryz.ntmps10
  go_wp2_with fail
  refine (sare a n c p _ R0.out (by omega)).mono ?_
  rintro e w1 ⟨rfl, b1⟩
  have q1 := (b1.block _ hsz).trans HC.out
  have d1 : w1.cell? ⟨w.heap.size, 0, none⟩ = some (.slice a n c) := by simp [World.cell?, q1]
  have R1 := Lib.hid (R0.out.keep b1)
  have B1 := Lib.hid (B0.out.trans (b1.mono B0.out.size))
  clear b1 q1
  cases hok : okRows p with
  | false =>
    have HF := Lib.hid (show R.pageOk p = false by rw [HV.out, hok]; rfl)
    clear hok
    go_wp2_with fail
    go_ret
    exact ⟨by rw [HF.out]; rfl, B1.out⟩
  | true =>
    have HF := Lib.hid (show R.pageOk p = decide (1 ≤ total p ∧ total p ≤ 8) by rw [HV.out, hok]; rfl)
    clear hok
    go_wp2_with fail
    refine (stotal a n c p _ R1.out (by omega)).mono ?_
    rintro e w2 ⟨rfl, b2⟩
    have B2 := Lib.hid (B1.out.trans (b2.mono B1.out.size))
    clear b2
    obtain ⟨T, hT⟩ : ∃ T, T = total p := ⟨_, rfl⟩
    rw [← hT] at HF ⊢
    clear hT
    go_wp2_with fail
    refine (sin T 1 8 _).mono ?_
    rintro e w3 ⟨rfl, rfl⟩
    obtain ⟨z, hz⟩ : ∃ z, z = decide (1 ≤ T ∧ T ≤ 8) := ⟨_, rfl⟩
    rw [← hz] at HF ⊢
    clear hz
    go_wp2_with fail
    go_ret
    exact ⟨by rw [HF.out]; rfl, B2.out⟩
end Go.Proofs.YtoiobaiiammehaaGreatDoor
