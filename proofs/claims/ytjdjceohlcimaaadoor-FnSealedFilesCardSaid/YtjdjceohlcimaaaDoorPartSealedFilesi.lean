/- Texts joined: Strs FmtRowi Build FmtPagei FitsFmt SealI VOp VOpPage VOpFile VOpDisk SealW DiskG OverS PackT VDc. -/
import Derived.Test.YtjdjceohlcimaaaDoorPartSealedFilesh
import Derived.Lib.SmallJoins
import Derived.Deep.OwnRows
import Derived.Test.YtjdjceohlcimaaaDoorShelfB
import Derived.Shelf.Strings.Builder2
/- Rows of strings that a call made itself: what one append adds, and what lies there; no function of the program. -/
namespace Go.Proofs.YtjdjceohlcimaaaDoor
open Go.RowKit
def strs (l : List (List UInt8)) : List Value := l.map fun p => Value.string ⟨p.toArray⟩
theorem strs_get (l : List (List UInt8)) (j : Nat) (hj : j < l.length) : (strs l)[j]? = some (Value.string ⟨l[j].toArray⟩) := by simp [strs, hj]
theorem str_info : (Tryd.prog.info? 9).map (fun i => (i.zero, i.size, i.bytes)) = some (some (.string ByteArray.empty), 1, 16) := by kernel_rfl
theorem piece (s : ByteArray) (a b : Nat) : s.extract a b = ⟨((s.data.toList.take b).drop a).toArray⟩ := by
  apply ByteArray.ext
  apply Array.toList_inj.1
  simp [List.drop_take]
def IsStrs (w : World) (g : Nat) (l : List (List UInt8)) : Prop := (∃ cs fz, w.heap[g]? = some (.cells cs 9 fz)) ∧ ∀ t (h : t < l.length), w.cell? ⟨g, t, none⟩ = some (.string ⟨l[t].toArray⟩)
theorem IsStrs.lt {w : World} {g : Nat} {l : List (List UInt8)} (h : IsStrs w g l) : g < w.heap.size := by
  obtain ⟨⟨cs, fz, h⟩, -⟩ := h
  exact lt_of_block h
theorem IsStrs.same {w w' : World} {g : Nat} {l : List (List UInt8)} (h : IsStrs w g l) (hb : w'.heap[g]? = w.heap[g]?) : IsStrs w' g l :=
  ⟨by obtain ⟨⟨cs, fz, h⟩, -⟩ := h; exact ⟨cs, fz, hb.trans h⟩, fun t ht => (World.cell?_of_block hb).trans (h.2 t ht)⟩
theorem IsStrs.below {w w' : World} {g B : Nat} {l : List (List UInt8)} (h : IsStrs w g l) (hb : Below B w w') (hg : g < B) : IsStrs w' g l := h.same (hb.block g hg)
theorem IsStrs.keep {w w' : World} {g : Nat} {l : List (List UInt8)} (h : IsStrs w g l) (hb : Below w.heap.size w w') : IsStrs w' g l := h.below hb h.lt
theorem IsStrs.other {w : World} {g g' i : Nat} {l : List (List UInt8)} (h : IsStrs w g l) (hne : g ≠ g') (u : Value) : IsStrs (w.setCell ⟨g', i, none⟩ u) g l := h.same (Below.heap_setCell _ _ _ _ (fun e => hne e))
theorem run_make_strs (n : Nat) (hn : n ≤ 1000000000000) (w : World) :
    (Instr.makeSlice 96 (.int .i64 (n : Int)) (.int .i64 (n : Int))).run Tryd.prog w = .ok (.slice (some ⟨w.heap.size, 0, none⟩) n n) (w.alloc (.cells (strs (List.replicate n [])).toArray 9)) := by
  have h := run_make_row' (P := Tryd.prog) 96 9 (.string ByteArray.empty) 16 Tryd.underlying96 str_info rfl .i64 .i64 n (by omega) (by omega) w
  rw [h]
  have e : madeCells #[Value.string ByteArray.empty] n = (strs (List.replicate n [])).toArray := by
    apply Array.toList_inj.1
    rw [toList_madeCells_one]
    simp only [strs, List.map_replicate]
    rfl
  rw [e]
theorem strs_block {w : World} {g : Nat} {M : List (List UInt8)} {t : TypeId} (h : w.heap[g]? = some (.cells (strs M).toArray t (0, 0))) (k : Nat) (hk : k < M.length) : w.cell? ⟨g, k, none⟩ = some (.string ⟨M[k].toArray⟩) ∧ w.frozen? ⟨g, k, none⟩ = false := by
  refine ⟨?_, by simp [World.frozen?, h]⟩
  simp only [World.cell?, h]
  rw [List.getElem?_toArray]
  exact strs_get M k hk
theorem strs_set {w : World} {g : Nat} {M : List (List UInt8)} {t : TypeId} (h : w.heap[g]? = some (.cells (strs M).toArray t (0, 0))) (k : Nat) (x : List UInt8) : (w.setCell ⟨g, k, none⟩ (.string ⟨x.toArray⟩)).heap[g]? = some (.cells (strs (M.set k x)).toArray t (0, 0)) := by
  rw [Joins.block_setCell h (i := k)]
  congr 2
  simp [strs, List.map_set]
theorem set_next' {α : Type} (F : List α) (z : α) (n k : Nat) (x : α) (hk : k < n) (hF : F.length = k) : (F ++ List.replicate (n - k) z).set k x = (F ++ [x]) ++ List.replicate (n - (k + 1)) z := by
  have e : n - k = (n - (k + 1)) + 1 := by omega
  rw [List.set_append_right _ _ (by omega), hF, Nat.sub_self, e, List.replicate_succ, List.set_cons_zero, List.append_assoc]
  rfl
end Go.Proofs.YtjdjceohlcimaaaDoor
/- The program's FormatRows, by contract. -/
namespace Go.Proofs.YtjdjceohlcimaaaDoor
open Go.RowKit Go.Lib
theorem join_rows {w : World} {g len : Nat} {L : List R} {t : TypeId} (h : w.heap[g]? = some (.cells (strs (L.map R.fmt)).toArray t (0, 0))) (hl : L.length = len) (h24 : L.length ≤ 24) :
    Calls Tryd.prog 76 #[.slice (some ⟨g, 0, none⟩) len len, .string ⟨#[32]⟩] w fun e w' => e = .returned (.string ⟨(join (L.map R.fmt) [32]).toArray⟩) ∧ Below w.heap.size w w' := by
  have hx : ((L.map R.fmt).map fun p => (⟨p.toArray⟩ : ByteArray)).length = len := by simp [hl]
  have hd : ((L.map R.fmt).map fun p => (⟨p.toArray⟩ : ByteArray)).map (·.data.toList) = L.map R.fmt := by simp
  have hj := join_fmt_length L
  have hc := Tryd.strings_Join g 0 len ((L.map R.fmt).map fun p => ⟨p.toArray⟩) ⟨#[32]⟩ w (fun j x hx => by
    rw [Nat.zero_add]
    rw [List.getElem?_map] at hx
    obtain ⟨y, hy, rfl⟩ := Option.map_eq_some_iff.1 hx
    obtain ⟨hjl, rfl⟩ := List.getElem?_eq_some_iff.1 hy
    exact (strs_block h j hjl).1) (lt_of_block h) (by rw [hx]; omega) (by rw [hx]; exact Nat.le_refl _) (by rw [hd]; show (join (L.map R.fmt) [32]).length ≤ _; omega)
  rw [hx, hd] at hc
  exact hc
set_option maxRecDepth 100000 in
theorem ifrows (a : Option Addr) (len cap : Nat) (L : List R) (w : World) (h : IsRows w a len L) (hlen : len ≤ 1000000000000) (ht : Tab w) :
    Calls Tryd.prog 71 #[.slice a len cap] w fun e w' => e = .returned (.string ⟨(fmtRows L).toArray⟩) ∧ Below w.heap.size w w' := by
  have HI := Lib.hid h
  obtain ⟨hl, hwf, hc⟩ := h
  have HL := Lib.hid hl
  have HC := Lib.hid hc
  have HT := Lib.hid ht
  clear hl hwf hc ht
  have hmk := run_make_strs len hlen
  go_enter Tryd.func71, Tryd.ntmps71
  go_wp2_with fail
  refine (iare _ len cap L _ HI.out (by omega)).mono ?_
  rintro e w0 ⟨rfl, b0⟩
  have B0 := Lib.hid b0
  have T0 := Lib.hid (HT.out.stay b0)
  clear b0
  cases hok : okRows L with
  | false =>
    have HF : Hid (fmtRows L = []) := by show _ = _; unfold fmtRows; rw [hok]; rfl
    clear hok hmk
    go_wp2_with fail
    go_ret
    exact ⟨by rw [HF.out]; rfl, B0.out⟩
  | true =>
    have HF : Hid (fmtRows L = join (L.map R.fmt) [32]) := by show _ = _; unfold fmtRows; rw [if_pos hok]
    have h24 := okRows_length hok
    have hl24 : len ≤ 24 := by rw [← HL.out]; exact h24
    clear hok h24
    have hbw : Below w0.heap.size w0 (w0.alloc (.cells (strs (List.replicate len [])).toArray 9)) := (Below.refl _ _).alloc (Nat.le_refl _) _
    have hgw : (w0.alloc (.cells (strs (List.replicate len [])).toArray 9)).heap[w0.heap.size]? = some (.cells (strs (List.replicate len [])).toArray 9 (0, 0)) := heap_alloc_new w0 _
    have BA := Lib.hid (B0.out.trans (hbw.mono B0.out.size))
    have GA := Lib.hid hgw
    have hle := B0.out.size
    clear hbw hgw
    go_wp2_with fail
    clear hmk
    go_loopw [14] (fun i wr => ∃ k : Nat, i = .int .i64 k ∧ k ≤ len ∧ Hid (wr.heap[w0.heap.size]? = some (.cells (strs ((L.take k).map R.fmt ++ List.replicate (len - k) [])).toArray 9 (0, 0))) ∧ Hid (Below w.heap.size w wr)) (fun i _ => len - (RowKit.intOf i).toNat)
    case atStart => exact ⟨0, rfl, Nat.zero_le _, GA, BA⟩
    case round =>
      obtain ⟨k, rfl, hk, hg, hb⟩ := hrel
      have htab := Lib.hid (HT.out.stay hb.out)
      by_cases hlt : k < len
      · obtain ⟨b, o, rfl, hbl, hc⟩ : ∃ b o : Nat, a = some ⟨b, o, none⟩ ∧ b < w.heap.size ∧ ∀ t, t < len → RowAt w b (o + t * 3) (L.getD t R.zero) := by
          rcases HC.out with h0 | h0
          · omega
          · exact h0
        obtain ⟨r, hr⟩ : ∃ r, r = L.getD k R.zero := ⟨_, rfl⟩
        have hat : RowAt wr b (o + k * 3) r := by rw [hr]; exact (hc k hlt).below hb.out hbl
        obtain ⟨c0, c1, c2⟩ := hat
        have HR := Lib.hid hr
        clear hr hc
        have hba : Below wr.heap.size wr (wr.alloc (.cells #[.int .i64 r.key, .int .i64 r.value, .int .i64 r.width] 62)) := (Below.refl _ _).alloc (Nat.le_refl _) _
        have T1 := Lib.hid (htab.out.stay hba)
        clear hba
        go_wp2_with fail
        refine (ifrow r _ T1.out).mono ?_
        rintro e w1 ⟨rfl, b1⟩
        have hgl : w0.heap.size < wr.heap.size := lt_of_block hg.out
        have b2 := (box_row (r := r) b1).2
        have hg1 : w1.heap[w0.heap.size]? = some (.cells (strs ((L.take k).map R.fmt ++ List.replicate (len - k) [])).toArray 9 (0, 0)) := (b2.block _ hgl).trans hg.out
        have HG1 := Lib.hid hg1
        have B1 := Lib.hid (hb.out.trans (b2.mono hb.out.size))
        obtain ⟨d0, f0⟩ := strs_block hg1 k (by simp [HL.out]; omega)
        clear hg1 b1 b2 hgl
        go_wp2_with fail
        go_roundw
        case rel =>
          refine ⟨k + 1, by go_num, by omega, ?_, B1.out.setCell (p := ⟨w0.heap.size, k, none⟩) hle _⟩
          show _ = _
          rw [strs_set HG1.out k, set_next' ((L.take k).map R.fmt) [] len k r.fmt hlt (by simp [HL.out]; omega)]
          have hkl : k < L.length := by rw [HL.out]; exact hlt
          have e3 : r = L[k] := by rw [HR.out]; simp [List.getD, hkl]
          rw [List.take_succ_eq_append_getElem hkl, List.map_append, List.map_cons, List.map_nil, ← e3]
        case measure => simp [RowKit.intOf]; omega
      · have hkl : k = len := by omega
        have hfin : wr.heap[w0.heap.size]? = some (.cells (strs (L.map R.fmt)).toArray 9 (0, 0)) := by
          rw [hg.out, hkl, ← HL.out, List.take_length, Nat.sub_self]; simp
        have HJ := Lib.hid (join_rows hfin HL.out (by rw [HL.out]; exact hl24))
        clear hfin hkl
        go_wp2_with fail
        refine HJ.out.mono ?_
        rintro e w1 ⟨rfl, b1⟩
        go_wp2_with fail
        go_ret
        exact ⟨by rw [HF.out]; rfl, hb.out.trans (b1.mono hb.out.size)⟩
end Go.Proofs.YtjdjceohlcimaaaDoor
/- strings.Builder over the program: copyCheck and WriteString walked here (their text in this program is not the library's laid one to the sign), String by the library's contract. -/
namespace Go.Proofs.YtjdjceohlcimaaaDoor
open Go Go.RowKit Go.Shelf
abbrev IsB (B b : Nat) (bs : List Value) (w : World) : Prop := Lib.IsBuilder 88 5 B b bs w
theorem owns_keep {w w' : World} {B : Nat} {e : TypeId} {k n : Nat} {v : Value} {xs : List Value} (h : w.ownsRow B e k v n xs) (hb : Below w.heap.size w w') : w'.ownsRow B e k v n xs := by
  obtain ⟨h1, h0 | ⟨g, cap, cur, hv, hB, hh, h2⟩⟩ := h
  · exact ⟨h1, .inl h0⟩
  · exact ⟨h1, .inr ⟨g, cap, cur, hv, hB, (hb.block g (lt_of_block hh)).trans hh, h2⟩⟩
theorem isb_keep {B b : Nat} {bs : List Value} {w w' : World} (h : IsB B b bs w) (hb : Below w.heap.size w w') : IsB B b bs w' := by
  have key : ∀ p, Lib.BuilderAt 88 5 B b p bs w → Lib.BuilderAt 88 5 B b p bs w' := by
    rintro p ⟨hB, v, hh, hown, hne⟩
    exact ⟨hB, v, (hb.block b (lt_of_block hh)).trans hh, owns_keep hown hb, hne⟩
  exact h.imp (key _) (key _)
theorem isb_new (w : World) : IsB w.heap.size w.heap.size [] (w.alloc (.cells #[.pointer none, .slice none 0 0] 88)) :=
  .inl ⟨Nat.le_refl _, _, heap_alloc_new w _, ⟨rfl, .inl ⟨rfl, rfl⟩⟩, by simp [Value.ownBlock]⟩
theorem bInfo : (Tryd.prog.info? 88).map (·.size) = some 2 := by kernel_rfl
theorem bLies : liesAt Tryd.prog Tryd.prog.depth 88 (2 / Tryd.prog.cellsOf 88) 0 88 1 = true := by kernel_rfl
theorem byteInfo : (Tryd.prog.info? 5).map (fun i => (i.zero, i.size, i.bytes)) = some (some (.int .u8 0), 1, 1) := by kernel_rfl
set_option maxRecDepth 100000 in
theorem copycheck_used (b : Nat) (w : World) (h0 : w.cell? ⟨b, 0, none⟩ = some (.pointer (some ⟨b, 0, none⟩))) :
    Calls Tryd.prog 74 #[.pointer (some ⟨b, 0, none⟩)] w fun e w' => e = .returned (.tuple #[]) ∧ w' = w := by
  obtain ⟨j, hj, _⟩ := Option.map_eq_some_iff.1 bInfo
  go_enter Tryd.func74, Tryd.ntmps74
  go_wp2
  rw [Lib.run_neq_ptr_same w _ Tryd.underlying86 hj]
  go_wp2
  go_end0
  exact ⟨rfl, rfl⟩
set_option maxRecDepth 100000 in
theorem copycheck_fresh (b : Nat) (w : World) (h0 : w.cell? ⟨b, 0, none⟩ = some (.pointer none)) (hsh : w.shape? b = some (88, 2)) (hfz : w.frozen? ⟨b, 0, none⟩ = false) :
    Calls Tryd.prog 74 #[.pointer (some ⟨b, 0, none⟩)] w fun e w' => e = .returned (.tuple #[]) ∧ w' = w.setCell ⟨b, 0, none⟩ (.pointer (some ⟨b, 0, none⟩)) := by
  obtain ⟨j, hj, hjs⟩ := Option.map_eq_some_iff.1 bInfo
  go_enter Tryd.func74, Tryd.ntmps74
  go_wp2
  rw [Lib.run_to_unsafe w ⟨b, 0, none⟩ Tryd.underlying86 Tryd.underlying100 hj (by rw [hjs]; decide) hsh (Nat.zero_lt_succ 1)]
  simp only [Result.andThen]
  rw [Oper.upon_value]
  go_wp2
  rw [run_callFunc_extern Tryd.func78 (by kernel_rfl) (by kernel_rfl) (by kernel_rfl) (e := Extern.AbiNoEscape.same) (by kernel_rfl)]
  rw [Lib.run_noEscape]
  simp only [Result.andThen]
  rw [Oper.upon_value]
  go_wp2
  rw [Lib.run_from_unsafe w ⟨b, 0, none⟩ Tryd.underlying100 Tryd.underlying86 hj hsh bLies]
  simp only [Result.andThen]
  rw [Oper.upon_value]
  go_wp2
  go_end0
  exact ⟨rfl, rfl⟩
theorem copycheck (B b : Nat) (bs : List Value) (w : World) (h : IsB B b bs w) :
    Calls Tryd.prog 74 #[.pointer (some ⟨b, 0, none⟩)] w fun e w' => e = .returned (.tuple #[]) ∧ (Lib.BuilderAt 88 5 B b (.pointer (some ⟨b, 0, none⟩)) bs w' ∧ Below B w w') := by
  rcases h with h | h
  · refine (copycheck_fresh b w h.cell0 h.shape h.frozen0).mono ?_
    rintro e w' ⟨rfl, rfl⟩
    exact ⟨rfl, h.used _, (Below.refl B w).setCell (p := ⟨b, 0, none⟩) h.1 _⟩
  · refine (copycheck_used b w h.cell0).mono ?_
    rintro e w' ⟨rfl, rfl⟩
    exact ⟨rfl, h, Below.refl B _⟩
set_option maxRecDepth 100000 in
theorem writestr (B b : Nat) (bs : List Value) (s : ByteArray) (w : World) (h : IsB B b bs w) (hlen : bs.length + s.size ≤ 140737488355328) (hBw : B ≤ w.heap.size) :
    Calls Tryd.prog 70 #[.pointer (some ⟨b, 0, none⟩), .string s] w fun e w' => e = .returned (.tuple #[.int .i64 s.size, .nilIface]) ∧ (IsB B b (bs ++ Lib.strCells s) w' ∧ Below B w w') := by
  obtain ⟨i0, hi, hz0, hz1, hz2⟩ := info_parts byteInfo
  go_enter Tryd.func70, Tryd.ntmps70
  go_wp2_with fail
  refine (copycheck B b bs _ h).mono ?_
  rintro e w1 ⟨rfl, h1, hb1⟩
  obtain ⟨hB, v, hbk, hown, hne⟩ := h1
  have c0 : w1.cell? ⟨b, 0, none⟩ = some (.pointer (some ⟨b, 0, none⟩)) := by rw [Lib.cell_of_heap hbk]; rfl
  have c1 : w1.cell? ⟨b, 1, none⟩ = some v := by rw [Lib.cell_of_heap hbk]; rfl
  go_wp2_with (at_builtin; refine Lib.wpList_append_own_string _ rfl _ _ 22 9 rfl B 5 i0 Tryd.underlying22 Tryd.underlying9 hi hz0 hz1 hz2 _ _ _ rfl hown s rfl ?c3 ?c4 ?c5 ?_)
  case c3 => unfold maxLen; omega
  case c4 => omega
  case c5 => have := hb1.size; omega
  intro v' w2 hown' hgrow _
  have hlt : b < w1.heap.size := lt_of_block hbk
  have hb2 : w2.heap[b]? = some (.cells #[.pointer (some ⟨b, 0, none⟩), v] 88 (0, 0)) := by
    rw [hgrow.block b hlt (fun e => hne e.symm)]
    exact hbk
  have d0 : w2.cell? ⟨b, 0, none⟩ = some (.pointer (some ⟨b, 0, none⟩)) := by rw [Lib.cell_of_heap hb2]; rfl
  have d1 : w2.cell? ⟨b, 1, none⟩ = some v := by rw [Lib.cell_of_heap hb2]; rfl
  have f1 : w2.frozen? ⟨b, 1, none⟩ = false := Lib.frozen_of_heap hb2 1
  obtain ⟨ao, n', cap, rfl⟩ : ∃ ao n' cap, v' = .slice ao n' cap := by
    rcases hown'.2 with ⟨hv, _⟩ | ⟨g, cap, cur, hv, _⟩
    · exact ⟨_, _, _, hv⟩
    · exact ⟨_, _, _, hv⟩
  go_wp2
  go_ret2
  refine ⟨rfl, .inr ?_, ?_⟩
  · exact Lib.BuilderAt.put hB hb2 (bs' := bs ++ Lib.strCells s) (by simpa [Lib.strCells_length] using hown') (by decide)
  · exact (hb1.grown hgrow (by have := hb1.size; omega) (fun k hk => (hown.lt k hk).1)).setCell (p := ⟨b, 1, none⟩) hB _
theorem strcells (l : List UInt8) : Lib.strCells ⟨l.toArray⟩ = Lib.byteCells l := by
  first | rfl | simp [Lib.strCells, Lib.byteCells]
theorem buildstr (B b : Nat) (l : List UInt8) (w : World) (h : IsB B b (Lib.byteCells l) w) (hB : B ≤ w.heap.size) :
    Calls Tryd.prog 72 #[.pointer (some ⟨b, 0, none⟩)] w fun e w' => e = .returned (.string ⟨l.toArray⟩) ∧ Below B w w' := Tryd.Builder_String_any B b l w h hB
end Go.Proofs.YtjdjceohlcimaaaDoor
/- The program's FormatPages, by contract. -/
namespace Go.Proofs.YtjdjceohlcimaaaDoor
open Go.RowKit Go.Lib
theorem txt_page (b : List UInt8) : ((⟨#[91]⟩ : ByteArray) ++ ⟨b.toArray⟩) ++ ⟨#[93]⟩ = ⟨(91 :: (b ++ [93])).toArray⟩ := by
  have e : (⟨#[91]⟩ : ByteArray) = ⟨[91].toArray⟩ := rfl
  have e2 : (⟨#[93]⟩ : ByteArray) = ⟨[93].toArray⟩ := rfl
  rw [e, e2, ByteArray.mk_append_mk, ByteArray.mk_append_mk]
  congr 1
theorem txt_len (P : List (List R)) : (P.flatMap R.pageTxt).length ≤ 218 * P.length := by
  induction P with
  | nil => simp
  | cons p P ih =>
    have h1 := fmtRows_length p
    rw [List.flatMap_cons, List.length_append, List.length_cons]
    have : (R.pageTxt p).length = (fmtRows p).length + 2 := by simp [R.pageTxt]
    omega
theorem txt_step (P : List (List R)) (t : Nat) (ht : t < P.length) : (P.take (t + 1)).flatMap R.pageTxt = (P.take t).flatMap R.pageTxt ++ (91 :: (fmtRows P[t] ++ [93])) := by
  rw [List.take_succ_eq_append_getElem ht, List.flatMap_append, List.flatMap_singleton]
  rfl
theorem bytecells_app (a b : List UInt8) : Lib.byteCells a ++ Lib.byteCells b = Lib.byteCells (a ++ b) := by simp [Lib.byteCells]
set_option maxRecDepth 100000 in
theorem ifpages (a : Option Addr) (n c : Nat) (P : List (List R)) (w : World) (h : SeqIn pageRep w a n P) (hn : n ≤ 1000000000) (hf : P.flatten.length ≤ 1000000000000) (ht : Tab w) :
    Calls Tryd.prog 59 #[.slice a n c] w fun e w' => e = .returned (.string ⟨(R.fmtPages P).toArray⟩) ∧ Below w.heap.size w w' := by
  have HL := Lib.hid h.1
  have HI := Lib.hid h
  have HT := Lib.hid ht
  obtain ⟨N, hN⟩ : ∃ N, N = P.flatten.length := ⟨_, rfl⟩
  rw [← hN] at hf
  have HN := Lib.hid hN
  have S0 := Lib.hid (isb_new w)
  have B0 := Lib.hid ((Below.refl w.heap.size w).alloc (Nat.le_refl _) (.cells #[.pointer none, .slice none 0 0] 88))
  clear h hN ht
  go_enter Tryd.func59, Tryd.ntmps59
  go_wp2_with fail
  go_loopw [8] (fun i wr => ∃ t : Nat, i = .int .i64 t ∧ t ≤ n ∧ Hid (R.allPages (P.take t) = true) ∧ Hid (IsB w.heap.size w.heap.size (Lib.byteCells ((P.take t).flatMap R.pageTxt)) wr) ∧ Hid (Below w.heap.size w wr)) (fun i _ => n - (RowKit.intOf i).toNat)
  case atStart => exact ⟨0, rfl, Nat.zero_le _, (show R.allPages (P.take 0) = true by simp [R.allPages]), S0, B0⟩
  case round =>
    obtain ⟨t, rfl, ht, hok, hS, hb⟩ := hrel
    have hsz : w.heap.size ≤ wr.heap.size := hb.out.size
    by_cases hlt : t < n
    · have htl : t < P.length := by have := HL.out; omega
      have hp : P[t]? = some P[t] := by simp [htl]
      obtain ⟨b, o, d, k, m, rfl, hbl, hcell, hin, -⟩ := (HI.out.keep hb.out).at hp
      have hkn : k ≤ 1000000000000 := by
        have h1 := flat_mem P t htl
        rw [hin.1, ← HN.out] at h1
        omega
      have hxl : ((P.take t).flatMap R.pageTxt).length ≤ 218000000000 := by
        have h2 := txt_len (P.take t)
        rw [List.length_take] at h2
        omega
      have HXL := Lib.hid hxl
      have HNX := Lib.hid (txt_step P t htl)
      have HTK := Lib.hid (R.allPages_take htl)
      have HBAD := Lib.hid (R.allPages_bad t htl)
      obtain ⟨p, hpp⟩ : ∃ p, p = P[t] := ⟨_, rfl⟩
      rw [← hpp] at hin HNX HTK HBAD
      have bx := (Below.refl wr.heap.size wr).alloc (Nat.le_refl _) (.cells #[.slice d k m] 41)
      have IX := Lib.hid (hin.keep bx)
      have SX := Lib.hid (isb_keep hS.out bx)
      have BX := Lib.hid (hb.out.trans (bx.mono hsz))
      have CX := Lib.hid (heap_alloc_new wr (.cells #[.slice d k m] 41))
      have hlx : wr.heap.size < (wr.alloc (.cells #[.slice d k m] 41)).heap.size := by simp
      clear hin hp hpp bx hxl
      go_wp2_with fail
      refine (ivalidpage d k m p _ IX.out hkn).mono ?_
      rintro e w1 ⟨rfl, b1⟩
      have B1 := Lib.hid (BX.out.trans (b1.mono BX.out.size))
      have I1 := Lib.hid (IX.out.keep b1)
      have S1 := Lib.hid (isb_keep SX.out b1)
      have q1 := (b1.block _ hlx).trans CX.out
      have c1 : w1.cell? ⟨wr.heap.size, 0, none⟩ = some (.slice d k m) := by simp [World.cell?, q1]
      clear b1 q1
      cases hv : R.pageOk p with
      | false =>
        have HF := Lib.hid (show R.fmtPages P = [] by unfold R.fmtPages; rw [HBAD.out hv]; rfl)
        clear hv
        go_wp2_with fail
        go_ret
        exact ⟨by rw [HF.out]; rfl, B1.out⟩
      | true =>
        have HV := Lib.hid hv
        clear hv
        go_wp2_with fail
        refine (ifrows d k m p _ (rows_in I1.out) hkn (HT.out.stay B1.out)).mono ?_
        rintro e w2 ⟨rfl, b2⟩
        have B2 := Lib.hid (B1.out.trans (b2.mono B1.out.size))
        have S2 := Lib.hid (isb_keep S1.out b2)
        have hpl := fmtRows_length p
        obtain ⟨z, hz⟩ : ∃ z, z = fmtRows p := ⟨_, rfl⟩
        rw [← hz] at HNX hpl ⊢
        clear b2 hz
        have n1 : ¬ 9223372036854775807 < 1 + z.length := by omega
        have n2 : ¬ 9223372036854775807 < 1 + z.length + 1 := by omega
        go_wp2_with fail
        rw [txt_page]
        have hsl : (⟨(91 :: (z ++ [93])).toArray⟩ : ByteArray).size = z.length + 2 := by simp [ByteArray.size]
        refine (writestr w.heap.size w.heap.size _ ⟨(91 :: (z ++ [93])).toArray⟩ w2 S2.out (by rw [hsl, Lib.byteCells_length]; have := HXL.out; omega) B2.out.size).mono ?_
        rintro e w3 ⟨rfl, hS3, b3⟩
        rw [strcells, bytecells_app, ← HNX.out] at hS3
        have S3 := Lib.hid hS3
        have B3 := Lib.hid (B2.out.trans b3)
        clear hS3 b3 hsl
        go_wp2_with fail
        go_roundw
        case rel => exact ⟨t + 1, by go_num, by omega, (by show _ = _; rw [HTK.out, hok.out, HV.out]; rfl), S3, B3⟩
        case measure => simp [RowKit.intOf]; omega
    · have hkl : t = n := by omega
      have htk : P.take t = P := by rw [hkl, List.take_of_length_le (by have := HL.out; omega)]
      rw [htk] at hok hS
      have HF := Lib.hid (show R.fmtPages P = P.flatMap R.pageTxt by unfold R.fmtPages; rw [if_pos hok.out])
      clear hkl htk
      go_wp2_with fail
      refine (buildstr w.heap.size w.heap.size _ wr hS.out hsz).mono ?_
      rintro e w1 ⟨rfl, b1⟩
      have B1 := Lib.hid (hb.out.trans b1)
      clear b1
      go_wp2_with fail
      go_ret
      exact ⟨by rw [HF.out]; rfl, B1.out⟩
end Go.Proofs.YtjdjceohlcimaaaDoor
/- The program's FormatPages told by trees. -/
namespace Go.Proofs.YtjdjceohlcimaaaDoor
open Go Go.RowKit V
set_option linter.unusedVariables false
theorem vfpages_i (P : List (List R)) (hP : ∀ p ∈ P, goodPage p) (hn : P.length ≤ 1000000000) (hf : P.flatten.length ≤ 1000000000000) : VCD Tryd.prog 59 [(false, [.seq 41 (P.map tPage)])] false [(false, [.lit (.string ⟨(R.fmtPages P).toArray⟩)])] := fun w hT =>
  VC.shape1At (Fits.slice 41 fitsPage) hP (ag := false) rfl fun k h => by
    have e : k.2.1 = P.length := h.1.1.symm
    exact ifpages k.1 k.2.1 k.2.2 P w h.1 (by omega) hf hT
end Go.Proofs.YtjdjceohlcimaaaDoor
/- The program's SealFile: told by trees. -/
namespace Go.Proofs.YtjdjceohlcimaaaDoor
open Go Go.RowKit V
set_option linter.unusedVariables false
theorem vck_i (l : List UInt8) (hl : l.length ≤ 1000000000000) : VC Tryd.prog 58 [(false, [.lit (.string ⟨l.toArray⟩)])] false [(false, [.lit (.int .i64 ((ck l : Nat) : Int))])] :=
  VC.plain (ins := [(false, [.string ⟨l.toArray⟩])]) (ag := false) (rs := [.int .i64 ((ck l : Nat) : Int)]) (fun u hu => by rw [List.mem_singleton.1 hu]; rfl) (fun w => (icheck ⟨l.toArray⟩ w (by show l.toArray.size ≤ _; simpa using hl)).mono fun e w' ⟨he, hw⟩ => ⟨he, hw ▸ Below.refl _ _⟩)
set_option maxRecDepth 100000 in
set_option maxHeartbeats 2000000 in
theorem vcksp_i (P : List (List R)) (hP : ∀ p ∈ P, goodPage p) (hn : P.length ≤ 1000000000) (hw : wtPages P ≤ 1000000000) (hK : (R.fmtPages P).length ≤ 1000000000000) : VCD Tryd.prog 39 [(false, [.seq 41 (P.map tPage)])] false [(false, [.lit (.int .i64 ((ck (R.fmtPages P) : Nat) : Int))])] := by
  refine VCD.enter Tryd.func39 rfl Tryd.ntmps39 (gle rfl) fun E hE hD => ?_
  refine SV.seq' ?_
  refine SV.region ?_
  refine SV.op (OpL.ok (nb := 0) (ok_move (v := V.one (.sc _)) (.inr rfl) rfl) rfl (gle rfl)) rfl ?_
  refine SV.nil ?_
  refine SV.tn ?_
  refine SV.seq' ?_
  refine SV.region ?_
  refine SV.op (OpL.ok (nb := 0) (ok_move (v := V.one (.ro _)) (.inl rfl) rfl) rfl (gle rfl)) rfl ?_
  refine SV.op (OpMk.ok (ok_callD (ls := [(false, [.sc _])]) hD rfl rfl ⟨_, _, Tryd.func59, rfl, by decide⟩ (vfpages_i P hP hn (by have := flat_wt P; omega)) ⟨⟨[.ro _], rfl, ⟨rfl, trivial⟩⟩, trivial⟩ rfl (gle rfl))) rfl ?_
  refine SV.op (OpMk.ok (ok_call (ls := [(false, [.sc _])]) rfl rfl ⟨_, _, Tryd.func58, rfl, by decide⟩ (vck_i (R.fmtPages P) hK) ⟨⟨[.sc _], rfl, ⟨rfl, trivial⟩⟩, trivial⟩ rfl (gle rfl))) rfl ?_
  refine SV.op (OpL.ok (nb := 0) (ok_move (v := V.one (.sc _)) (.inr rfl) rfl) rfl (gle rfl)) rfl ?_
  refine SV.nil ?_
  refine SV.tn ?_
  refine SV.ret ?_
  apply SV.done (hf := Tryd.results39) (ht := rfl) (he := .inl rfl)
  case hr => exact (ResAll.cons (ResOk.tmp (ag := false) (xs := [.sc _]) rfl) ResAll.nil')
  case h2 => simp [two]
  refine ⟨rfl, ⟨?_, trivial⟩, trivial⟩ <;> rfl
set_option maxRecDepth 100000 in
set_option maxHeartbeats 2000000 in
theorem vseal_i0 (X : DiskD) (name : Int) (hX : goodDisk X) (hL : wtDisk X ≤ 1000000000) (hf : DiskD.file X name = none) : VCD Tryd.prog 16 [(true, tDisk X), (false, [.lit (.int .i64 (name))])] true [(true, tDisk ((DiskD.sealF X name).getD X)), (false, [.lit (.bool (DiskD.sealF X name).isSome)])] := by
  refine VCD.enter Tryd.func16 rfl Tryd.ntmps16 (gle rfl) fun E hE hD => ?_
  have ho : DiskD.sealF X name = none := DiskD.sealF_none hf
  have hv := vfind_i X name hX hL
  rw [hf] at hv
  refine SV.seq' ?_
  refine SV.region ?_
  refine SV.op (OpMk.ok (ok_box (kk := 0) (ag := true) (xs := [.ro _, .sc _]) rfl rfl rfl (fun h => by cases h) rfl rfl (gle rfl))) rfl ?_
  refine SV.op (OpMk.ok (ok_alloc (kk := 1) (xs := [.nl _, .sc _]) rfl rfl zero_impl_Disk ⟨rfl, ⟨4, by decide, sz_impl_File⟩, rfl, rfl, trivial⟩ rfl (gle rfl))) rfl ?_
  refine SV.op (OpL.ok (nb := 2) (ok_move (v := V.one (.sc _)) (.inr rfl) rfl) rfl (gle rfl)) rfl ?_
  refine SV.nil ?_
  refine SV.tn ?_
  refine SV.seq' ?_
  refine SV.region ?_
  refine SV.op (OpL.ok (nb := 2) (ok_load_bp (b := 0) (i := 0) (ag := true) (m := 2) (ys := [.ro _, .sc _]) rfl rfl rfl agg_impl_Disk sz_impl_Disk (fun h => by cases h) rfl rfl (gle rfl)) rfl (gle rfl)) rfl ?_
  refine SV.op (OpMk.ok (ok_call (ls := [(true, [.hd 0, .sc _])]) rfl rfl ⟨_, _, Tryd.func23, rfl, by decide⟩ (vclonedisk_i X hL) ⟨⟨[.ro _, .sc _], rfl, ⟨rfl, rfl, trivial⟩⟩, trivial⟩ rfl (gle rfl))) rfl ?_
  refine SV.op (OpMk.ok (ok_alloc (kk := 2) (xs := [.nl _, .sc _]) rfl rfl zero_impl_Disk ⟨rfl, ⟨4, by decide, sz_impl_File⟩, rfl, rfl, trivial⟩ rfl (gle rfl))) rfl ?_
  refine SV.op (ok_store_bp (b := 2) (i := 0) (m := 2) (ag := true) (zs := [.hd 0, .sc _]) (ys := [.hd 0, .sc _]) rfl rfl rfl rfl sz_impl_Disk (fun h => by cases h) rfl (gle rfl) rfl rfl rfl) rfl ?_
  refine SV.nil ?_
  refine SV.tn ?_
  refine SV.seq' ?_
  refine SV.region ?_
  refine SV.op (OpL.ok (nb := 3) (ok_load_bp (b := 2) (i := 0) (ag := true) (m := 2) (ys := [.hd 0, .sc _]) rfl rfl rfl agg_impl_Disk sz_impl_Disk (fun h => by cases h) rfl rfl (gle rfl)) rfl (gle rfl)) rfl ?_
  refine SV.op (OpL.ok (nb := 3) (ok_move (v := V.one (.sc _)) (.inl rfl) rfl) rfl (gle rfl)) rfl ?_
  refine SV.op (OpMk.ok (ok_callPt0 rfl ⟨_, _, Tryd.func31, rfl, by decide⟩ (hv) ⟨⟨[.hd 0, .sc _], rfl, ⟨rfl, rfl, trivial⟩⟩, ⟨[.sc _], rfl, ⟨rfl, trivial⟩⟩, trivial⟩ rfl (gle rfl))) rfl ?_
  refine SV.op (OpL.ok (nb := 3) (ok_move (v := ⟨true, [(false, [.sc _]), (false, [.sc _])]⟩) (.inl rfl) rfl) rfl (gle rfl)) rfl ?_
  refine SV.op (OpL.ok (nb := 3) (ok_extract (ag := false) (xs := [.sc _]) rfl rfl rfl) rfl (gle rfl)) rfl ?_
  refine SV.op (OpL.ok (nb := 3) (ok_extract (ag := false) (xs := [.sc _]) rfl rfl rfl) rfl (gle rfl)) rfl ?_
  refine SV.op (OpL.ok (nb := 3) (ok_move (v := V.one (.sc _)) (.inr rfl) rfl) rfl (gle rfl)) rfl ?_
  refine SV.op (OpL.ok (nb := 3) (ok_move (v := V.one (.sc _)) (.inr rfl) rfl) rfl (gle rfl)) rfl ?_
  refine SV.nil ?_
  refine SV.tn ?_
  refine SV.seq' ?_
  refine SV.seq' ?_
  refine SV.region ?_
  refine SV.op (OpL.ok (nb := 3) (ok_move (v := V.one (.sc _)) (.inl rfl) rfl) rfl (gle rfl)) rfl ?_
  refine SV.op (OpL.ok (nb := 3) (ok_s1 (x := .tmp 17) (VScal.one rfl) (fun ρ h1 w => by go_simp; (try go_bits); with_reducible rfl) rfl) rfl (gle rfl)) rfl ?_
  refine SV.op (OpL.ok (nb := 3) (ok_move (v := V.one (.sc _)) (.inl rfl) rfl) rfl (gle rfl)) rfl ?_
  refine SV.split (d := 19) rfl (fun hg0 => ?_) (fun hg0 => ?_)
  · skip   -- g0.T
    refine SV.opN rfl rfl rfl (gle rfl) rfl rfl rfl (gle rfl) ?_
    refine SV.opN rfl rfl rfl (gle rfl) rfl rfl rfl (gle rfl) ?_
    refine SV.opN rfl rfl rfl (gle rfl) rfl rfl rfl (gle rfl) ?_
    refine SV.opN rfl rfl rfl (gle rfl) rfl rfl rfl (gle rfl) ?_
    refine SV.op (OpL.ok (nb := 3) (ok_pickT (v := V.one (.sc _)) rfl rfl rfl) rfl (gle rfl)) rfl ?_
    refine SV.nil ?_
    refine SV.tn ?_
    refine SV.cond rfl (fun hc0 => ?_) (fun hc0 => ?_)
    · skip   -- c0.T
      refine SV.seq' ?_
      refine SV.region ?_
      refine SV.op (OpL.ok (nb := 3) (ok_load_bp (b := 2) (i := 0) (ag := true) (m := 2) (ys := [.hd 0, .sc _]) rfl rfl rfl agg_impl_Disk sz_impl_Disk (fun h => by cases h) rfl rfl (gle rfl)) rfl (gle rfl)) rfl ?_
      refine SV.op (ok_store_bp (b := 1) (i := 0) (m := 2) (ag := true) (zs := [.hd 0, .sc _]) (ys := [.hd 0, .sc _]) rfl rfl rfl rfl sz_impl_Disk (fun h => by cases h) rfl (gle rfl) rfl rfl rfl) rfl ?_
      refine SV.op (OpL.ok (nb := 3) (ok_move (v := V.one (.sc _)) (.inr rfl) rfl) rfl (gle rfl)) rfl ?_
      refine SV.nil ?_
      refine SV.tn ?_
      refine SV.ret ?_
      refine SV.tr ?_
      apply SV.done (hf := Tryd.results16) (ht := rfl) (he := .inl rfl)
      case hr => exact (ResAll.cons (ResOk.cell (b := 1) (ag := true) (xs := [.hd 0, .sc _]) rfl rfl agg_impl_Disk sz_impl_Disk (fun h => by cases h)) (ResAll.cons (ResOk.tmp (ag := false) (xs := [.sc _]) rfl) ResAll.nil'))
      case h2 => simp [two]
      refine ⟨rfl, ⟨?_, ?_, trivial⟩, ⟨rfl, ⟨?_, trivial⟩, trivial⟩⟩ <;> (rw [ho]; rfl)
    · skip   -- c0.F
      cases hc0
  · skip   -- g0.F
    simp at hg0
set_option maxRecDepth 100000 in
set_option maxHeartbeats 2000000 in
theorem vseal_i1 (X : DiskD) (name : Int) (k : Nat) (f : FileD) (hX : goodDisk X) (hL : wtDisk X ≤ 1000000000) (hf : DiskD.file X name = some (k, f)) (hx : X.fFiles[k]? = some f) : VCD Tryd.prog 16 [(true, tDisk X), (false, [.lit (.int .i64 (name))])] true [(true, tDisk ((DiskD.sealF X name).getD X)), (false, [.lit (.bool (DiskD.sealF X name).isSome)])] := by
  refine VCD.enter Tryd.func16 rfl Tryd.ntmps16 (gle rfl) fun E hE hD => ?_
  have hv := vfind_i X name hX hL
  rw [hf] at hv
  have hs := DiskD.sealF_eq hf
  have hkl : k < X.fFiles.length := get_lt hx
  have hP := (hX.1 f (get_mem hx)).2.1
  have hw1 : wtPages f.fPages ≤ wtDisk X := by
    have h4 := wt_file_at X.fFiles k hkl
    have h5 : X.fFiles[k] = f := by have := hx; rw [List.getElem?_eq_getElem hkl] at this; exact Option.some.inj this
    rw [h5] at h4; exact h4
  have hw2 := wt_page_len f.fPages
  have hK : (R.fmtPages f.fPages).length ≤ 1000000000000 := by have := fmtPages_len f.fPages; omega
  refine SV.seq' ?_
  refine SV.region ?_
  refine SV.op (OpMk.ok (ok_box (kk := 0) (ag := true) (xs := [.ro _, .sc _]) rfl rfl rfl (fun h => by cases h) rfl rfl (gle rfl))) rfl ?_
  refine SV.op (OpMk.ok (ok_alloc (kk := 1) (xs := [.nl _, .sc _]) rfl rfl zero_impl_Disk ⟨rfl, ⟨4, by decide, sz_impl_File⟩, rfl, rfl, trivial⟩ rfl (gle rfl))) rfl ?_
  refine SV.op (OpL.ok (nb := 2) (ok_move (v := V.one (.sc _)) (.inr rfl) rfl) rfl (gle rfl)) rfl ?_
  refine SV.nil ?_
  refine SV.tn ?_
  refine SV.seq' ?_
  refine SV.region ?_
  refine SV.op (OpL.ok (nb := 2) (ok_load_bp (b := 0) (i := 0) (ag := true) (m := 2) (ys := [.ro _, .sc _]) rfl rfl rfl agg_impl_Disk sz_impl_Disk (fun h => by cases h) rfl rfl (gle rfl)) rfl (gle rfl)) rfl ?_
  refine SV.op (OpMk.ok (ok_call (ls := [(true, [.hd 0, .sc _])]) rfl rfl ⟨_, _, Tryd.func23, rfl, by decide⟩ (vclonedisk_i X hL) ⟨⟨[.ro _, .sc _], rfl, ⟨rfl, rfl, trivial⟩⟩, trivial⟩ rfl (gle rfl))) rfl ?_
  refine SV.op (OpMk.ok (ok_alloc (kk := 2) (xs := [.nl _, .sc _]) rfl rfl zero_impl_Disk ⟨rfl, ⟨4, by decide, sz_impl_File⟩, rfl, rfl, trivial⟩ rfl (gle rfl))) rfl ?_
  refine SV.op (ok_store_bp (b := 2) (i := 0) (m := 2) (ag := true) (zs := [.hd 0, .sc _]) (ys := [.hd 0, .sc _]) rfl rfl rfl rfl sz_impl_Disk (fun h => by cases h) rfl (gle rfl) rfl rfl rfl) rfl ?_
  refine SV.nil ?_
  refine SV.tn ?_
  refine SV.seq' ?_
  refine SV.region ?_
  refine SV.op (OpL.ok (nb := 3) (ok_load_bp (b := 2) (i := 0) (ag := true) (m := 2) (ys := [.hd 0, .sc _]) rfl rfl rfl agg_impl_Disk sz_impl_Disk (fun h => by cases h) rfl rfl (gle rfl)) rfl (gle rfl)) rfl ?_
  refine SV.op (OpL.ok (nb := 3) (ok_move (v := V.one (.sc _)) (.inl rfl) rfl) rfl (gle rfl)) rfl ?_
  refine SV.op (OpMk.ok (ok_callPt (i := 0) rfl ⟨_, _, Tryd.func31, rfl, by decide⟩ (hv) ⟨⟨[.hd 0, .sc _], rfl, ⟨rfl, rfl, trivial⟩⟩, ⟨[.sc _], rfl, ⟨rfl, trivial⟩⟩, trivial⟩ rfl rfl (by rw [List.length_map]; exact hkl) rfl (gle rfl))) rfl ?_
  refine SV.op (OpL.ok (nb := 3) (ok_move (v := ⟨true, [(false, [.ep 0 _ _ _]), (false, [.sc _])]⟩) (.inl rfl) rfl) rfl (gle rfl)) rfl ?_
  refine SV.op (OpL.ok (nb := 3) (ok_extract (ag := false) (xs := [.ep 0 _ _ _]) rfl rfl rfl) rfl (gle rfl)) rfl ?_
  refine SV.op (OpL.ok (nb := 3) (ok_extract (ag := false) (xs := [.sc _]) rfl rfl rfl) rfl (gle rfl)) rfl ?_
  refine SV.op (OpL.ok (nb := 3) (ok_move (v := V.one (.ep 0 _ _ _)) (.inr rfl) rfl) rfl (gle rfl)) rfl ?_
  refine SV.op (OpL.ok (nb := 3) (ok_move (v := V.one (.sc _)) (.inr rfl) rfl) rfl (gle rfl)) rfl ?_
  refine SV.nil ?_
  refine SV.tn ?_
  refine SV.seq' ?_
  refine SV.seq' ?_
  refine SV.region ?_
  refine SV.op (OpL.ok (nb := 3) (ok_move (v := V.one (.sc _)) (.inl rfl) rfl) rfl (gle rfl)) rfl ?_
  refine SV.op (OpL.ok (nb := 3) (ok_s1 (x := .tmp 17) (VScal.one rfl) (fun ρ h1 w => by go_simp; (try go_bits); with_reducible rfl) rfl) rfl (gle rfl)) rfl ?_
  refine SV.op (OpL.ok (nb := 3) (ok_move (v := V.one (.sc _)) (.inl rfl) rfl) rfl (gle rfl)) rfl ?_
  refine SV.split (d := 19) rfl (fun hg0 => ?_) (fun hg0 => ?_)
  · skip   -- g0.T
    simp at hg0
  · skip   -- g0.F
    refine SV.opY (OpL.ok (nb := 3) (ok_move (v := V.one (.ep 0 _ _ _)) (.inl rfl) rfl) rfl (gle rfl)) rfl rfl rfl (gle rfl) rfl rfl ?_
    refine SV.opY (OpL.ok (nb := 3) (ok_nilcheck rfl rfl) rfl (gle rfl)) rfl rfl rfl (gle rfl) rfl rfl ?_
    refine SV.opY (OpL.ok (nb := 3) (ok_field_el (p := .ep 0 _ _ _) (off := 3) rfl rfl (cells_ep rfl (map_at (by assumption)) rfl rfl) fld_impl_File_3) rfl (gle rfl)) rfl rfl rfl (gle rfl) rfl rfl ?_
    refine SV.opY (ok_load_el (p := .ep 0 _ _ _) (ag := false) (m := 1) (ys := [.sc _]) rfl rfl (cells_ep rfl (map_at (by assumption)) rfl rfl) agg_bool sz_bool (fun _ => rfl) (gle rfl) rfl rfl (gle rfl)) rfl rfl rfl (gle rfl) rfl rfl ?_
    refine SV.op (OpL.ok (nb := 3) (ok_pickF (v := V.one (.sc _)) rfl rfl rfl) rfl (gle rfl)) rfl ?_
    refine SV.nil ?_
    refine SV.tn ?_
    refine SV.cond rfl (fun hc0 => ?_) (fun hc0 => ?_)
    · skip   -- c0.T
      have ho : DiskD.sealF X name = none := by rw [hs, if_pos (by simpa using hc0)]
      refine SV.seq' ?_
      refine SV.region ?_
      refine SV.op (OpL.ok (nb := 3) (ok_load_bp (b := 2) (i := 0) (ag := true) (m := 2) (ys := [.hd 0, .sc _]) rfl rfl rfl agg_impl_Disk sz_impl_Disk (fun h => by cases h) rfl rfl (gle rfl)) rfl (gle rfl)) rfl ?_
      refine SV.op (ok_store_bp (b := 1) (i := 0) (m := 2) (ag := true) (zs := [.hd 0, .sc _]) (ys := [.hd 0, .sc _]) rfl rfl rfl rfl sz_impl_Disk (fun h => by cases h) rfl (gle rfl) rfl rfl rfl) rfl ?_
      refine SV.op (OpL.ok (nb := 3) (ok_move (v := V.one (.sc _)) (.inr rfl) rfl) rfl (gle rfl)) rfl ?_
      refine SV.nil ?_
      refine SV.tn ?_
      refine SV.ret ?_
      refine SV.tr ?_
      apply SV.done (hf := Tryd.results16) (ht := rfl) (he := .inl rfl)
      case hr => exact (ResAll.cons (ResOk.cell (b := 1) (ag := true) (xs := [.hd 0, .sc _]) rfl rfl agg_impl_Disk sz_impl_Disk (fun h => by cases h)) (ResAll.cons (ResOk.tmp (ag := false) (xs := [.sc _]) rfl) ResAll.nil'))
      case h2 => simp [two]
      refine ⟨rfl, ⟨?_, ?_, trivial⟩, ⟨rfl, ⟨?_, trivial⟩, trivial⟩⟩ <;> (rw [ho]; first | rfl | (show some (T.seq _ _) = some (T.seq _ _); simp [tFile, List.map_set]; done))
    · skip   -- c0.F
      have ho := hs.trans (if_neg (by simpa using hc0))
      refine SV.skip ?_
      refine SV.tn ?_
      refine SV.seq' ?_
      refine SV.region ?_
      refine SV.op (OpL.ok (nb := 3) (ok_move (v := V.one (.ep 0 _ _ _)) (.inl rfl) rfl) rfl (gle rfl)) rfl ?_
      refine SV.op (OpL.ok (nb := 3) (ok_move (v := V.one (.ep 0 _ _ _)) (.inl rfl) rfl) rfl (gle rfl)) rfl ?_
      refine SV.op (OpL.ok (nb := 3) (ok_nilcheck rfl rfl) rfl (gle rfl)) rfl ?_
      refine SV.op (OpL.ok (nb := 3) (ok_field_el (p := .ep 0 _ _ _) (off := 1) rfl rfl (cells_ep rfl (map_at (by assumption)) rfl rfl) fld_impl_File_1) rfl (gle rfl)) rfl ?_
      refine SV.op (ok_load_el (p := .ep 0 _ _ _) (ag := false) (m := 1) (ys := [.nd 0 _ _ (some _)]) rfl rfl (cells_ep rfl (map_at (by assumption)) rfl rfl) agg_s_impl_Page sz_s_impl_Page (fun _ => rfl) (gle rfl) rfl rfl (gle rfl)) rfl ?_
      refine SV.op (OpMk.ok (ok_callD (ls := [(false, [.sc _])]) hD rfl rfl ⟨_, _, Tryd.func39, rfl, by decide⟩ (vcksp_i f.fPages hP (by omega) (by omega) hK) ⟨⟨[.nd 0 _ _ (some _)], rfl, ⟨rfl, trivial⟩⟩, trivial⟩ rfl (gle rfl))) rfl ?_
      refine SV.op (OpL.ok (nb := 3) (ok_nilcheck rfl rfl) rfl (gle rfl)) rfl ?_
      refine SV.op (OpL.ok (nb := 3) (ok_field_el (p := .ep 0 _ _ _) (off := 2) rfl rfl (cells_ep rfl (map_at (by assumption)) rfl rfl) fld_impl_File_2) rfl (gle rfl)) rfl ?_
      refine SV.op (ok_store_ep (i := 0) (n := 4) (m := 1) (ag := false) (zs := [.sc _]) rfl rfl rfl rfl (map_at (by assumption)) sz_int (fun _ => rfl) rfl sz_impl_File (gle rfl) (outs_c rfl outs_n) (by simp [two]) rfl rfl rfl) rfl ?_
      refine SV.nil ?_
      refine SV.tn ?_
      refine SV.seq' ?_
      refine SV.region ?_
      refine SV.op (OpL.ok (nb := 3) (ok_move (v := V.one (.ep 0 _ _ _)) (.inl rfl) rfl) rfl (gle rfl)) rfl ?_
      refine SV.op (OpL.ok (nb := 3) (ok_nilcheck rfl rfl) rfl (gle rfl)) rfl ?_
      refine SV.op (OpL.ok (nb := 3) (ok_field_el (p := .ep 0 _ _ _) (off := 3) rfl rfl (cells_ep rfl (set_self (by rw [List.length_map]; exact hkl)) rfl rfl) fld_impl_File_3) rfl (gle rfl)) rfl ?_
      refine SV.op (ok_store_ep (i := 0) (n := 4) (m := 1) (ag := false) (zs := [.sc _]) rfl rfl rfl rfl (set_self (by rw [List.length_map]; exact hkl)) sz_bool (fun _ => rfl) rfl sz_impl_File (gle rfl) (outs_c rfl outs_n) (by simp [two]) rfl (set_twice (by rfl)) rfl) rfl ?_
      refine SV.nil ?_
      refine SV.tn ?_
      refine SV.seq' ?_
      refine SV.region ?_
      refine SV.op (OpL.ok (nb := 3) (ok_load_bp (b := 2) (i := 0) (ag := true) (m := 2) (ys := [.hd 0, .sc _]) rfl rfl rfl agg_impl_Disk sz_impl_Disk (fun h => by cases h) rfl rfl (gle rfl)) rfl (gle rfl)) rfl ?_
      refine SV.op (ok_store_bp (b := 1) (i := 0) (m := 2) (ag := true) (zs := [.hd 0, .sc _]) (ys := [.hd 0, .sc _]) rfl rfl rfl rfl sz_impl_Disk (fun h => by cases h) rfl (gle rfl) rfl rfl rfl) rfl ?_
      refine SV.op (OpL.ok (nb := 3) (ok_move (v := V.one (.sc _)) (.inr rfl) rfl) rfl (gle rfl)) rfl ?_
      refine SV.nil ?_
      refine SV.tn ?_
      refine SV.ret ?_
      apply SV.done (hf := Tryd.results16) (ht := rfl) (he := .inl rfl)
      case hr => exact (ResAll.cons (ResOk.cell (b := 1) (ag := true) (xs := [.hd 0, .sc _]) rfl rfl agg_impl_Disk sz_impl_Disk (fun h => by cases h)) (ResAll.cons (ResOk.tmp (ag := false) (xs := [.sc _]) rfl) ResAll.nil'))
      case h2 => simp [two]
      refine ⟨rfl, ⟨?_, ?_, trivial⟩, ⟨rfl, ⟨?_, trivial⟩, trivial⟩⟩ <;> (rw [ho]; first | rfl | (show some (T.seq _ _) = some (T.seq _ _); simp [tFile, List.map_set]; done))
end Go.Proofs.YtjdjceohlcimaaaDoor
/- States told by trees: arguments, from their reading to their trees; no function of program or reference is walked here. -/
namespace Go.Proofs.YtjdjceohlcimaaaDoor
open Go Go.ChangeShapes Go.WideShapes Go.RowKit Go.Deep Go.Joins V
set_option linter.unusedVariables false
def OpensT (A : TypeId) {α : Type} (n : Nat) (tf : α → List T) (ok : α → Prop) : Prop :=
  ∀ (H : Type) (enc : TypeId × Value → H) (w : World) (spare : Nat → Bool) (held : Bool) (fuel : Nat) (cs : List Value) (x : DataW H × List MemPlace), DataW.trod enc Tryd.prog w 0 spare held fuel A cs = some x → cs.length = n → ∃ y : α, ok y ∧ (tf y).length = n ∧ ∀ (j : Nat) (t : T) (u : Value), (tf y)[j]? = some t → cs[j]? = some u → Inn (fun b => b < w.heap.size) w t u
set_option maxRecDepth 100000 in
theorem OpensT.seq {A e : TypeId} {α : Type} {n : Nat} {tf : α → List T} {ok : α → Prop} (ht : Tryd.prog.underlying A = some (.slice e)) (hc : Tryd.prog.cellsOf e = n) (hp : 0 < n) (hz : Sz e n) (hO : OpensT e n tf ok) : OpensT A 1 (fun X : List α => [.seq e (X.map tf)]) (fun X => (∀ x ∈ X, ok x) ∧ X.length ≤ maxLen) := by
  intro H enc w spare held fuel cs x h _
  have emp : ∀ (a : Option Addr) (c : Nat), c ≤ maxLen → (a = none → c = 0) → ∃ y : List α, ((∀ x ∈ y, ok x) ∧ y.length ≤ maxLen) ∧ [T.seq e (y.map tf)].length = 1 ∧ ∀ (j : Nat) (t : T) (u : Value), [T.seq e (y.map tf)][j]? = some t → [Value.slice a 0 c][j]? = some u → Inn (fun b => b < w.heap.size) w t u := fun a c hc0 hn0 =>
    ⟨[], ⟨fun x hx => (by cases hx), Nat.zero_le _⟩, rfl, fun j t u h1 h2 => by
      match j, h1, h2 with
      | 0, h1, h2 =>
        cases h1; cases h2
        exact Inn.seq (es := []) n hp hz (fun e he => by cases he) (Nat.zero_le _) hc0 hn0 0 0 (fun _ => .bool false) (fun _ _ h => absurd rfl h) (fun h => absurd rfl h) (fun k e j t h => by simp at h) fun k e j t h => by simp at h⟩
  rcases open_slice ht h with ⟨rfl, -⟩ | ⟨a, len, cap, m, fu, D, Pl, rfl, -, hl, hm, hmm, -, hi⟩
  · exact emp none 0 (Nat.zero_le _) fun _ => rfl
  · have hlm : len ≤ m := by rw [hmm]; split <;> omega
    rw [hc] at hi
    rcases Nat.eq_zero_or_pos len with h0 | h0
    · subst h0
      exact emp (some a) cap hm fun e => by cases e
    · have hone : ∀ i, i < len → ∃ yc : α × List Value, ok yc.1 ∧ (tf yc.1).length = n ∧ yc.2.length = n ∧ (∀ j u, yc.2[j]? = some u → w.cell? (a.add (i * n + j)) = some u) ∧ ∀ (j : Nat) (t : T) (u : Value), (tf yc.1)[j]? = some t → yc.2[j]? = some u → Inn (fun b => b < w.heap.size) w t u := by
        intro i hil
        obtain ⟨cs', hcs, htr⟩ := hi i (by omega)
        obtain ⟨_, hcl, hat⟩ := World.cells?_some hcs
        obtain ⟨y, h1, h2, h3⟩ := hO H enc w spare held fu cs' _ htr hcl
        refine ⟨(y, cs'), h1, h2, hcl, fun j u hj => ?_, h3⟩
        have hjl : j < n := by rw [← hcl]; exact get_lt hj
        have := hat j hjl
        rw [add_add] at this
        rw [this]
        exact hj
      obtain ⟨y0, -⟩ := hone 0 h0
      obtain ⟨f, hf⟩ := @choose_lt (α × List Value) ⟨y0⟩ len _ hone
      obtain ⟨b, o, spot⟩ := a
      have hl0 : 0 < (f 0).2.length := by rw [(hf 0 h0).2.2.1]; exact hp
      have hcell0 := (hf 0 h0).2.2.2.1 0 (f 0).2[0] (by simp [hl0])
      have hspot : spot = none := by simpa [Addr.add] using World.cell?_spot hcell0
      subst hspot
      have hb : b < w.heap.size := by
        have := World.block_lt_of_cell? w _ hcell0
        simpa [Addr.add] using this
      have hget : ∀ k e', (((List.range len).map fun t => (f t).1).map tf)[k]? = some e' → k < len ∧ e' = tf (f k).1 := fun k e' hk => by
        have hkl : k < len := by have := get_lt hk; simpa using this
        refine ⟨hkl, ?_⟩
        simp [hkl] at hk
        exact hk.symm
      refine ⟨(List.range len).map fun t => (f t).1, ⟨fun x hx => ?_, by simp; omega⟩, rfl, fun j t u h1 h2 => ?_⟩
      · obtain ⟨t, ht, rfl⟩ := List.mem_map.1 hx
        exact (hf t (List.mem_range.1 ht)).1
      · match j, h1, h2 with
        | 0, h1, h2 =>
          cases h1; cases h2
          have hlen : (((List.range len).map fun t => (f t).1).map tf).length = len := by simp
          have key : ∀ k e' j t', (((List.range len).map fun t => (f t).1).map tf)[k]? = some e' → e'[j]? = some t' → ∃ u, (f k).2[j]? = some u ∧ w.cell? ⟨b, o + (k * n + j), none⟩ = some u ∧ Inn (fun b => b < w.heap.size) w t' u := fun k e' j t' hk hj => by
            obtain ⟨hkl, rfl⟩ := hget k e' hk
            obtain ⟨-, h3, h4, h5, h6⟩ := hf k hkl
            have hjl : j < (f k).2.length := by rw [h4, ← h3]; exact get_lt hj
            have h7 := h5 j _ (List.getElem?_eq_getElem hjl)
            rw [Addr.add_lit] at h7
            exact ⟨_, List.getElem?_eq_getElem hjl, h7, h6 j t' _ hj (List.getElem?_eq_getElem hjl)⟩
          have hsl : Value.slice (some ⟨b, o, none⟩) len cap = Value.slice (some ⟨b, o, none⟩) (((List.range len).map fun t => (f t).1).map tf).length cap := by rw [hlen]
          rw [hsl]
          exact Inn.seq n hp hz (fun e' he => by
            obtain ⟨k, hk, rfl⟩ := List.getElem_of_mem he
            obtain ⟨hkl, e1⟩ := hget k _ (List.getElem?_eq_getElem hk)
            rw [e1]; exact (hf k hkl).2.1) (by rw [hlen]; exact hl) hm (fun e => by cases e) b o (fun i => (w.cell? ⟨b, o + i, none⟩).getD (.bool false)) (fun ad h _ => (Option.some.inj h).symm) (fun _ => ⟨hb, hb⟩) (fun k e' j t' hk hj => by
              obtain ⟨u, -, h3, -⟩ := key k e' j t' hk hj
              rw [h3]; rfl) fun k e' j t' hk hj => by
              obtain ⟨u, -, h3, h4⟩ := key k e' j t' hk hj
              rw [h3]; exact h4
theorem OpensT.int : OpensT 3 1 (fun x : Int => [.lit (.int .i64 x)]) I64 := by
  intro H enc w spare held fuel cs x h hl
  match cs, hl with
  | [c0], _ =>
    obtain ⟨k0, e0, -, w0⟩ := DataW.trod_int Tryd.underlying3 h
    simp at e0
    subst e0
    refine ⟨k0, bounds_i64 w0, rfl, fun j t u h1 h2 => ?_⟩
    match j, h1, h2 with
    | 0, h1, h2 => cases h1; cases h2; exact .lit rfl
theorem OpensT.bool : OpensT 4 1 (fun x : Bool => [.lit (.bool x)]) (fun _ => True) := by
  intro H enc w spare held fuel cs x h hl
  match cs, hl with
  | [c0], _ =>
    obtain ⟨k0, e0, -⟩ := DataW.trod_bool Tryd.underlying4 h
    simp at e0
    subst e0
    refine ⟨k0, trivial, rfl, fun j t u h1 h2 => ?_⟩
    match j, h1, h2 with
    | 0, h1, h2 => cases h1; cases h2; exact .lit rfl
def okRow (r : R) : Prop := r.wf
def ArgT (w : World) (ag : Bool) (ts : List T) (v : Value) : Prop := ∃ us : List Value, v = cval ag us ∧ us.length = ts.length ∧ ∀ (j : Nat) (t : T) (u : Value), ts[j]? = some t → us[j]? = some u → Inn (fun b => b < w.heap.size) w t u
theorem ArgT.lit {w : World} {v : Value} (h : v.oneCell' = true) : ArgT w false [.lit v] v := ⟨[v], rfl, rfl, fun j t u h1 h2 => by
  match j, h1, h2 with
  | 0, h1, h2 => cases h1; cases h2; exact .lit h⟩
set_option maxRecDepth 100000 in
theorem OpensT.val {A : TypeId} {fs : Array Field} {α : Type} {n : Nat} {tf : α → List T} {ok : α → Prop} (hO : OpensT A n tf ok) (hs : Tryd.prog.underlying A = some (.struct fs)) (hc : Tryd.prog.cellsOf A = n)
    {H : Type} {enc : TypeId × Value → H} {w : World} {spare : Nat → Bool} {held : Bool} {q : Reach} {b0 : Nat} {v : Value} {d : DataW H} {p : List MemPlace} (hv : Value.okWide Tryd.prog w q b0 A v) (h : DataW.Trod enc Tryd.prog w 0 spare held A v d p) :
    ∃ y : α, ok y ∧ ArgT w true (tf y) v := by
  obtain ⟨cs, rfl, hsz⟩ := okWide_struct hs hv
  obtain ⟨fuel, hf⟩ := h
  have hl : (Value.cells (.agg cs)).toList.length = n := by simpa [Value.cells] using hsz.trans hc
  obtain ⟨y, h1, h2, h3⟩ := hO H enc w spare held fuel _ _ hf hl
  exact ⟨y, h1, cs.toList, by simp [cval], hl.trans h2.symm, h3⟩
theorem OpensT.arg {A : TypeId} {α : Type} {tf : α → List T} {ok : α → Prop} (hO : OpensT A 1 tf ok) {H : Type} {enc : TypeId × Value → H} {w : World} {spare : Nat → Bool} {held : Bool} {a : Option Addr} {len cap : Nat} {d : DataW H} {p : List MemPlace}
    (h : DataW.Trod enc Tryd.prog w 0 spare held A (.slice a len cap) d p) : ∃ y : α, ok y ∧ ArgT w false (tf y) (.slice a len cap) := by
  obtain ⟨fuel, hf⟩ := h
  obtain ⟨y, h1, h2, h3⟩ := hO H enc w spare held fuel _ _ hf (by simp [Value.cells])
  exact ⟨y, h1, [.slice a len cap], rfl, h2.symm, h3⟩
theorem argsIn_nil {w : World} : ArgsIn (Env.of w) w [] [] := ⟨rfl, fun c ag ts v h => by simp at h⟩
theorem argsIn_cons {w : World} {ag : Bool} {ts : List T} {v : Value} {ins : List (Bool × List T)} {vs : List Value} (h : ArgT w ag ts v) (k : ArgsIn (Env.of w) w ins vs) : ArgsIn (Env.of w) w ((ag, ts) :: ins) (v :: vs) := by
  refine ⟨by simp [k.1], fun c ag' ts' v' h1 h2 => ?_⟩
  cases c with
  | zero =>
    cases h1; cases h2
    obtain ⟨us, h3, h4, h5⟩ := h
    exact ⟨us, h3, h4, fun j t u h6 h7 => (h5 j t u h6 h7).frame (Nat.le_refl _) fun b hb _ => ⟨Env.of_old.2 hb, rfl⟩⟩
  | succ c => exact k.2 c ag' ts' v' (by simpa using h1) (by simpa using h2)
theorem VC.law {f : FuncId} {ins : List (Bool × List T)} (h : VC Tryd.prog f ins false [(false, [.lit (.bool true)])]) {w : World} {vs : List Value} (hv : ArgsIn (Env.of w) w ins vs) : Calls Tryd.prog f vs.toArray w fun e w' => e = .returned (.bool true) ∧ Below w.heap.size w w' :=
  (h w vs hv).mono fun e w' hg => by
    obtain ⟨h1, h2⟩ := hg.lit
    exact ⟨h1, h2.os, h2.tape, h2.output, h2.size, fun k hk => h2.block k (Env.of_old.2 hk)⟩
end Go.Proofs.YtjdjceohlcimaaaDoor
/- Page among the arguments, told by trees; no function of program or reference is walked here. -/
namespace Go.Proofs.YtjdjceohlcimaaaDoor
open Go Go.RowKit V
set_option linter.unusedVariables false
def okPage (x : List R) : Prop := ((∀ e ∈ x, okRow e) ∧ x.length ≤ maxLen)
end Go.Proofs.YtjdjceohlcimaaaDoor
/- File among the arguments, told by trees; no function of program or reference is walked here. -/
namespace Go.Proofs.YtjdjceohlcimaaaDoor
open Go Go.RowKit V
set_option linter.unusedVariables false
def okFile (x : FileD) : Prop := I64 x.fName ∧ ((∀ e ∈ x.fPages, okPage e) ∧ x.fPages.length ≤ maxLen) ∧ I64 x.fChecksum ∧ True
end Go.Proofs.YtjdjceohlcimaaaDoor
/- Disk among the arguments, told by trees; no function of program or reference is walked here. -/
namespace Go.Proofs.YtjdjceohlcimaaaDoor
open Go Go.RowKit V
set_option linter.unusedVariables false
def okDisk (x : DiskD) : Prop := ((∀ e ∈ x.fFiles, okFile e) ∧ x.fFiles.length ≤ maxLen) ∧ I64 x.fNextName
end Go.Proofs.YtjdjceohlcimaaaDoor
/- SealFile, whole: told by trees. -/
namespace Go.Proofs.YtjdjceohlcimaaaDoor
open Go Go.RowKit V
set_option linter.unusedVariables false
theorem DiskD.file_get {d : DiskD} {name : Int} {k : Nat} {f : FileD} (h : DiskD.file d name = some (k, f)) : d.fFiles[k]? = some f := by
  unfold DiskD.file at h
  split at h
  · obtain ⟨k', h1, h2⟩ := Option.bind_eq_some_iff.1 h
    obtain ⟨f', h3, h4⟩ := Option.map_eq_some_iff.1 h2
    cases h4
    exact h3
  · cases h
theorem vseal_s (X : DiskD) (name : Int) (hX : goodDisk X) (hL : wtDisk X ≤ 1000000000) : VC Tryd.prog 48 [(true, tDisk X), (false, [.lit (.int .i64 name)])] true [(true, tDisk ((DiskD.sealF X name).getD X)), (false, [.lit (.bool (DiskD.sealF X name).isSome)])] := vseal_s0 X name _ hX hL rfl
theorem vseal_i (X : DiskD) (name : Int) (hX : goodDisk X) (hL : wtDisk X ≤ 1000000000) : VCD Tryd.prog 16 [(true, tDisk X), (false, [.lit (.int .i64 name)])] true [(true, tDisk ((DiskD.sealF X name).getD X)), (false, [.lit (.bool (DiskD.sealF X name).isSome)])] := by
  cases h : DiskD.file X name with
  | none => exact vseal_i0 X name hX hL h
  | some kf => exact vseal_i1 X name kf.1 kf.2 hX hL h (DiskD.file_get h)
end Go.Proofs.YtjdjceohlcimaaaDoor
/- Operations on disks whose numbers are in range: what they answer is so. -/
namespace Go.Proofs.YtjdjceohlcimaaaDoor
open Go Go.RowKit V
set_option linter.unusedVariables false
theorem good_set {X : DiskD} {k : Nat} {f : FileD} (hX : goodDisk X) (hf : goodFile f) : goodDisk ⟨X.fFiles.set k f, X.fNextName⟩ := ⟨fun g hg => by
  rcases List.mem_or_eq_of_mem_set hg with h | h
  · exact hX.1 g h
  · rw [h]; exact hf, hX.2⟩
theorem good_snoc {X : DiskD} {f : FileD} (hX : goodDisk X) (hf : goodFile f) : goodDisk ⟨X.fFiles ++ [f], X.fNextName⟩ := ⟨fun g hg => by
  rcases List.mem_append.1 hg with h | h
  · exact hX.1 g h
  · rw [List.mem_singleton.1 h]; exact hf, hX.2⟩
theorem i64_of {x : Int} (h0 : 0 ≤ x) (h1 : x ≤ 1000000000) : I64 x := by
  unfold I64; omega
theorem good_create {X : DiskD} (hX : goodDisk X) : goodDisk ((DiskD.create X).getD X) := by
  cases h : DiskD.create X with
  | none => exact hX
  | some e =>
    unfold DiskD.create at h
    split at h
    · rename_i hc
      cases h
      rw [Bool.and_eq_true, decide_eq_true_eq] at hc
      have ho := DiskD.Ok.of hc.1
      have h1 := ho.lo
      have h2 := good_snoc (X := X) (f := ⟨X.fNextName, [], 0, false⟩) hX ⟨hX.2.1, (fun p hp => by cases hp), i64_of (Int.le_refl _) (by show (0:Int) ≤ 1000000000; decide), trivial⟩
      exact ⟨h2.1, i64_of (by show (0:Int) ≤ X.fNextName + 1; omega) (by show X.fNextName + 1 ≤ (1000000000:Int); omega), trivial⟩
    · cases h
theorem good_append {X : DiskD} {name : Int} {p : List R} (hX : goodDisk X) (hp : goodPage p) : goodDisk ((DiskD.appendTo X name p).getD X) := by
  cases h : DiskD.file X name with
  | none => rw [DiskD.appendTo_none h]; exact hX
  | some kf =>
    obtain ⟨k, f⟩ := kf
    rw [DiskD.appendTo_eq h]
    have hf := hX.1 f (get_mem (DiskD.file_get h))
    split
    · exact good_set hX ⟨hf.1, (fun q hq => by
        rcases List.mem_append.1 hq with h1 | h1
        · exact hf.2.1 q h1
        · rw [List.mem_singleton.1 h1]; exact hp), hf.2.2⟩
    · exact hX
theorem good_seal {X : DiskD} {name : Int} (hX : goodDisk X) : goodDisk ((DiskD.sealF X name).getD X) := by
  cases h : DiskD.file X name with
  | none => rw [DiskD.sealF_none h]; exact hX
  | some kf =>
    obtain ⟨k, f⟩ := kf
    rw [DiskD.sealF_eq h]
    have hf := hX.1 f (get_mem (DiskD.file_get h))
    have h1 := ck_lt (R.fmtPages f.fPages)
    split
    · exact hX
    · exact good_set hX ⟨hf.1, hf.2.1, i64_of (by show (0:Int) ≤ ((ck _ : Nat) : Int); omega) (by show ((ck _ : Nat) : Int) ≤ 1000000000; omega), trivial⟩
theorem good_delete {X : DiskD} {name : Int} (hX : goodDisk X) : goodDisk ((DiskD.delete X name).getD X) := by
  cases h : DiskD.file X name with
  | none => rw [DiskD.delete_none h]; exact hX
  | some kf =>
    obtain ⟨k, f⟩ := kf
    rw [DiskD.delete_eq h]
    exact ⟨fun g hg => hX.1 g (List.mem_of_mem_eraseIdx hg), hX.2⟩
end Go.Proofs.YtjdjceohlcimaaaDoor
/- The reference's WouldOverflow, by contract. -/
namespace Go.Proofs.YtjdjceohlcimaaaDoor
open Go.RowKit
set_option maxRecDepth 100000 in
theorem soverflow (a : Option Addr) (n c : Nat) (p : List R) (r : R) (hr : r.wf) (w : World) (h : SeqIn rowRep w a n p) (hn : n ≤ 1000000000000) :
    Calls Tryd.prog 35 #[.agg #[.slice a n c], .agg #[.int .i64 r.key, .int .i64 r.value, .int .i64 r.width]] w fun e w' => e = .returned (.bool (decide (8 < total p + r.cost))) ∧ Below w.heap.size w w' := by
  obtain ⟨W, hW⟩ : ∃ W, W = (w.alloc (.cells #[.slice a n c] 41)).alloc (.cells #[.int .i64 r.key, .int .i64 r.value, .int .i64 r.width] 62) := ⟨_, rfl⟩
  have hs1 : (w.alloc (.cells #[.slice a n c] 41)).heap.size = w.heap.size + 1 := by simp
  have hs2 : W.heap.size = w.heap.size + 2 := by rw [hW]; simp
  have b0 : Below w.heap.size w W := by rw [hW]; exact ((Below.refl _ _).alloc (Nat.le_refl _) _).alloc (by simp) _
  have k0 : W.heap[w.heap.size]? = some (.cells #[.slice a n c] 41 (0, 0)) := by rw [hW]; exact (Below.heap_alloc _ _ _ (by simp)).trans (heap_alloc_new _ _)
  have k1 : W.heap[w.heap.size + 1]? = some (.cells #[.int .i64 r.key, .int .i64 r.value, .int .i64 r.width] 62 (0, 0)) := by rw [hW, ← hs1]; exact heap_alloc_new _ _
  have HI := Lib.hid (rows_in (h.keep b0))
  have B0 := Lib.hid b0
  have HK := Lib.hid fun v (hv : Below W.heap.size W v) => (show v.cell? ⟨w.heap.size, 0, none⟩ = some (.slice a n c) ∧ RowAt v (w.heap.size + 1) 0 r from by
    have q0 := (hv.block w.heap.size (by omega)).trans k0
    have q1 := (hv.block (w.heap.size + 1) (by omega)).trans k1
    exact ⟨by simp [World.cell?, q0], by simp [World.cell?, q1], by simp [World.cell?, q1], by simp [World.cell?, q1]⟩)
  have HT := total_range p
  have HCR := r.cost_range
  have hpl := h.1
  have C1 := Lib.hid fun v (hv : Below W.heap.size W v) => (stotal a n c p v (HI.out.keep hv) (by omega)).mono fun e v' (h : e = .returned (.int .i64 (total p)) ∧ Below v.heap.size v v') => (⟨h.1, hv.trans (h.2.mono hv.size)⟩ : e = .returned (.int .i64 (total p)) ∧ Below W.heap.size W v')
  have C2 := Lib.hid fun v (hv : Below W.heap.size W v) => (scost r hr v).mono fun e v' (h : e = .returned (.int .i64 r.cost) ∧ Below v.heap.size v v') => (⟨h.1, hv.trans (h.2.mono hv.size)⟩ : e = .returned (.int .i64 r.cost) ∧ Below W.heap.size W v')
  obtain ⟨T, hT⟩ : ∃ T, T = total p := ⟨_, rfl⟩
  obtain ⟨K, hK⟩ : ∃ K, K = r.cost := ⟨_, rfl⟩
  unfold R.val at C2
  rw [← hT] at C1 HT ⊢
  rw [← hK] at C2 HCR ⊢
  clear hT hK b0 k0 k1 h hs1 hs2
  go_enter Tryd.func35, Tryd.ntmps35
  go_wp2_with fail
  rw [← hW]
  clear hW
  refine region_class (Below W.heap.size W) (by kernel_rfl) (by kernel_rfl) (Below.refl _ _).drew ?_
  repeat (first | go_big_quiet_skip | (go_big_quiet_want; go_big_quiet_op; first | go_big_quiet_on | (apply Exists.intro; refine ⟨fun v hv => ?_, ?_⟩; (focus (first | exact rfl | ((first | (go_at_call 52; exact C1.out v hv) | (go_at_call 53; exact C2.out v hv)); done) | ((obtain ⟨d0, d1, d2, d3⟩ := HK.out v hv); go_simp; done) | ((obtain ⟨d0, d1, d2, d3⟩ := HK.out v hv); go_simp; exact rfl) | ((obtain ⟨d0, d1, d2, d3⟩ := HK.out v hv); go_simp; exact ⟨rfl, rfl⟩))); go_big_quiet_on)))
  refine wpQuiet_nil ?_
  intro v hv
  go_wp2_with fail
  go_ret
  exact ⟨rfl, B0.out.trans (hv.mono B0.out.size)⟩
end Go.Proofs.YtjdjceohlcimaaaDoor
/- The reference's PackPages: told by trees. -/
namespace Go.Proofs.YtjdjceohlcimaaaDoor
open Go Go.RowKit V
set_option linter.unusedVariables false
theorem vover_s (p : List R) (r : R) (hp : goodPage p) (hr : r.wf) (hl : p.length ≤ 1000000000) : VC Tryd.prog 35 [(true, tPage p), (true, tRow r)] false [(false, [.lit (.bool (decide (8 < total p + r.cost)))])] := fun w vs hv => by
  obtain ⟨k, vs', rfl, h1, h2⟩ := hv.shape fitsPage hp
  obtain ⟨q, vs', rfl, h4, h5⟩ := h2.shape fitsRow hr
  rw [h5.none]
  have e : k.2.1 = p.length := h1.1.1.symm
  exact (soverflow k.1 k.2.1 k.2.2 p r hr w h1.1 (by omega)).mono fun e w' he => Gives.plain (ag := false) (rs := [.bool (decide (8 < total p + r.cost))]) (one_mem rfl) he
theorem vares_s (L : List R) (hL : ∀ r ∈ L, r.wf) (hl : L.length ≤ 1000000000) : VC Tryd.prog 34 [(false, [.seq 62 (L.map tRow)])] false [(false, [.lit (.bool (okRows L))])] := fun w vs hv => by
  obtain ⟨k, vs', rfl, h1, h2⟩ := hv.shape (Fits.slice 62 fitsRow) hL
  rw [h2.none]
  exact (sare k.1 k.2.1 k.2.2 L w (rows_in h1.1) (by have e : k.2.1 = L.length := h1.1.1.symm; omega)).mono fun e w' he => Gives.plain (ag := false) (rs := [.bool (okRows L)]) (one_mem rfl) he
theorem packSt_mem (L : List R) : ∀ r ∈ (R.packSt L).2, r ∈ L := by
  intro r hr
  have h := (R.packing L)
  have h1 := h.flat
  rw [← h1]
  exact List.mem_append_right _ hr
set_option maxRecDepth 100000 in
set_option maxHeartbeats 2000000 in
theorem vpack_s (L : List R) (hL : ∀ r ∈ L, r.wf) (hl : L.length ≤ 1000000000) : VC Tryd.prog 12 [(false, [.seq 62 (L.map tRow)])] false [(false, [.seq 41 ((R.pack L).map tPage)])] := by
  refine VC.enter Tryd.func12 rfl Tryd.ntmps12 (gle rfl) fun E hE => ?_
  refine SV.seq' ?_
  refine SV.region ?_
  refine SV.op (OpL.ok (nb := 0) (ok_move (v := V.one (.sc _)) (.inr rfl) rfl) rfl (gle rfl)) rfl ?_
  refine SV.nil ?_
  refine SV.tn ?_
  refine SV.seq' ?_
  refine SV.region ?_
  refine SV.op (OpMk.ok (ok_lit0 (kk := 0) elt_impl_Page rfl rfl rfl (gle rfl))) rfl ?_
  refine SV.op (OpL.ok (nb := 0) (ok_move (v := V.one (.hd 0)) (.inr rfl) rfl) rfl (gle rfl)) rfl ?_
  refine SV.nil ?_
  refine SV.tn ?_
  refine SV.seq' ?_
  refine SV.seq' ?_
  refine SV.region ?_
  refine SV.op (OpL.ok (nb := 0) (ok_move (v := V.one (.ro _)) (.inl rfl) rfl) rfl (gle rfl)) rfl ?_
  refine SV.op (OpMk.ok (ok_call (ls := [(false, [.sc _])]) rfl rfl ⟨_, _, Tryd.func34, rfl, by decide⟩ (vares_s L hL hl) ⟨⟨[.ro _], rfl, ⟨rfl, trivial⟩⟩, trivial⟩ rfl (gle rfl))) rfl ?_
  refine SV.op (OpL.ok (nb := 0) (ok_s1 (x := .tmp 8) (VScal.one rfl) (fun ρ h1 w => by go_simp; (try go_bits); with_reducible rfl) rfl) rfl (gle rfl)) rfl ?_
  refine SV.nil ?_
  refine SV.tn ?_
  refine SV.cond rfl (fun hc0 => ?_) (fun hc0 => ?_)
  · skip   -- c0.T
    have ho : R.pack L = [] := R.pack_bad (by simpa using hc0)
    refine SV.seq' ?_
    refine SV.region ?_
    refine SV.op (OpL.ok (nb := 0) (ok_move (v := V.one (.hd 0)) (.inl rfl) rfl) rfl (gle rfl)) rfl ?_
    refine SV.op (OpL.ok (nb := 0) (ok_move (v := V.one (.hd 0)) (.inr rfl) rfl) rfl (gle rfl)) rfl ?_
    refine SV.nil ?_
    refine SV.tn ?_
    refine SV.ret ?_
    refine SV.tr ?_
    apply SV.done (hf := Tryd.results12) (ht := rfl) (he := .inl rfl)
    case hr => exact (ResAll.cons (ResOk.tmp (ag := false) (xs := [.hd 0]) rfl) ResAll.nil')
    case h2 => simp [two]
    refine ⟨rfl, ⟨?_, trivial⟩, trivial⟩ <;> (show some (T.seq _ _) = some (T.seq _ _); first | (rw [ho]; done) | (rw [ho]; rfl) | (rw [hpe]; done) | (rw [hpe]; first | rfl | (simp [tPage]; done)) | (rw [hpe, hte]; done) | (rw [hpe, hte]; first | rfl | (simp [tPage]; done)))
  · skip   -- c0.F
    have hok : okRows L = true := by simpa using hc0
    have ho := R.pack_eq hok
    refine SV.skip ?_
    refine SV.tn ?_
    refine SV.seq' ?_
    refine SV.region ?_
    refine SV.op (OpL.ok (nb := 0) (ok_build (zs := [.nl _]) (ys := [.nl _]) (qs := []) (pl := fun i => ([(0, 1)] : List (Nat × Nat))[i]?) rfl zero_impl_Page ⟨rfl, ⟨3, by decide, sz_impl_Row⟩, trivial⟩ trivial bld_impl_Page rfl) rfl (gle rfl)) rfl ?_
    refine SV.op (OpMk.ok (ok_alloc (kk := 0) (xs := [.nl _]) rfl rfl zero_impl_Page ⟨rfl, ⟨3, by decide, sz_impl_Row⟩, trivial⟩ rfl (gle rfl))) rfl ?_
    refine SV.op (ok_store_bp (b := 0) (i := 0) (m := 1) (ag := true) (zs := [.nl _]) (ys := [.nl _]) rfl rfl rfl rfl sz_impl_Page (fun h => by cases h) rfl (gle rfl) rfl rfl rfl) rfl ?_
    refine SV.nil ?_
    refine SV.tn ?_
    refine SV.seq' ?_
    refine SV.seq' ?_
    refine SV.region ?_
    refine SV.op (OpL.ok (nb := 1) (ok_move (v := V.one (.sc _)) (.inr rfl) rfl) rfl (gle rfl)) rfl ?_
    refine SV.nil ?_
    refine SV.tn ?_
    refine SV.block ?_
    refine SV.nlbox (b := 0) (j := 0) (kk := 1) rfl rfl rfl (ys := [.hd 1]) rfl ?_
    refine SV.loopF (X := Nat) (fun (σ : VS) t => ((((((((VS.nil.new (.seq 41 ((R.packSt (L.take t)).1.map tPage))).new (.seq 62 ((R.packSt (L.take t)).2.map tRow))).box 41 [.hd 1]).put 0 (σ.tm 0)).put 2 (σ.tm 2)).put 3 (V.flat false [.hd 0])).put 4 (V.flat false [.bp 0 0])).put 5 (V.flat false [.sc (.int .i64 ((t : Int)))]))) (fun t => t ≤ L.length) (fun t => L.length - t) ?_ ?_
    · skip
      refine SV.again (fun i => [0, 1].getD i 0) 0 ((by first | exact Nat.zero_le _ | (refine ⟨Nat.zero_le _, ?_⟩; simp; done) | (simp; done) | omega)) (pins hE rfl rfl) (VS.le.mk' (le_put (le_put (le_put (le_put (le_put (le_box (le_new (le_new le_nil))) (V.le.keep (ag := false) (xs := [.ro _]) (ys := [.ro _]) rfl rfl ⟨rfl, trivial⟩)) (V.le.keep (ag := false) (xs := [.sc _]) (ys := [.sc _]) rfl rfl ⟨rfl, trivial⟩)) (V.le.keep (ag := false) (xs := [.hd 0]) (ys := [.hd 0]) rfl rfl ⟨⟨rfl, (gle rfl), (gle rfl)⟩, trivial⟩)) (V.le.keep (ag := false) (xs := [.bp 0 0]) (ys := [.bp 0 0]) rfl rfl ⟨⟨rfl, (gle rfl)⟩, trivial⟩)) (V.le.keep (ag := false) (xs := [.sc _]) (ys := [.sc _]) rfl rfl ⟨(by first | rfl | (show Leaf.sc _ = Leaf.sc _; refine congrArg Leaf.sc ?_; first | rfl | go_num | (simp [cntAll]; done)) | (simp [cntAll]; done) | (simp; omega)), trivial⟩)) ⟨⟨rfl, ⟨⟨rfl, (gle rfl), (gle rfl)⟩, trivial⟩⟩, trivial⟩ ⟨.inr ⟨_, _, rfl, ?ob1_1, (gle rfl)⟩, ⟨.inr ⟨_, _, rfl, ?ob1_0, (gle rfl)⟩, trivial⟩⟩ (new_ob (new_ob nil_ob)) (fun i j hi hj e => inj_list (l := [0, 1]) (by decide) i j hi hj e))
      case ob1_0 =>
        show some (T.seq _ _) = some (T.seq _ _)
        first | rfl | exact congrArg some (congrArg (T.seq _) (by simp))
      case ob1_1 =>
        show some (T.seq _ _) = some (T.seq _ _)
        first | rfl | exact congrArg some (congrArg (T.seq _) (by simp))
    · rintro t ht
      refine SV.seq' ?_
      refine SV.seq' ?_
      refine SV.region ?_
      refine SV.op (OpL.ok (nb := 1) (ok_move (v := V.one (.sc _)) (.inl rfl) rfl) rfl (gle rfl)) rfl ?_
      refine SV.op (OpL.ok (nb := 1) (ok_move (v := V.one (.ro _)) (.inl rfl) rfl) rfl (gle rfl)) rfl ?_
      refine SV.op (OpL.ok (nb := 1) (ok_len (lf := .ro _) rfl elt_impl_Row.und rfl rfl) rfl (gle rfl)) rfl ?_
      refine SV.op (OpL.ok (nb := 1) (ok_s2 (x := .tmp 12) (x' := .tmp 14) (VScal.one rfl) (VScal.one rfl) (fun ρ h1 h2 w => by go_simp; (try go_bits); with_reducible rfl) rfl) rfl (gle rfl)) rfl ?_
      refine SV.nil ?_
      refine SV.tn ?_
      refine SV.cond rfl (fun hc1 => ?_) (fun hc1 => ?_)
      · skip   -- c1.T
        have htl : t < L.length := by simpa using hc1
        have hx : L[t]? = some L[t] := by simp [htl]
        have hs : R.packSt (L.take (t + 1)) = R.packStep (R.packSt (L.take t)) L[t] := by rw [List.take_succ_eq_append_getElem htl, R.packSt_snoc]
        have hsz := R.packSt_sizes (L.take t)
        have htk : (L.take t).length ≤ t := by simp; omega
        have hgp : goodPage (R.packSt (L.take t)).2 := fun r hr => hL r (List.mem_of_mem_take (packSt_mem (L.take t) r hr))
        refine SV.skip ?_
        refine SV.tn ?_
        refine SV.seq' ?_
        refine SV.block ?_
        refine SV.seq' ?_
        refine SV.seq' ?_
        refine SV.draw [.q 0, .q 1, .q 2, .q 3, .q 4, .m 5] [] (by kernel_rfl) (by kernel_rfl) ?_
        refine DW.q rfl (ok_load_bp (b := 0) (i := 0) (ag := true) (m := 1) (ys := [.hd 1]) rfl rfl rfl agg_impl_Page sz_impl_Page (fun h => by cases h) rfl rfl (gle rfl)) rfl rfl (gle rfl) (fun _ _ _ _ h => h) ?_
        refine DW.q rfl (ok_move (v := V.one (.ro _)) (.inl rfl) rfl) rfl rfl (gle rfl) (fun _ _ _ _ h => h) ?_
        refine DW.q rfl (ok_move (v := V.one (.sc _)) (.inl rfl) rfl) rfl rfl (gle rfl) (fun _ _ _ _ h => h) ?_
        refine DW.q rfl (ok_index (n := 3) (lf := .ro _) rfl elt_impl_Row.und sz_impl_Row rfl rfl rfl (map_at (by assumption))) rfl rfl (gle rfl) (fun _ _ _ _ h => h) ?_
        refine DW.q rfl (ok_load_rp (ag := true) (m := 3) (ys := [.sc _, .sc _, .sc _]) rfl rfl agg_impl_Row sz_impl_Row (fun h => by cases h) (gle rfl) rfl) rfl rfl (gle rfl) (fun _ _ _ _ h => h) ?_
        refine DW.m [] rfl (ok_call (ls := [(false, [.sc _])]) rfl rfl ⟨_, _, Tryd.func35, rfl, by decide⟩ (vover_s (R.packSt (L.take t)).2 L[t] hgp (hL _ (get_mem hx)) (by omega)) ⟨⟨[.hd 1], rfl, ⟨rfl, trivial⟩⟩, ⟨[.sc _, .sc _, .sc _], rfl, ⟨rfl, rfl, rfl, trivial⟩⟩, trivial⟩ rfl (gle rfl)) rfl (gle rfl) (gle rfl) (.inl rfl) (fun j hj => by cases hj) ?_
        refine DW.stores ?_
        refine SV.zend ?_
        refine SV.tn ?_
        refine SV.cond rfl (fun hc2 => ?_) (fun hc2 => ?_)
        · skip   -- c2.T
          have hst : R.packStep (R.packSt (L.take t)) L[t] = ((R.packSt (L.take t)).1 ++ [(R.packSt (L.take t)).2], [L[t]]) := if_pos (by simpa using hc2)
          refine SV.seq' ?_
          refine SV.region ?_
          refine SV.op (OpL.ok (nb := 1) (ok_move (v := V.one (.hd 0)) (.inl rfl) rfl) rfl (gle rfl)) rfl ?_
          refine SV.op (OpL.ok (nb := 1) (ok_load_bp (b := 0) (i := 0) (ag := true) (m := 1) (ys := [.hd 1]) rfl rfl rfl agg_impl_Page sz_impl_Page (fun h => by cases h) rfl rfl (gle rfl)) rfl (gle rfl)) rfl ?_
          refine SV.op (OpMk.ok (ok_lit1 (kk := 2) elt_impl_Page (ag := true) (xs := [.hd 1]) rfl rfl rfl rfl (fun h => by cases h) (outs_c rfl outs_n) (by simp [two]) rfl (gle rfl))) rfl ?_
          refine SV.op (OpMk.ok (ok_append (kk := 3) elt_impl_Page (ls := .hd 0) (lx := .hd 2) rfl rfl rfl rfl rfl rfl (by intro i h1 h2; first | (cases h1; done) | (cases h1; cases h2)) (by first | omega | (simp; done) | (simp; omega)) rfl (gle rfl))) rfl ?_
          refine SV.op (OpL.ok (nb := 1) (ok_move (v := V.one (.hd 3)) (.inr rfl) rfl) rfl (gle rfl)) rfl ?_
          refine SV.nil ?_
          refine SV.tn ?_
          refine SV.region ?_
          refine SV.op (OpL.ok (nb := 1) (ok_build (zs := [.nl _]) (ys := [.nl _]) (qs := []) (pl := fun i => ([(0, 1)] : List (Nat × Nat))[i]?) rfl zero_impl_Page ⟨rfl, ⟨3, by decide, sz_impl_Row⟩, trivial⟩ trivial bld_impl_Page rfl) rfl (gle rfl)) rfl ?_
          refine SV.op (ok_store_bp (b := 0) (i := 0) (m := 1) (ag := true) (zs := [.nl _]) (ys := [.nl _]) rfl rfl rfl rfl sz_impl_Page (fun h => by cases h) rfl (gle rfl) rfl rfl rfl) rfl ?_
          refine SV.nil ?_
          refine SV.tn ?_
          refine SV.draw [.q 0, .q 1, .q 2, .q 3, .q 4, .q 5, .m 6, .m 7, .q 8] [9] (by kernel_rfl) (by kernel_rfl) ?_
          refine DW.q rfl (ok_field_bp (b := 0) (o' := 0) (off := 0) rfl rfl fld_impl_Page_0) rfl rfl (gle rfl) (fun _ _ _ _ h => h) ?_
          refine DW.q rfl (ok_load_bp (b := 0) (i := 0) (ag := false) (m := 1) (ys := [.nl _]) rfl rfl rfl agg_s_impl_Row sz_s_impl_Row (fun _ => rfl) rfl rfl (gle rfl)) rfl rfl (gle rfl) (fun _ _ _ _ h => h) ?_
          refine DW.q rfl (ok_move (v := V.one (.ro _)) (.inl rfl) rfl) rfl rfl (gle rfl) (fun _ _ _ _ h => h) ?_
          refine DW.q rfl (ok_move (v := V.one (.sc _)) (.inl rfl) rfl) rfl rfl (gle rfl) (fun _ _ _ _ h => h) ?_
          refine DW.q rfl (ok_index (n := 3) (lf := .ro _) rfl elt_impl_Row.und sz_impl_Row rfl rfl rfl (map_at (by assumption))) rfl rfl (gle rfl) (fun _ _ _ _ h => h) ?_
          refine DW.q rfl (ok_load_rp (ag := true) (m := 3) (ys := [.sc _, .sc _, .sc _]) rfl rfl agg_impl_Row sz_impl_Row (fun h => by cases h) (gle rfl) rfl) rfl rfl (gle rfl) (fun _ _ _ _ h => h) ?_
          refine DW.m [4] rfl (ok_lit1 (kk := 4) elt_impl_Row (ag := true) (xs := [.sc _, .sc _, .sc _]) rfl rfl rfl rfl (fun h => by cases h) (outs_c rfl (outs_c rfl (outs_c rfl outs_n))) (by simp [two]) rfl (gle rfl)) rfl (gle rfl) (gle rfl) (.inl rfl) (fun j hj => by
              simp only [List.mem_cons, List.not_mem_nil, or_false] at hj
              rcases hj with rfl
              · exact .inr ⟨(gle rfl), (gle rfl), .inl rfl⟩) ?_
          refine DW.m [5, 4] rfl (ok_append (kk := 5) elt_impl_Row (ls := .nl _) (lx := .hd 4) rfl rfl rfl rfl rfl rfl (by intro i h1 h2; first | (cases h1; done) | (cases h1; cases h2)) (by first | omega | (simp; done) | (simp; omega)) rfl (gle rfl)) rfl (gle rfl) (gle rfl) (.inl rfl) (fun j hj => by
              simp only [List.mem_cons, List.not_mem_nil, or_false] at hj
              rcases hj with rfl | rfl
              · exact .inr ⟨(gle rfl), (gle rfl), .inl rfl⟩
              · exact .inl (by decide)) ?_
          refine DW.q rfl (ok_field_bp (b := 0) (o' := 0) (off := 0) rfl rfl fld_impl_Page_0) rfl rfl (gle rfl) (fun _ _ _ _ h => h) ?_
          refine DW.stores ?_
          refine SV.z rfl (ok_store_bp (b := 0) (i := 0) (m := 1) (ag := false) (zs := [.hd 5]) (ys := [.hd 5]) rfl rfl rfl rfl sz_s_impl_Row (fun _ => rfl) rfl (gle rfl) rfl rfl rfl) rfl ?_
          refine SV.zend ?_
          refine SV.bn ?_
          refine SV.tn ?_
          refine SV.region ?_
          refine SV.op (OpL.ok (nb := 1) (ok_move (v := V.one (.sc _)) (.inl rfl) rfl) rfl (gle rfl)) rfl ?_
          refine SV.op (OpL.ok (nb := 1) (ok_s2 (x := .tmp 16) (x' := .const ((Value.int IntKind.i64 1))) (VScal.one rfl) (VScal.one rfl) (fun ρ h1 h2 w => by go_simp; (try go_bits); with_reducible rfl) rfl) rfl (gle rfl)) rfl ?_
          refine SV.op (OpL.ok (nb := 1) (ok_move (v := V.one (.sc _)) (.inr rfl) rfl) rfl (gle rfl)) rfl ?_
          refine SV.nil ?_
          refine SV.tn ?_
          refine SV.again (fun i => [3, 5].getD i 0) (t + 1) (⟨by omega, by omega⟩) (pins hE rfl rfl) (VS.le.mk' (le_put (le_put (le_put (le_put (le_put (le_box (le_new (le_new le_nil))) (V.le.keep (ag := false) (xs := [.ro _]) (ys := [.ro _]) rfl rfl ⟨rfl, trivial⟩)) (V.le.keep (ag := false) (xs := [.sc _]) (ys := [.sc _]) rfl rfl ⟨rfl, trivial⟩)) (V.le.keep (ag := false) (xs := [.hd 3]) (ys := [.hd 0]) rfl rfl ⟨⟨rfl, (gle rfl), (gle rfl)⟩, trivial⟩)) (V.le.keep (ag := false) (xs := [.bp 0 0]) (ys := [.bp 0 0]) rfl rfl ⟨⟨rfl, (gle rfl)⟩, trivial⟩)) (V.le.keep (ag := false) (xs := [.sc _]) (ys := [.sc _]) rfl rfl ⟨(by first | rfl | (show Leaf.sc _ = Leaf.sc _; refine congrArg Leaf.sc ?_; first | rfl | go_num | (simp [cntAll]; done)) | (simp [cntAll]; done) | (simp; omega)), trivial⟩)) ⟨⟨rfl, ⟨⟨rfl, (gle rfl), (gle rfl)⟩, trivial⟩⟩, trivial⟩ ⟨.inr ⟨_, _, rfl, ?ob2_1, (gle rfl)⟩, ⟨.inr ⟨_, _, rfl, ?ob2_0, (gle rfl)⟩, trivial⟩⟩ (new_ob (new_ob nil_ob)) (fun i j hi hj e => inj_list (l := [3, 5]) (by decide) i j hi hj e))
          case ob2_0 =>
            show some (T.seq _ _) = some (T.seq _ _)
            first | (rw [hs, hst]; done) | (rw [hs, hst]; refine congrArg some (congrArg (T.seq _) ?_); first | rfl | (simp; done) | (simp; rfl))
          case ob2_1 =>
            show some (T.seq _ _) = some (T.seq _ _)
            first | (rw [hs, hst]; done) | (rw [hs, hst]; refine congrArg some (congrArg (T.seq _) ?_); first | rfl | (simp; done) | (simp; rfl))
        · skip   -- c2.F
          have hst : R.packStep (R.packSt (L.take t)) L[t] = ((R.packSt (L.take t)).1, (R.packSt (L.take t)).2 ++ [L[t]]) := if_neg (by simpa using hc2)
          refine SV.skip ?_
          refine SV.tn ?_
          refine SV.draw [.q 0, .q 1, .q 2, .q 3, .q 4, .q 5, .m 6, .m 7, .q 8] [9] (by kernel_rfl) (by kernel_rfl) ?_
          refine DW.q rfl (ok_field_bp (b := 0) (o' := 0) (off := 0) rfl rfl fld_impl_Page_0) rfl rfl (gle rfl) (fun _ _ _ _ h => h) ?_
          refine DW.q rfl (ok_load_bp (b := 0) (i := 0) (ag := false) (m := 1) (ys := [.hd 1]) rfl rfl rfl agg_s_impl_Row sz_s_impl_Row (fun _ => rfl) rfl rfl (gle rfl)) rfl rfl (gle rfl) (fun _ _ _ _ h => h) ?_
          refine DW.q rfl (ok_move (v := V.one (.ro _)) (.inl rfl) rfl) rfl rfl (gle rfl) (fun _ _ _ _ h => h) ?_
          refine DW.q rfl (ok_move (v := V.one (.sc _)) (.inl rfl) rfl) rfl rfl (gle rfl) (fun _ _ _ _ h => h) ?_
          refine DW.q rfl (ok_index (n := 3) (lf := .ro _) rfl elt_impl_Row.und sz_impl_Row rfl rfl rfl (map_at (by assumption))) rfl rfl (gle rfl) (fun _ _ _ _ h => h) ?_
          refine DW.q rfl (ok_load_rp (ag := true) (m := 3) (ys := [.sc _, .sc _, .sc _]) rfl rfl agg_impl_Row sz_impl_Row (fun h => by cases h) (gle rfl) rfl) rfl rfl (gle rfl) (fun _ _ _ _ h => h) ?_
          refine DW.m [2] rfl (ok_lit1 (kk := 2) elt_impl_Row (ag := true) (xs := [.sc _, .sc _, .sc _]) rfl rfl rfl rfl (fun h => by cases h) (outs_c rfl (outs_c rfl (outs_c rfl outs_n))) (by simp [two]) rfl (gle rfl)) rfl (gle rfl) (gle rfl) (.inl rfl) (fun j hj => by
              simp only [List.mem_cons, List.not_mem_nil, or_false] at hj
              rcases hj with rfl
              · exact .inr ⟨(gle rfl), (gle rfl), .inl rfl⟩) ?_
          refine DW.m [2] rfl (ok_append (kk := 3) elt_impl_Row (ls := .hd 1) (lx := .hd 2) rfl rfl rfl rfl rfl rfl (by intro i h1 h2; first | (cases h1; done) | (cases h1; cases h2)) (by first | omega | (simp; done) | (simp; omega)) rfl (gle rfl)) rfl (gle rfl) (gle rfl) (.inr ⟨1, rfl, .inr ⟨(gle rfl), rfl⟩⟩) (fun j hj => by
              simp only [List.mem_cons, List.not_mem_nil, or_false] at hj
              rcases hj with rfl
              · exact .inl (by decide)) ?_
          refine DW.q rfl (ok_field_bp (b := 0) (o' := 0) (off := 0) rfl rfl fld_impl_Page_0) rfl rfl (gle rfl) (fun _ _ _ _ h => h) ?_
          refine DW.stores ?_
          refine SV.z rfl (ok_store_bp (b := 0) (i := 0) (m := 1) (ag := false) (zs := [.hd 3]) (ys := [.hd 3]) rfl rfl rfl rfl sz_s_impl_Row (fun _ => rfl) rfl (gle rfl) rfl rfl rfl) rfl ?_
          refine SV.zend ?_
          refine SV.bn ?_
          refine SV.tn ?_
          refine SV.region ?_
          refine SV.op (OpL.ok (nb := 1) (ok_move (v := V.one (.sc _)) (.inl rfl) rfl) rfl (gle rfl)) rfl ?_
          refine SV.op (OpL.ok (nb := 1) (ok_s2 (x := .tmp 16) (x' := .const ((Value.int IntKind.i64 1))) (VScal.one rfl) (VScal.one rfl) (fun ρ h1 h2 w => by go_simp; (try go_bits); with_reducible rfl) rfl) rfl (gle rfl)) rfl ?_
          refine SV.op (OpL.ok (nb := 1) (ok_move (v := V.one (.sc _)) (.inr rfl) rfl) rfl (gle rfl)) rfl ?_
          refine SV.nil ?_
          refine SV.tn ?_
          refine SV.again (fun i => [0, 3].getD i 0) (t + 1) (⟨by omega, by omega⟩) (pins hE rfl rfl) (VS.le.mk' (le_put (le_put (le_put (le_put (le_put (le_box (le_new (le_new le_nil))) (V.le.keep (ag := false) (xs := [.ro _]) (ys := [.ro _]) rfl rfl ⟨rfl, trivial⟩)) (V.le.keep (ag := false) (xs := [.sc _]) (ys := [.sc _]) rfl rfl ⟨rfl, trivial⟩)) (V.le.keep (ag := false) (xs := [.hd 0]) (ys := [.hd 0]) rfl rfl ⟨⟨rfl, (gle rfl), (gle rfl)⟩, trivial⟩)) (V.le.keep (ag := false) (xs := [.bp 0 0]) (ys := [.bp 0 0]) rfl rfl ⟨⟨rfl, (gle rfl)⟩, trivial⟩)) (V.le.keep (ag := false) (xs := [.sc _]) (ys := [.sc _]) rfl rfl ⟨(by first | rfl | (show Leaf.sc _ = Leaf.sc _; refine congrArg Leaf.sc ?_; first | rfl | go_num | (simp [cntAll]; done)) | (simp [cntAll]; done) | (simp; omega)), trivial⟩)) ⟨⟨rfl, ⟨⟨rfl, (gle rfl), (gle rfl)⟩, trivial⟩⟩, trivial⟩ ⟨.inr ⟨_, _, rfl, ?ob3_1, (gle rfl)⟩, ⟨.inr ⟨_, _, rfl, ?ob3_0, (gle rfl)⟩, trivial⟩⟩ (new_ob (new_ob nil_ob)) (fun i j hi hj e => inj_list (l := [0, 3]) (by decide) i j hi hj e))
          case ob3_0 =>
            show some (T.seq _ _) = some (T.seq _ _)
            first | (rw [hs, hst]; done) | (rw [hs, hst]; refine congrArg some (congrArg (T.seq _) ?_); first | rfl | (simp; done) | (simp; rfl))
          case ob3_1 =>
            show some (T.seq _ _) = some (T.seq _ _)
            first | (rw [hs, hst]; done) | (rw [hs, hst]; refine congrArg some (congrArg (T.seq _) ?_); first | rfl | (simp; done) | (simp; rfl))
      · skip   -- c1.F
        have hte : L.take t = L := by have : ¬ t < L.length := (by simpa using hc1); exact List.take_of_length_le (by omega)
        have hsz := R.packSt_sizes (L.take t)
        have htk : (L.take t).length ≤ L.length := by rw [List.length_take]; omega
        refine SV.exit ?_
        refine SV.te ?_
        refine SV.te ?_
        refine SV.bh ?_
        refine SV.tn ?_
        refine SV.seq' ?_
        refine SV.seq' ?_
        refine SV.region ?_
        refine SV.op (OpL.ok (nb := 1) (ok_field_bp (b := 0) (o' := 0) (off := 0) rfl rfl fld_impl_Page_0) rfl (gle rfl)) rfl ?_
        refine SV.op (OpL.ok (nb := 1) (ok_load_bp (b := 0) (i := 0) (ag := false) (m := 1) (ys := [.hd 1]) rfl rfl rfl agg_s_impl_Row sz_s_impl_Row (fun _ => rfl) rfl rfl (gle rfl)) rfl (gle rfl)) rfl ?_
        refine SV.op (OpL.ok (nb := 1) (ok_len (lf := .hd 1) rfl elt_impl_Row.und rfl rfl) rfl (gle rfl)) rfl ?_
        refine SV.op (OpL.ok (nb := 1) (ok_s2 (x := .tmp 40) (x' := .const ((Value.int IntKind.i64 0))) (VScal.one rfl) (VScal.one rfl) (fun ρ h1 h2 w => by go_simp; (try go_bits); with_reducible rfl) rfl) rfl (gle rfl)) rfl ?_
        refine SV.nil ?_
        refine SV.tn ?_
        refine SV.cond rfl (fun hc3 => ?_) (fun hc3 => ?_)
        · skip   -- c3.T
          have hpe : R.pack L = (R.packSt L).1 ++ [(R.packSt L).2] := by rw [ho]; unfold R.packEnd; exact if_neg (fun e => by first | (rw [e] at hc3; simp at hc3; done) | (rw [hte, e] at hc3; simp at hc3; done))
          refine SV.region ?_
          refine SV.op (OpL.ok (nb := 1) (ok_move (v := V.one (.hd 0)) (.inl rfl) rfl) rfl (gle rfl)) rfl ?_
          refine SV.op (OpL.ok (nb := 1) (ok_load_bp (b := 0) (i := 0) (ag := true) (m := 1) (ys := [.hd 1]) rfl rfl rfl agg_impl_Page sz_impl_Page (fun h => by cases h) rfl rfl (gle rfl)) rfl (gle rfl)) rfl ?_
          refine SV.op (OpMk.ok (ok_lit1 (kk := 2) elt_impl_Page (ag := true) (xs := [.hd 1]) rfl rfl rfl rfl (fun h => by cases h) (outs_c rfl outs_n) (by simp [two]) rfl (gle rfl))) rfl ?_
          refine SV.op (OpMk.ok (ok_append (kk := 3) elt_impl_Page (ls := .hd 0) (lx := .hd 2) rfl rfl rfl rfl rfl rfl (by intro i h1 h2; first | (cases h1; done) | (cases h1; cases h2)) (by first | omega | (simp; done) | (simp; omega)) rfl (gle rfl))) rfl ?_
          refine SV.op (OpL.ok (nb := 1) (ok_move (v := V.one (.hd 3)) (.inr rfl) rfl) rfl (gle rfl)) rfl ?_
          refine SV.nil ?_
          refine SV.tn ?_
          refine SV.seq' ?_
          refine SV.region ?_
          refine SV.op (OpL.ok (nb := 1) (ok_move (v := V.one (.hd 3)) (.inl rfl) rfl) rfl (gle rfl)) rfl ?_
          refine SV.op (OpL.ok (nb := 1) (ok_move (v := V.one (.hd 3)) (.inr rfl) rfl) rfl (gle rfl)) rfl ?_
          refine SV.nil ?_
          refine SV.tn ?_
          refine SV.ret ?_
          apply SV.done (hf := Tryd.results12) (ht := rfl) (he := .inl rfl)
          case hr => exact (ResAll.cons (ResOk.tmp (ag := false) (xs := [.hd 3]) rfl) ResAll.nil')
          case h2 => simp [two]
          refine ⟨rfl, ⟨?_, trivial⟩, trivial⟩ <;> (show some (T.seq _ _) = some (T.seq _ _); first | (rw [ho]; done) | (rw [ho]; rfl) | (rw [hpe]; done) | (rw [hpe]; first | rfl | (simp [tPage]; done)) | (rw [hpe, hte]; done) | (rw [hpe, hte]; first | rfl | (simp [tPage]; done)))
        · skip   -- c3.F
          have hpe : R.pack L = (R.packSt L).1 := by rw [ho]; unfold R.packEnd; exact if_pos (by first | simpa using hc3 | (rw [hte] at hc3; simpa using hc3))
          refine SV.skip ?_
          refine SV.tn ?_
          refine SV.seq' ?_
          refine SV.region ?_
          refine SV.op (OpL.ok (nb := 1) (ok_move (v := V.one (.hd 0)) (.inl rfl) rfl) rfl (gle rfl)) rfl ?_
          refine SV.op (OpL.ok (nb := 1) (ok_move (v := V.one (.hd 0)) (.inr rfl) rfl) rfl (gle rfl)) rfl ?_
          refine SV.nil ?_
          refine SV.tn ?_
          refine SV.ret ?_
          apply SV.done (hf := Tryd.results12) (ht := rfl) (he := .inl rfl)
          case hr => exact (ResAll.cons (ResOk.tmp (ag := false) (xs := [.hd 0]) rfl) ResAll.nil')
          case h2 => simp [two]
          refine ⟨rfl, ⟨?_, trivial⟩, trivial⟩ <;> (show some (T.seq _ _) = some (T.seq _ _); first | (rw [ho]; done) | (rw [ho]; rfl) | (rw [hpe]; done) | (rw [hpe]; first | rfl | (simp [tPage]; done)) | (rw [hpe, hte]; done) | (rw [hpe, hte]; first | rfl | (simp [tPage]; done)))
end Go.Proofs.YtjdjceohlcimaaaDoor
/- States told by trees: a region that draws its order, with calls that are handed a cursor. -/
namespace Go.Proofs.YtjdjceohlcimaaaDoor.V
open Go Go.RowKit
set_option linter.unusedVariables false
variable {P : Program} {E : Env} {N : Nat} {σ σ' τ : VS} {o : Oper} {a : Act} {w ws : World} {G Gs : Ghost} {Q : Exit → Act → World → Prop} {ad : Option Addr} {len cap : Nat} {zs0 : List Int}
structure SameC (E : Env) (τ : VS) (wl : List Nat) (G : Ghost) (ws v : World) : Prop where
  below : Same E ws v
  block : ∀ b, b < ws.heap.size → v.heap[b]? = ws.heap[b]? ∨ (∃ c, c ∈ wl ∧ c < τ.bs.length ∧ b = G.β c) ∨ ∃ (i ver : Nat) (ty : TypeId) (es : List (List T)) (n : Nat) (cs cs' : Array Value), τ.ob i = some (ver, .seq ty es) ∧ (G.vl i).ownBlock = some b ∧ Sz ty n ∧ ws.heap[b]? = some (.cells cs ty (0, 0)) ∧ v.heap[b]? = some (.cells cs' ty (0, 0)) ∧ cs'.size = cs.size ∧ cs'.toList.take (es.length * n) = cs.toList.take (es.length * n)
theorem SameC.refl (E : Env) (τ : VS) (wl : List Nat) (G : Ghost) (w : World) : SameC E τ wl G w w := ⟨Same.refl _ _, fun _ _ => .inl rfl⟩
structure LinkC (E : Env) (N : Nat) (τ : VS) (wl : List Nat) (ws : World) (Gs : Ghost) (fr : List Nat) (σ : VS) (w : World) (G : Ghost) : Prop where
  start : ∃ a, Rel E N τ a ws Gs
  same : SameC E τ wl Gs ws w
  vl : ∀ i, i < τ.nx → G.vl i = Gs.vl i
  β : ∀ b, b < τ.bs.length → G.β b = Gs.β b
  nx : τ.nx ≤ σ.nx
  bs : τ.bs.length ≤ σ.bs.length
  fresh : ∀ i ∈ fr, i < σ.nx ∧ ∀ b, (G.vl i).ownBlock = some b → ws.heap.size ≤ b
  nb : ∀ b, τ.bs.length ≤ b → b < σ.bs.length → ws.heap.size ≤ G.β b
def DC (E : Env) (N : Nat) (τ : VS) (wl : List Nat) (fr : List Nat) (σ : VS) (Ψ : World → Ghost → Act → World → Prop) : Prop := ∀ ws Gs a w G, Rel E N σ a w G → LinkC E N τ wl ws Gs fr σ w G → Ψ ws Gs a w
abbrev SC (E : Env) (τ : VS) (wl : List Nat) (ws : World) (Gs : Ghost) : World → Prop := fun v => SameC E τ wl Gs ws v
theorem SV.drawC {id : Nat} {l : List Oper} (wl : List Nat) (ps : List PStep) (zs : List Nat) (hm : P.follows .mixedOrders = true) (hB : planB .any l.toArray (Pl.of ps) zs = true) (h : DC E N τ wl [] τ fun ws Gs a w => wpPi P l.toArray Q (SC E τ wl ws Gs) zs (Pl.of ps) a w) : SV E N τ ((Code.region id l.toArray true).wp P Q) :=
  fun a w G hr => region_plan (SC E τ wl w.drew G) (Pl.of ps) zs hm hB (SameC.refl _ _ _ _ _) fun _ => h w.drew G a w.drew G hr.drew ⟨⟨a, hr.drew⟩, SameC.refl _ _ _ _ _, fun _ _ => rfl, fun _ _ => rfl, Nat.le_refl _, Nat.le_refl _, fun i hi => (by cases hi), fun b h1 h2 => absurd h2 (Nat.not_lt.2 h1)⟩
theorem SV.drawCT {id : Nat} {l : List Oper} (wl : List Nat) (ps : Pl) (zs : List Nat) (hm : P.follows .mixedOrders = true) (hB : planB .any l.toArray ps zs = true) (h : DC E N τ wl [] τ fun ws Gs a w => wpPi P l.toArray Q (SC E τ wl ws Gs) zs ps a w) : SV E N τ ((Code.region id l.toArray true).wp P Q) :=
  fun a w G hr => region_plan (SC E τ wl w.drew G) ps zs hm hB (SameC.refl _ _ _ _ _) fun _ => h w.drew G a w.drew G hr.drew ⟨⟨a, hr.drew⟩, SameC.refl _ _ _ _ _, fun _ _ => rfl, fun _ _ => rfl, Nat.le_refl _, Nat.le_refl _, fun i hi => (by cases hi), fun b h1 h2 => absurd h2 (Nat.not_lt.2 h1)⟩
variable {l : List Oper} {zs : List Nat} {ps : Pl} {i d : Nat} {fr wl : List Nat}
theorem LinkC.put (h : LinkC E N τ wl ws Gs fr σ w G) {v : V} : LinkC E N τ wl ws Gs fr (σ.put d v) w G := ⟨h.start, h.same, h.vl, h.β, h.nx, h.bs, h.fresh, h.nb⟩
theorem LinkC.lite (h : LinkC E N τ wl ws Gs fr σ w G) {v : World} (s : SameC E τ wl Gs ws v) : Lite E 0 G w v :=
  ⟨fun b hb => (s.below.block b hb).trans (h.same.below.block b hb).symm, fun c hc => absurd hc (Nat.not_lt_zero c)⟩
theorem DC.q {V' : V} (ho : nthO l i = some o) (h : OpL P E N 0 σ o V') (hg : o.guard = none) (hd : o.dst = some d) (hdN : d < N) (hQ : ∀ c (a : Act) v w, Q (.panic c) (a.put o.dst v) w → Q (.panic c) a w) (k : DC E N τ wl fr (σ.put d V') fun ws Gs a w => wpPi P l.toArray Q (SC E τ wl ws Gs) zs ps a w) :
    DC E N τ wl fr σ fun ws Gs a w => wpPi P l.toArray Q (SC E τ wl ws Gs) zs (.q i ps) a w := fun ws Gs a w G hr hl => by
  obtain ⟨u, h1, h2⟩ := h a w G hr
  refine pi_take (v := u) ho (fun c a w => hQ c a u w) (by simp [Region.wanted, hg]) (fun v hv => h1 v (hl.lite hv)) ?_
  rw [hd]
  exact k ws Gs _ w G (hr.put hdN h2) hl.put
theorem SameC.cell (h : Rel E N τ a ws Gs) {v : World} (s : SameC E τ wl Gs ws v) {j ver g k' n p : Nat} {ty : TypeId} {fs : List (List T)} {N' c : Nat} {e : List T} {u : Value} (hj : τ.ob j = some (ver, .seq ty fs)) (hv : Gs.vl j = .slice (some ⟨g, 0, none⟩) N' c) (he : fs[k']? = some e) (hen : e.length = n) (hp : p < n) (hcell : ws.cell? ⟨g, k' * n + p, none⟩ = some u) : v.cell? ⟨g, k' * n + p, none⟩ = some u := by
  have hroot : (Gs.vl j).ownBlock = some g := by rw [hv]; rfl
  have hft := root_ft h hj hroot
  rcases s.block g (lt_blk hcell) with h9 | ⟨c', -, hc', h9⟩ | ⟨i2, v2, ty2, es2, n2, cs, cs', f1, f2, f3, f4, f5, f6, f7⟩
  · exact (World.cell?_of_block h9).trans hcell
  · rw [h9] at hft
    exact absurd hft (h.boxft c' j hc' (by rw [hj]; simp))
  · have hji : j = i2 := by
      rcases Nat.decEq j i2 with hne | hne
      · exact absurd (root_ft h f1 f2) (h.disj j i2 g (by rw [hj]; simp) (by rw [f1]; simp) hne hft)
      · exact hne
    subst hji
    rw [hj] at f1
    cases f1
    obtain ⟨-, hown, -⟩ := h.objs j ver _ hj
    cases hown with
    | seq n3 hp3 hz3 hn3 xs hown3 Gs3 hr3 hone3 hF3 hG3 hne3 hd3 =>
      have hnn : n2 = n := (f3.eq hz3).trans ((hn3 e (get_mem he)).symm.trans hen)
      subst hnn
      have hlt : k' * n2 + p < fs.length * n2 := at_lt (get_lt he) hp
      rw [cell_of_row _ _ _ _ _ _ f4] at hcell
      rw [cell_of_row _ _ _ _ _ _ f5]
      have g1 : (cs'.toList.take (fs.length * n2))[k' * n2 + p]? = (cs.toList.take (fs.length * n2))[k' * n2 + p]? := by rw [f7]
      rw [List.getElem?_take, List.getElem?_take, if_pos hlt, if_pos hlt] at g1
      simpa using g1.trans (by simpa using hcell)
theorem SameC.cellB (h : Rel E N τ a ws Gs) {v : World} (s : SameC E τ wl Gs ws v) {j ver g k' n p : Nat} {ty : TypeId} {fs : List (List T)} {N' c : Nat} {e : List T} {u : Value} (hj : τ.ob j = some (ver, .seq ty fs)) (hv : Gs.vl j = .slice (some ⟨g, 0, none⟩) N' c) (he : fs[k']? = some e) (hen : e.length = n) (hp : p < n) (hcell : v.cell? ⟨g, k' * n + p, none⟩ = some u) : ws.cell? ⟨g, k' * n + p, none⟩ = some u := by
  obtain ⟨-, hown, -⟩ := h.objs j ver _ hj
  cases hown with
  | seq n3 hp3 hz3 hn3 xs hown3 Gs3 hr3 hone3 hF3 hG3 hne3 hd3 =>
    obtain ⟨a', c', e1, -, -, -, e5⟩ := own_slice hown3
    rw [hv] at e1
    injection e1 with e1 e2 e3
    obtain ⟨g', f1, f2, f3, f4, f5⟩ := e5 (Nat.lt_of_le_of_lt (Nat.zero_le _) (get_lt he))
    rw [f1] at e1
    injection e1 with e1
    injection e1 with e1
    have hn' : n3 = n := (hn3 e (get_mem he)).symm.trans hen
    subst hn' e1
    have hxl : xs.length = fs.length * n3 := hown3.1
    have hlt : k' * n3 + p < xs.length := by rw [hxl]; exact at_lt (get_lt he) hp
    have h6 := f4 (k' * n3 + p) xs[k' * n3 + p] (List.getElem?_eq_getElem hlt)
    have h7 := s.cell h hj hv he hen hp h6
    rw [hcell] at h7
    rw [h6, h7]
theorem DC.el {m : Nat} {ty : TypeId} {x : Operand} {j k' n o' : Nat} {ag : Bool} {es : List T} {ys : List Leaf} (hn : nthO l i = some o) (ho : o.op = .load ty x) (hx : σ.ev x = V.one (.ep j k' n o')) (hob : j < τ.nx ∧ σ.ob j = τ.ob j) (hc : σ.cells (.ep j k' n o') = some es) (hag : ∀ w, (isAgg ty).run Tryd.prog w = .ok ag w) (hm : Sz ty m) (h1 : ag = false → m = 1) (hml : m ≤ es.length)
    (hy : (List.range m).map (fun q => match es[q]? with | some t => σ.cellLeaf (.ep j k' n o') q t | none => .dead) = ys) (hg : o.guard = none) (hd : o.dst = some d) (hdN : d < N) (hQ : ∀ c (a : Act) v w, Q (.panic c) (a.put o.dst v) w → Q (.panic c) a w) (k : DC E N τ wl fr (σ.put d (V.flat ag ys)) fun ws Gs a w => wpPi Tryd.prog l.toArray Q (SC E τ wl ws Gs) zs ps a w) :
    DC E N τ wl fr σ fun ws Gs a w => wpPi Tryd.prog l.toArray Q (SC E τ wl ws Gs) zs (.q i ps) a w := fun ws Gs a w G hr hl => by
  obtain ⟨u, b, q, h2, h3, h4⟩ := load_el ho hx hc hag hm h1 hml hy hr
  refine pi_take (v := u) hn (fun c a w => hQ c a u w) (by simp [Region.wanted, hg]) (fun v hv => h3 v fun p y hp hcell => ?_) ?_
  · have h5 := hr.ev x
    rw [hx, vone] at h5
    obtain ⟨⟨-, g, M, c, h6, h7⟩, -⟩ := h5
    rw [h2] at h7
    injection h7 with h7
    injection h7 with h7
    injection h7 with h7 h8
    subst h7 h8
    obtain ⟨⟨ver, s⟩, e1, e2⟩ := Option.bind_eq_some_iff.1 hc
    obtain ⟨-, hown, ty', fs, hs⟩ := hr.objs j ver s e1
    have hs' : s = .seq ty' fs := hs
    subst hs'
    obtain ⟨e, he, e3⟩ := Option.bind_eq_some_iff.1 e2
    have hen : e.length = n := by
      cases hb : Nat.beq e.length n with
      | true => exact Nat.eq_of_beq_eq_true hb
      | false => simp only [hb] at e3; cases e3
    have hed : e.drop o' = es := by
      have hb : Nat.beq e.length n = true := by rw [hen]; exact Nat.beq_refl n
      simpa [hb] using e3
    have hlen : o' + p < n := by
      have : (e.drop o').length = es.length := by rw [hed]
      rw [List.length_drop, hen] at this
      omega
    obtain ⟨ar, hrs⟩ := hl.start
    have hj : τ.ob j = some (ver, .seq ty' fs) := by rw [← hob.2]; exact e1
    have hv0 : Gs.vl j = .slice (some ⟨b, 0, none⟩) M c := by rw [← hl.vl j hob.1]; exact h6
    have hcell' : w.cell? ⟨b, k' * n + (o' + p), none⟩ = some y := by rw [← Nat.add_assoc]; exact hcell
    have := hv.cell hrs hj hv0 he hen hlen (hl.same.cellB hrs hj hv0 he hen hlen hcell')
    rwa [← Nat.add_assoc] at this
  · rw [hd]
    exact k _ _ _ _ _ (hr.put hdN h4) hl.put
theorem DC.m (ho : nthO l i = some o) (h : OpMk P E N none σ o σ') (hg : o.guard = none) (hbs : σ'.bs.length = σ.bs.length) (hnx : σ.nx ≤ σ'.nx)
    (k : DC E N τ wl fr σ' fun ws Gs a w => wpPi P l.toArray Q (SC E τ wl ws Gs) zs ps a w) : DC E N τ wl fr σ fun ws Gs a w => wpPi P l.toArray Q (SC E τ wl ws Gs) zs (.m i ps) a w := fun ws Gs a w G hr hl => by
  refine pi_step ho fun K hK => ?_
  rw [if_pos (by simp [Region.wanted, hg])]
  refine h a w G K Q hr fun a' w' G' hr' hm => ?_
  have hblk : ∀ b, b < w.heap.size → w'.heap[b]? = w.heap[b]? := fun b hb => by
    rcases hm.block b hb with h1 | ⟨j, v, ty, es, n, cs, cs', e1, -⟩
    · exact h1
    · cases e1
  have hsame : SameC E τ wl Gs ws w' := by
    refine ⟨hl.same.below.trans hm.below, fun b hb => ?_⟩
    have h1 := hblk b (Nat.lt_of_lt_of_le hb hl.same.below.size)
    rcases hl.same.block b hb with h2 | h2 | ⟨i2, v2, ty2, es2, n2, ds, ds', f1, f2, f3, f4, f5, f6, f7⟩
    · exact .inl (h1.trans h2)
    · exact .inr (.inl h2)
    · exact .inr (.inr ⟨i2, v2, ty2, es2, n2, ds, ds', f1, f2, f3, f4, h1.trans f5, f6, f7⟩)
  exact hK.out a' w' hsame fun _ => k ws Gs a' w' G' hr' ⟨hl.start, hsame, fun j hj => (hm.vl j (Nat.lt_of_lt_of_le hj hl.nx)).trans (hl.vl j hj), fun b hb => (hm.β b (Nat.lt_of_lt_of_le hb hl.bs)).trans (hl.β b hb), Nat.le_trans hl.nx hnx, by rw [hbs]; exact hl.bs, fun j hj => ⟨Nat.lt_of_lt_of_le (hl.fresh j hj).1 hnx, fun b hb => (hl.fresh j hj).2 b (by rw [← hm.vl j (hl.fresh j hj).1]; exact hb)⟩, fun b h1 h2 => by rw [hbs] at h2; rw [hm.β b h2]; exact hl.nb b h1 h2⟩
theorem LinkC.box (h : LinkC E N τ wl ws Gs fr σ w G) {v : World} (s : SameC E τ wl Gs ws v) {c : Nat} (hc : c < τ.bs.length) (hw : c ∉ wl) : v.heap[G.β c]? = w.heap[G.β c]? := by
  obtain ⟨ar, hrs⟩ := h.start
  have key : ∀ {u : World}, SameC E τ wl Gs ws u → u.heap[Gs.β c]? = ws.heap[Gs.β c]? := fun {u} t => by
    obtain ⟨-, us, h2, -⟩ := hrs.boxes c _ _ (List.getElem?_eq_getElem hc)
    rcases t.block (Gs.β c) (lt_of_block h2) with h1 | ⟨c', hc1, hc2, h1⟩ | ⟨i, ver, ty, es, n, cs, cs', e1, e2, -⟩
    · exact h1
    · exact absurd (hrs.inj c c' hc hc2 h1) (fun e => hw (e ▸ hc1))
    · exact absurd (root_ft hrs e1 e2) (hrs.boxft c i hc (by rw [e1]; simp))
  rw [h.β c hc]
  exact (key s).trans (key h.same).symm
theorem DC.lb {b i' m : Nat} {ty ty' : TypeId} {x : Operand} {ag : Bool} {xs ys : List Leaf} (ho : nthO l i = some o) (hop : o.op = .load ty x) (hx : σ.ev x = V.one (.bp b i')) (hb : σ.bs[b]? = some (ty', xs)) (hag : ∀ w, (isAgg ty).run P w = .ok ag w) (hm : ∃ inf, P.info? ty = some inf ∧ inf.size = m) (h1 : ag = false → m = 1)
    (hy : (xs.drop i').take m = ys) (hyl : ys.length = m) (hbt : b < τ.bs.length) (hw : b ∉ wl) (hg : o.guard = none) (hd : o.dst = some d) (hdN : d < N) (hQ : ∀ c (a : Act) v w, Q (.panic c) (a.put o.dst v) w → Q (.panic c) a w)
    (k : DC E N τ wl fr (σ.put d (V.flat ag ys)) fun ws Gs a w => wpPi P l.toArray Q (SC E τ wl ws Gs) zs ps a w) : DC E N τ wl fr σ fun ws Gs a w => wpPi P l.toArray Q (SC E τ wl ws Gs) zs (.q i ps) a w := fun ws Gs a w G h hl => by
  have h2 := h.ev x
  rw [hx, vone] at h2
  obtain ⟨⟨-, h3⟩, -⟩ := h2
  obtain ⟨-, us, h4, h5, h6⟩ := h.boxes b ty' xs hb
  have h7 : ((us.drop i').take m).length = m := by
    have : ((xs.drop i').take m).length = m := by rw [hy]; exact hyl
    simp only [List.length_take, List.length_drop] at this ⊢
    omega
  refine pi_take (v := cval ag ((us.drop i').take m)) ho (fun c a w => hQ c a _ w) (by simp [Region.wanted, hg]) (fun v hv => ?_) ?_
  · have hr := load_run (P := P) (w := v) (b := G.β b) (i := i') (us := (us.drop i').take m) hag hm h1 h7 fun j u hj => by
      rw [cell_of_row v _ _ _ _ _ ((hl.box hv hbt hw).trans h4)]
      simpa using cut_get hj
    simp [execOp, hop, h3, Instr.loadAt, Instr.sureAddr, hr, Result.andThen]
  · rw [hd]
    exact k ws Gs _ w G (h.put hdN (vflat.2 ⟨_, rfl, by rw [h7, hyl], fun j y u hj hu => (h6 (i' + j) y u (cut_get (by rw [hy]; exact hj)) (cut_get hu)).1⟩)) hl.put
theorem DC.store {b i' m : Nat} {ty ty' : TypeId} {x y : Operand} {ag : Bool} {xs zs1 : List Leaf} (ho : o.op = .store ty x y) (hx : σ.ev x = V.one (.bp b i')) (hy : σ.ev y = V.flat ag zs1) (hb : σ.bs[b]? = some (ty', xs)) (hm : ∃ inf, P.info? ty = some inf ∧ inf.size = m) (h1 : ag = false → m = 1)
    (hzl : zs1.length = m) (hi : i' + m ≤ xs.length) (hlv' : zs1.all Leaf.live = true) (hd : o.dst = none) {ys : List Leaf} (hk : xs.take i' ++ zs1 ++ xs.drop (i' + zs1.length) = ys) (hn : nthO l i = some o) (hbw : b ∈ wl) (hbt : b < τ.bs.length) (hg : o.guard = none) (k : DC E N τ wl fr (σ.setb b ty' ys) fun ws Gs a w => wpPi P l.toArray Q (SC E τ wl ws Gs) zs ps a w) : DC E N τ wl fr σ fun ws Gs a w => wpPi P l.toArray Q (SC E τ wl ws Gs) zs (.m i ps) a w := fun ws Gs a w G h hl => by
  refine pi_step hn fun K hK => ?_
  rw [if_pos (by simp [Region.wanted, hg])]
  subst hk
  have h2 := h.ev x
  rw [hx, vone] at h2
  obtain ⟨⟨-, h3⟩, -⟩ := h2
  have hlv : ∀ x ∈ zs1, x.live = true := List.all_eq_true.1 hlv'
  have h4 := h.ev y
  rw [hy, vflat] at h4
  obtain ⟨vs, h5, h6, h7⟩ := h4
  obtain ⟨hB, us, h8, h9, h10⟩ := h.boxes b ty' xs hb
  have hone : ∀ (j : Nat) (x : Leaf) (u : Value), zs1[j]? = some x → vs[j]? = some u → Holds G σ E w x u ∧ u.oneCell' = true := fun j x u hj hu => ⟨h7 j x u hj hu, (h7 j x u hj hu).one (hlv x (get_mem hj))⟩
  have hr := store_run (P := P) (w := w) (b := G.β b) (i := i') (us := vs) (ag := ag) hm h1 (h6.trans hzl) (fun u hu => by
    obtain ⟨j, hj, rfl⟩ := List.getElem_of_mem hu
    exact (hone j zs1[j] vs[j] (by simp [show j < zs1.length by omega]) (by simp [hj])).2) (fun k hk => by
    rw [cell_of_row w _ _ _ _ _ h8]
    simp [show i' + k < us.length by omega]) fun k hk => by simp [World.frozen?, h8]
  have hsm : SameC E τ wl Gs ws (w.setCells (G.β b) i' vs) := by
    refine ⟨⟨(setCells_below _ _ _ _ _ (Nat.le_refl (G.β b))).os.trans hl.same.below.os, (setCells_below _ _ _ _ _ (Nat.le_refl (G.β b))).tape.trans hl.same.below.tape, (setCells_below _ _ _ _ _ (Nat.le_refl (G.β b))).output.trans hl.same.below.output, Nat.le_trans hl.same.below.size (setCells_below _ _ _ _ _ (Nat.le_refl (G.β b))).size, fun q hq => (setCells_far _ _ _ _ q fun e => by subst e; exact hB.elim (fun h1 => Nat.lt_irrefl _ (Nat.lt_of_lt_of_le hq.1 h1)) hq.2).trans (hl.same.below.block q hq)⟩, fun q hq => ?_⟩
    by_cases hqb : q = G.β b
    · exact .inr (.inl ⟨b, hbw, hbt, hqb.trans (hl.β b hbt)⟩)
    · have h1 := setCells_far (G.β b) vs i' w q hqb
      rcases hl.same.block q hq with h2 | h2 | ⟨i2, v2, ty2, es2, n2, ds, ds', f1, f2, f3, f4, f5, f6, f7⟩
      · exact .inl (h1.trans h2)
      · exact .inr (.inl h2)
      · exact .inr (.inr ⟨i2, v2, ty2, es2, n2, ds, ds', f1, f2, f3, f4, h1.trans f5, f6, f7⟩)
  have hrel := h.setbox hb ⟨(setCells_below _ _ _ _ _ (Nat.le_refl (G.β b))).os, (setCells_below _ _ _ _ _ (Nat.le_refl (G.β b))).tape, (setCells_below _ _ _ _ _ (Nat.le_refl (G.β b))).output, (setCells_below _ _ _ _ _ (Nat.le_refl (G.β b))).size, fun k hk => setCells_far (G.β b) vs i' w k fun e => by subst e; exact hB.elim (fun h1 => Nat.lt_irrefl _ (Nat.lt_of_lt_of_le hk.1 h1)) hk.2⟩ (fun k hk => setCells_far (G.β b) vs i' w k hk) (setCells_heap _ _ _ _ us ty' h8 (by omega)) (by simp; omega)
        (cat_get (R := fun x u => Holds G σ E w x u ∧ u.oneCell' = true) h9 h6 (by omega) h10 hone)
  refine wp_skipped (w' := w.setCells (G.β b) i' vs) ?_ (by
    rw [hd]
    exact hK.out _ _ hsm fun _ => k ws Gs _ _ G hrel ⟨hl.start, hsm, hl.vl, hl.β, hl.nx, by simpa [VS.setb] using hl.bs, hl.fresh, fun c h1 h2 => hl.nb c h1 (by simpa [VS.setb] using h2)⟩)
  simp [execOp, ho, h3, h5, Instr.storeAt, Instr.sureAddr, hr, Result.andThen]
theorem DC.storeN {b i' m : Nat} {ty ty' : TypeId} {x y : Operand} {ag : Bool} {xs zs1 : List Leaf} (ho : o.op = .store ty x y) (hx : σ.ev x = V.one (.bp b i')) (hy : σ.ev y = V.flat ag zs1) (hb : σ.bs[b]? = some (ty', xs)) (hm : ∃ inf, P.info? ty = some inf ∧ inf.size = m) (h1 : ag = false → m = 1)
    (hzl : zs1.length = m) (hi : i' + m ≤ xs.length) (hlv' : zs1.all Leaf.live = true) (hd : o.dst = none) {ys : List Leaf} (hk : xs.take i' ++ zs1 ++ xs.drop (i' + zs1.length) = ys) (hn : nthO l i = some o) (hbt : τ.bs.length ≤ b) (hg : o.guard = none) (k : DC E N τ wl fr (σ.setb b ty' ys) fun ws Gs a w => wpPi P l.toArray Q (SC E τ wl ws Gs) zs ps a w) : DC E N τ wl fr σ fun ws Gs a w => wpPi P l.toArray Q (SC E τ wl ws Gs) zs (.m i ps) a w := fun ws Gs a w G h hl => by
  refine pi_step hn fun K hK => ?_
  rw [if_pos (by simp [Region.wanted, hg])]
  subst hk
  have h2 := h.ev x
  rw [hx, vone] at h2
  obtain ⟨⟨-, h3⟩, -⟩ := h2
  have hlv : ∀ x ∈ zs1, x.live = true := List.all_eq_true.1 hlv'
  have h4 := h.ev y
  rw [hy, vflat] at h4
  obtain ⟨vs, h5, h6, h7⟩ := h4
  obtain ⟨hB, us, h8, h9, h10⟩ := h.boxes b ty' xs hb
  have hone : ∀ (j : Nat) (x : Leaf) (u : Value), zs1[j]? = some x → vs[j]? = some u → Holds G σ E w x u ∧ u.oneCell' = true := fun j x u hj hu => ⟨h7 j x u hj hu, (h7 j x u hj hu).one (hlv x (get_mem hj))⟩
  have hr := store_run (P := P) (w := w) (b := G.β b) (i := i') (us := vs) (ag := ag) hm h1 (h6.trans hzl) (fun u hu => by
    obtain ⟨j, hj, rfl⟩ := List.getElem_of_mem hu
    exact (hone j zs1[j] vs[j] (by simp [show j < zs1.length by omega]) (by simp [hj])).2) (fun k hk => by
    rw [cell_of_row w _ _ _ _ _ h8]
    simp [show i' + k < us.length by omega]) fun k hk => by simp [World.frozen?, h8]
  have hsm : SameC E τ wl Gs ws (w.setCells (G.β b) i' vs) := by
    refine ⟨⟨(setCells_below _ _ _ _ _ (Nat.le_refl (G.β b))).os.trans hl.same.below.os, (setCells_below _ _ _ _ _ (Nat.le_refl (G.β b))).tape.trans hl.same.below.tape, (setCells_below _ _ _ _ _ (Nat.le_refl (G.β b))).output.trans hl.same.below.output, Nat.le_trans hl.same.below.size (setCells_below _ _ _ _ _ (Nat.le_refl (G.β b))).size, fun q hq => (setCells_far _ _ _ _ q fun e => by subst e; exact hB.elim (fun h1 => Nat.lt_irrefl _ (Nat.lt_of_lt_of_le hq.1 h1)) hq.2).trans (hl.same.below.block q hq)⟩, fun q hq => ?_⟩
    by_cases hqb : q = G.β b
    · exact absurd (hl.nb b hbt (get_lt hb)) (Nat.not_le.2 (hqb ▸ hq))
    · have h1 := setCells_far (G.β b) vs i' w q hqb
      rcases hl.same.block q hq with h2 | h2 | ⟨i2, v2, ty2, es2, n2, ds, ds', f1, f2, f3, f4, f5, f6, f7⟩
      · exact .inl (h1.trans h2)
      · exact .inr (.inl h2)
      · exact .inr (.inr ⟨i2, v2, ty2, es2, n2, ds, ds', f1, f2, f3, f4, h1.trans f5, f6, f7⟩)
  have hrel := h.setbox hb ⟨(setCells_below _ _ _ _ _ (Nat.le_refl (G.β b))).os, (setCells_below _ _ _ _ _ (Nat.le_refl (G.β b))).tape, (setCells_below _ _ _ _ _ (Nat.le_refl (G.β b))).output, (setCells_below _ _ _ _ _ (Nat.le_refl (G.β b))).size, fun k hk => setCells_far (G.β b) vs i' w k fun e => by subst e; exact hB.elim (fun h1 => Nat.lt_irrefl _ (Nat.lt_of_lt_of_le hk.1 h1)) hk.2⟩ (fun k hk => setCells_far (G.β b) vs i' w k hk) (setCells_heap _ _ _ _ us ty' h8 (by omega)) (by simp; omega)
        (cat_get (R := fun x u => Holds G σ E w x u ∧ u.oneCell' = true) h9 h6 (by omega) h10 hone)
  refine wp_skipped (w' := w.setCells (G.β b) i' vs) ?_ (by
    rw [hd]
    exact hK.out _ _ hsm fun _ => k ws Gs _ _ G hrel ⟨hl.start, hsm, hl.vl, hl.β, hl.nx, by simpa [VS.setb] using hl.bs, hl.fresh, fun c h1 h2 => hl.nb c h1 (by simpa [VS.setb] using h2)⟩)
  simp [execOp, ho, h3, h5, Instr.storeAt, Instr.sureAddr, hr, Result.andThen]
theorem DC.alloc {ty : TypeId} {z : Value} {xs : List Leaf} {kk : Nat} (hn : nthO l i = some o) (hk : σ.bs.length = kk) (ho : o.op = .alloc ty) (hz : ∀ w, (zeroValue ty).run P w = .ok z w) (hxs : ZL xs z.cells.toList) (hd : o.dst = some d) (hdN : d < N) (hg : o.guard = none)
    (k : DC E N τ wl fr ((σ.box ty xs).put d (V.one (.bp kk 0))) fun ws Gs a w => wpPi P l.toArray Q (SC E τ wl ws Gs) zs ps a w) : DC E N τ wl fr σ fun ws Gs a w => wpPi P l.toArray Q (SC E τ wl ws Gs) zs (.m i ps) a w := fun ws Gs a w G hr hl => by
  refine pi_step hn fun K hK => ?_
  rw [if_pos (by simp [Region.wanted, hg])]
  subst hk
  obtain ⟨G', h1, h2, h3, h4⟩ := hr.alloc (ty := ty) hxs.len hxs.holds
  have hb : Below w.heap.size w (w.alloc (.cells z.cells.toList.toArray ty)) := (Below.refl _ _).alloc (Nat.le_refl _) _
  have hsame : SameC E τ wl Gs ws (w.alloc (.cells z.cells.toList.toArray ty)) := by
    refine ⟨hl.same.below.trans (.of_below (hb.mono hr.low)), fun b hb' => ?_⟩
    have h5 := hb.block b (Nat.lt_of_lt_of_le hb' hl.same.below.size)
    rcases hl.same.block b hb' with e2 | e2 | ⟨i2, v2, ty2, es2, n2, ds, ds', f1, f2, f3, f4, f5, f6, f7⟩
    · exact .inl (h5.trans e2)
    · exact .inr (.inl e2)
    · exact .inr (.inr ⟨i2, v2, ty2, es2, n2, ds, ds', f1, f2, f3, f4, h5.trans f5, f6, f7⟩)
  refine wp_value (v := .pointer (some ⟨w.heap.size, 0, none⟩)) (w' := w.alloc (.cells z.cells.toList.toArray ty)) ?_ ?_
  · simp [execOp, ho, Instr.alloc, hz, newVar, newRow, Result.andThen]
  rw [hd]
  refine hK.out _ _ hsame fun _ => k ws Gs _ _ G' (h1.put hdN (vone.2 ⟨⟨by simp, by rw [h2]⟩, .inr rfl⟩)) ⟨hl.start, hsame, fun j hj => by rw [h3]; exact hl.vl j hj, fun b hb' => (h4 b (Nat.lt_of_lt_of_le hb' hl.bs)).trans (hl.β b hb'), hl.nx, ?_, fun j hj => ⟨(hl.fresh j hj).1, fun b hb' => (hl.fresh j hj).2 b (by rw [← h3]; exact hb')⟩, fun b h5 h6 => ?_⟩
  · show τ.bs.length ≤ (σ.bs ++ [(ty, xs)]).length
    rw [List.length_append]
    have := hl.bs
    omega
  · have h6' : b < (σ.bs ++ [(ty, xs)]).length := h6
    rw [List.length_append, List.length_singleton] at h6'
    rcases Nat.lt_or_ge b σ.bs.length with h7 | h7
    · rw [h4 b h7]; exact hl.nb b h5 h7
    · rw [show b = σ.bs.length by omega, h2]
      exact hl.same.below.size
theorem DC.alt {ps1 ps2 : Pl} {j : Nat} (h1 : DC E N τ wl fr σ fun ws Gs a w => wpPi P l.toArray Q (SC E τ wl ws Gs) zs (.m i ps1) a w) (h2 : DC E N τ wl fr σ fun ws Gs a w => wpPi P l.toArray Q (SC E τ wl ws Gs) zs (.m j ps2) a w) :
    DC E N τ wl fr σ fun ws Gs a w => wpPi P l.toArray Q (SC E τ wl ws Gs) zs (.alt i ps1 j ps2) a w := fun ws Gs a w G hr hl => ⟨h1 ws Gs a w G hr hl, h2 ws Gs a w G hr hl⟩
theorem DC.stores (h : SV E N σ (wpZ P l.toArray Q zs)) : DC E N τ wl fr σ fun ws Gs a w => wpPi P l.toArray Q (SC E τ wl ws Gs) zs .nil a w := fun ws Gs a w G hr hl => pi_end (h a w G hr)
end Go.Proofs.YtjdjceohlcimaaaDoor.V
