/- Texts joined: FmtRowi Build FmtPagei FitsFmt SealI VPr ReadI SealW ReadW. -/
import Derived.Test.YtlnjgoommpeioaaDoorPartReadFilek
import Derived.Shelf.Strings.Builder2
/- The program's FormatRows, by contract. -/
namespace Go.Proofs.YtlnjgoommpeioaaDoor
open Go.RowKit Go.Lib

theorem join_rows {w : World} {g len : Nat} {L : List R} {t : TypeId} (h : w.heap[g]? = some (.cells (strs (L.map R.fmt)).toArray t (0, 0))) (hl : L.length = len) (h24 : L.length ≤ 24) :
    Calls Tryd.prog 82 #[.slice (some ⟨g, 0, none⟩) len len, .string ⟨#[32]⟩] w fun e w' => e = .returned (.string ⟨(join (L.map R.fmt) [32]).toArray⟩) ∧ Below w.heap.size w w' := by
  have hx : ((L.map R.fmt).map fun p => (⟨p.toArray⟩ : ByteArray)).length = len := by simp [hl]
  have hd : ((L.map R.fmt).map fun p => (⟨p.toArray⟩ : ByteArray)).map (·.data.toList) = L.map R.fmt := by simp
  have hj := join_fmt_length L
  have hc := Tryd.strings_Join g 0 len ((L.map R.fmt).map fun p => ⟨p.toArray⟩) ⟨#[32]⟩ w (fun j x hx => by
    rw [Nat.zero_add]
    rw [List.getElem?_map] at hx
    obtain ⟨y, hy, rfl⟩ := Option.map_eq_some_iff.1 hx
    obtain ⟨hjl, rfl⟩ := List.getElem?_eq_some_iff.1 hy
    exact (strs_block h j hjl).1) (lt_of_block h) (by rw [hx]; omega) (by rw [hx]; exact Nat.le_refl _) (by rw [hd]; show (join (L.map R.fmt) [32]).length ≤ _; omega)
  rw [hx, hd] at hc
  exact hc
set_option maxRecDepth 100000 in
theorem ifrows (a : Option Addr) (len cap : Nat) (L : List R) (w : World) (h : IsRows w a len L) (hlen : len ≤ 1000000000000) (ht : Tab w) :
    Calls Tryd.prog 140 #[.slice a len cap] w fun e w' => e = .returned (.string ⟨(fmtRows L).toArray⟩) ∧ Below w.heap.size w w' := by
  have HI := Lib.hid h
  obtain ⟨hl, hwf, hc⟩ := h
  have HL := Lib.hid hl
  have HC := Lib.hid hc
  have HT := Lib.hid ht
  clear hl hwf hc ht
  have hmk := run_make_strs len hlen
  go_enter Tryd.func140, Tryd.ntmps140
  go_wp2_with fail
  refine (iare _ len cap L _ HI.out (by omega)).mono ?_
  rintro e w0 ⟨rfl, b0⟩
  have B0 := Lib.hid b0
  have T0 := Lib.hid (HT.out.stay b0)
  clear b0
  cases hok : okRows L with
  | false =>
    have HF : Hid (fmtRows L = []) := by show _ = _; unfold fmtRows; rw [hok]; rfl
    clear hok hmk
    go_wp2_with fail
    go_ret
    exact ⟨by rw [HF.out]; rfl, B0.out⟩
  | true =>
    have HF : Hid (fmtRows L = join (L.map R.fmt) [32]) := by show _ = _; unfold fmtRows; rw [if_pos hok]
    have h24 := okRows_length hok
    have hl24 : len ≤ 24 := by rw [← HL.out]; exact h24
    clear hok h24
    have hbw : Below w0.heap.size w0 (w0.alloc (.cells (strs (List.replicate len [])).toArray 9)) := (Below.refl _ _).alloc (Nat.le_refl _) _
    have hgw : (w0.alloc (.cells (strs (List.replicate len [])).toArray 9)).heap[w0.heap.size]? = some (.cells (strs (List.replicate len [])).toArray 9 (0, 0)) := heap_alloc_new w0 _
    have BA := Lib.hid (B0.out.trans (hbw.mono B0.out.size))
    have GA := Lib.hid hgw
    have hle := B0.out.size
    clear hbw hgw
    go_wp2_with fail
    clear hmk
    go_loopw [14] (fun i wr => ∃ k : Nat, i = .int .i64 k ∧ k ≤ len ∧ Hid (wr.heap[w0.heap.size]? = some (.cells (strs ((L.take k).map R.fmt ++ List.replicate (len - k) [])).toArray 9 (0, 0))) ∧ Hid (Below w.heap.size w wr)) (fun i _ => len - (RowKit.intOf i).toNat)
    case atStart => exact ⟨0, rfl, Nat.zero_le _, GA, BA⟩
    case round =>
      obtain ⟨k, rfl, hk, hg, hb⟩ := hrel
      have htab := Lib.hid (HT.out.stay hb.out)
      by_cases hlt : k < len
      · obtain ⟨b, o, rfl, hbl, hc⟩ : ∃ b o : Nat, a = some ⟨b, o, none⟩ ∧ b < w.heap.size ∧ ∀ t, t < len → RowAt w b (o + t * 3) (L.getD t R.zero) := by
          rcases HC.out with h0 | h0
          · omega
          · exact h0
        obtain ⟨r, hr⟩ : ∃ r, r = L.getD k R.zero := ⟨_, rfl⟩
        have hat : RowAt wr b (o + k * 3) r := by rw [hr]; exact (hc k hlt).below hb.out hbl
        obtain ⟨c0, c1, c2⟩ := hat
        have HR := Lib.hid hr
        clear hr hc
        have hba : Below wr.heap.size wr (wr.alloc (.cells #[.int .i64 r.key, .int .i64 r.value, .int .i64 r.width] 55)) := (Below.refl _ _).alloc (Nat.le_refl _) _
        have T1 := Lib.hid (htab.out.stay hba)
        clear hba
        go_wp2_with fail
        refine (ifrow r _ T1.out).mono ?_
        rintro e w1 ⟨rfl, b1⟩
        have hgl : w0.heap.size < wr.heap.size := lt_of_block hg.out
        have b2 := (box_row (r := r) b1).2
        have hg1 : w1.heap[w0.heap.size]? = some (.cells (strs ((L.take k).map R.fmt ++ List.replicate (len - k) [])).toArray 9 (0, 0)) := (b2.block _ hgl).trans hg.out
        have HG1 := Lib.hid hg1
        have B1 := Lib.hid (hb.out.trans (b2.mono hb.out.size))
        obtain ⟨d0, f0⟩ := strs_block hg1 k (by simp [HL.out]; omega)
        clear hg1 b1 b2 hgl
        go_wp2_with fail
        go_roundw
        case rel =>
          refine ⟨k + 1, by go_num, by omega, ?_, B1.out.setCell (p := ⟨w0.heap.size, k, none⟩) hle _⟩
          show _ = _
          rw [strs_set HG1.out k, set_next' ((L.take k).map R.fmt) [] len k r.fmt hlt (by simp [HL.out]; omega)]
          have hkl : k < L.length := by rw [HL.out]; exact hlt
          have e3 : r = L[k] := by rw [HR.out]; simp [List.getD, hkl]
          rw [List.take_succ_eq_append_getElem hkl, List.map_append, List.map_cons, List.map_nil, ← e3]
        case measure => simp [RowKit.intOf]; omega
      · have hkl : k = len := by omega
        have hfin : wr.heap[w0.heap.size]? = some (.cells (strs (L.map R.fmt)).toArray 9 (0, 0)) := by
          rw [hg.out, hkl, ← HL.out, List.take_length, Nat.sub_self]; simp
        have HJ := Lib.hid (join_rows hfin HL.out (by rw [HL.out]; exact hl24))
        clear hfin hkl
        go_wp2_with fail
        refine HJ.out.mono ?_
        rintro e w1 ⟨rfl, b1⟩
        go_wp2_with fail
        go_ret
        exact ⟨by rw [HF.out]; rfl, hb.out.trans (b1.mono hb.out.size)⟩
end Go.Proofs.YtlnjgoommpeioaaDoor
/- strings.Builder over the program: copyCheck and WriteString walked here (their text in this program is not the library's laid one to the sign), String by the library's contract. -/
namespace Go.Proofs.YtlnjgoommpeioaaDoor
open Go Go.RowKit Go.Shelf

abbrev IsB (B b : Nat) (bs : List Value) (w : World) : Prop := Lib.IsBuilder 136 5 B b bs w
theorem owns_keep {w w' : World} {B : Nat} {e : TypeId} {k n : Nat} {v : Value} {xs : List Value} (h : w.ownsRow B e k v n xs) (hb : Below w.heap.size w w') : w'.ownsRow B e k v n xs := by
  obtain ⟨h1, h0 | ⟨g, cap, cur, hv, hB, hh, h2⟩⟩ := h
  · exact ⟨h1, .inl h0⟩
  · exact ⟨h1, .inr ⟨g, cap, cur, hv, hB, (hb.block g (lt_of_block hh)).trans hh, h2⟩⟩
theorem isb_keep {B b : Nat} {bs : List Value} {w w' : World} (h : IsB B b bs w) (hb : Below w.heap.size w w') : IsB B b bs w' := by
  have key : ∀ p, Lib.BuilderAt 136 5 B b p bs w → Lib.BuilderAt 136 5 B b p bs w' := by
    rintro p ⟨hB, v, hh, hown, hne⟩
    exact ⟨hB, v, (hb.block b (lt_of_block hh)).trans hh, owns_keep hown hb, hne⟩
  exact h.imp (key _) (key _)
theorem isb_new (w : World) : IsB w.heap.size w.heap.size [] (w.alloc (.cells #[.pointer none, .slice none 0 0] 136)) :=
  .inl ⟨Nat.le_refl _, _, heap_alloc_new w _, ⟨rfl, .inl ⟨rfl, rfl⟩⟩, by simp [Value.ownBlock]⟩
theorem bInfo : (Tryd.prog.info? 136).map (·.size) = some 2 := by kernel_rfl
theorem bLies : liesAt Tryd.prog Tryd.prog.depth 136 (2 / Tryd.prog.cellsOf 136) 0 136 1 = true := by kernel_rfl
theorem byteInfo : (Tryd.prog.info? 5).map (fun i => (i.zero, i.size, i.bytes)) = some (some (.int .u8 0), 1, 1) := by kernel_rfl
set_option maxRecDepth 100000 in
theorem copycheck_used (b : Nat) (w : World) (h0 : w.cell? ⟨b, 0, none⟩ = some (.pointer (some ⟨b, 0, none⟩))) :
    Calls Tryd.prog 142 #[.pointer (some ⟨b, 0, none⟩)] w fun e w' => e = .returned (.tuple #[]) ∧ w' = w := by
  obtain ⟨j, hj, _⟩ := Option.map_eq_some_iff.1 bInfo
  go_enter Tryd.func142, Tryd.ntmps142
  go_wp2
  rw [Lib.run_neq_ptr_same w _ Tryd.underlying134 hj]
  go_wp2
  go_end0
  exact ⟨rfl, rfl⟩
set_option maxRecDepth 100000 in
theorem copycheck_fresh (b : Nat) (w : World) (h0 : w.cell? ⟨b, 0, none⟩ = some (.pointer none)) (hsh : w.shape? b = some (136, 2)) (hfz : w.frozen? ⟨b, 0, none⟩ = false) :
    Calls Tryd.prog 142 #[.pointer (some ⟨b, 0, none⟩)] w fun e w' => e = .returned (.tuple #[]) ∧ w' = w.setCell ⟨b, 0, none⟩ (.pointer (some ⟨b, 0, none⟩)) := by
  obtain ⟨j, hj, hjs⟩ := Option.map_eq_some_iff.1 bInfo
  go_enter Tryd.func142, Tryd.ntmps142
  go_wp2
  rw [Lib.run_to_unsafe w ⟨b, 0, none⟩ Tryd.underlying134 Tryd.underlying163 hj (by rw [hjs]; decide) hsh (Nat.zero_lt_succ 1)]
  simp only [Result.andThen]
  rw [Oper.upon_value]
  go_wp2
  rw [run_callFunc_extern Tryd.func151 (by kernel_rfl) (by kernel_rfl) (by kernel_rfl) (e := Extern.AbiNoEscape.same) (by kernel_rfl)]
  rw [Lib.run_noEscape]
  simp only [Result.andThen]
  rw [Oper.upon_value]
  go_wp2
  rw [Lib.run_from_unsafe w ⟨b, 0, none⟩ Tryd.underlying163 Tryd.underlying134 hj hsh bLies]
  simp only [Result.andThen]
  rw [Oper.upon_value]
  go_wp2
  go_end0
  exact ⟨rfl, rfl⟩
theorem copycheck (B b : Nat) (bs : List Value) (w : World) (h : IsB B b bs w) :
    Calls Tryd.prog 142 #[.pointer (some ⟨b, 0, none⟩)] w fun e w' => e = .returned (.tuple #[]) ∧ (Lib.BuilderAt 136 5 B b (.pointer (some ⟨b, 0, none⟩)) bs w' ∧ Below B w w') := by
  rcases h with h | h
  · refine (copycheck_fresh b w h.cell0 h.shape h.frozen0).mono ?_
    rintro e w' ⟨rfl, rfl⟩
    exact ⟨rfl, h.used _, (Below.refl B w).setCell (p := ⟨b, 0, none⟩) h.1 _⟩
  · refine (copycheck_used b w h.cell0).mono ?_
    rintro e w' ⟨rfl, rfl⟩
    exact ⟨rfl, h, Below.refl B _⟩
set_option maxRecDepth 100000 in
theorem writestr (B b : Nat) (bs : List Value) (s : ByteArray) (w : World) (h : IsB B b bs w) (hlen : bs.length + s.size ≤ 140737488355328) (hBw : B ≤ w.heap.size) :
    Calls Tryd.prog 123 #[.pointer (some ⟨b, 0, none⟩), .string s] w fun e w' => e = .returned (.tuple #[.int .i64 s.size, .nilIface]) ∧ (IsB B b (bs ++ Lib.strCells s) w' ∧ Below B w w') := by
  obtain ⟨i0, hi, hz0, hz1, hz2⟩ := info_parts byteInfo
  go_enter Tryd.func123, Tryd.ntmps123
  go_wp2_with fail
  refine (copycheck B b bs _ h).mono ?_
  rintro e w1 ⟨rfl, h1, hb1⟩
  obtain ⟨hB, v, hbk, hown, hne⟩ := h1
  have c0 : w1.cell? ⟨b, 0, none⟩ = some (.pointer (some ⟨b, 0, none⟩)) := by rw [Lib.cell_of_heap hbk]; rfl
  have c1 : w1.cell? ⟨b, 1, none⟩ = some v := by rw [Lib.cell_of_heap hbk]; rfl
  go_wp2_with (at_builtin; refine Lib.wpList_append_own_string _ rfl _ _ 22 9 rfl B 5 i0 Tryd.underlying22 Tryd.underlying9 hi hz0 hz1 hz2 _ _ _ rfl hown s rfl ?c3 ?c4 ?c5 ?_)
  case c3 => unfold maxLen; omega
  case c4 => omega
  case c5 => have := hb1.size; omega
  intro v' w2 hown' hgrow _
  have hlt : b < w1.heap.size := lt_of_block hbk
  have hb2 : w2.heap[b]? = some (.cells #[.pointer (some ⟨b, 0, none⟩), v] 136 (0, 0)) := by
    rw [hgrow.block b hlt (fun e => hne e.symm)]
    exact hbk
  have d0 : w2.cell? ⟨b, 0, none⟩ = some (.pointer (some ⟨b, 0, none⟩)) := by rw [Lib.cell_of_heap hb2]; rfl
  have d1 : w2.cell? ⟨b, 1, none⟩ = some v := by rw [Lib.cell_of_heap hb2]; rfl
  have f1 : w2.frozen? ⟨b, 1, none⟩ = false := Lib.frozen_of_heap hb2 1
  obtain ⟨ao, n', cap, rfl⟩ : ∃ ao n' cap, v' = .slice ao n' cap := by
    rcases hown'.2 with ⟨hv, _⟩ | ⟨g, cap, cur, hv, _⟩
    · exact ⟨_, _, _, hv⟩
    · exact ⟨_, _, _, hv⟩
  go_wp2
  go_ret2
  refine ⟨rfl, .inr ?_, ?_⟩
  · exact Lib.BuilderAt.put hB hb2 (bs' := bs ++ Lib.strCells s) (by simpa [Lib.strCells_length] using hown') (by decide)
  · exact (hb1.grown hgrow (by have := hb1.size; omega) (fun k hk => (hown.lt k hk).1)).setCell (p := ⟨b, 1, none⟩) hB _
theorem strcells (l : List UInt8) : Lib.strCells ⟨l.toArray⟩ = Lib.byteCells l := by
  first | rfl | simp [Lib.strCells, Lib.byteCells]
theorem buildstr (B b : Nat) (l : List UInt8) (w : World) (h : IsB B b (Lib.byteCells l) w) (hB : B ≤ w.heap.size) :
    Calls Tryd.prog 124 #[.pointer (some ⟨b, 0, none⟩)] w fun e w' => e = .returned (.string ⟨l.toArray⟩) ∧ Below B w w' := Tryd.Builder_String_any B b l w h hB
end Go.Proofs.YtlnjgoommpeioaaDoor
/- The program's FormatPages, by contract. -/
namespace Go.Proofs.YtlnjgoommpeioaaDoor
open Go.RowKit Go.Lib

theorem txt_page (b : List UInt8) : ((⟨#[91]⟩ : ByteArray) ++ ⟨b.toArray⟩) ++ ⟨#[93]⟩ = ⟨(91 :: (b ++ [93])).toArray⟩ := by
  have e : (⟨#[91]⟩ : ByteArray) = ⟨[91].toArray⟩ := rfl
  have e2 : (⟨#[93]⟩ : ByteArray) = ⟨[93].toArray⟩ := rfl
  rw [e, e2, ByteArray.mk_append_mk, ByteArray.mk_append_mk]
  congr 1
theorem txt_len (P : List (List R)) : (P.flatMap R.pageTxt).length ≤ 218 * P.length := by
  induction P with
  | nil => simp
  | cons p P ih =>
    have h1 := fmtRows_length p
    rw [List.flatMap_cons, List.length_append, List.length_cons]
    have : (R.pageTxt p).length = (fmtRows p).length + 2 := by simp [R.pageTxt]
    omega
theorem txt_step (P : List (List R)) (t : Nat) (ht : t < P.length) : (P.take (t + 1)).flatMap R.pageTxt = (P.take t).flatMap R.pageTxt ++ (91 :: (fmtRows P[t] ++ [93])) := by
  rw [List.take_succ_eq_append_getElem ht, List.flatMap_append, List.flatMap_singleton]
  rfl
theorem bytecells_app (a b : List UInt8) : Lib.byteCells a ++ Lib.byteCells b = Lib.byteCells (a ++ b) := by simp [Lib.byteCells]
set_option maxRecDepth 100000 in
theorem ifpages (a : Option Addr) (n c : Nat) (P : List (List R)) (w : World) (h : SeqIn pageRep w a n P) (hn : n ≤ 1000000000) (hf : P.flatten.length ≤ 1000000000000) (ht : Tab w) :
    Calls Tryd.prog 117 #[.slice a n c] w fun e w' => e = .returned (.string ⟨(R.fmtPages P).toArray⟩) ∧ Below w.heap.size w w' := by
  have HL := Lib.hid h.1
  have HI := Lib.hid h
  have HT := Lib.hid ht
  obtain ⟨N, hN⟩ : ∃ N, N = P.flatten.length := ⟨_, rfl⟩
  rw [← hN] at hf
  have HN := Lib.hid hN
  have S0 := Lib.hid (isb_new w)
  have B0 := Lib.hid ((Below.refl w.heap.size w).alloc (Nat.le_refl _) (.cells #[.pointer none, .slice none 0 0] 136))
  clear h hN ht
  go_enter Tryd.func117, Tryd.ntmps117
  go_wp2_with fail
  go_loopw [8] (fun i wr => ∃ t : Nat, i = .int .i64 t ∧ t ≤ n ∧ Hid (R.allPages (P.take t) = true) ∧ Hid (IsB w.heap.size w.heap.size (Lib.byteCells ((P.take t).flatMap R.pageTxt)) wr) ∧ Hid (Below w.heap.size w wr)) (fun i _ => n - (RowKit.intOf i).toNat)
  case atStart => exact ⟨0, rfl, Nat.zero_le _, (show R.allPages (P.take 0) = true by simp [R.allPages]), S0, B0⟩
  case round =>
    obtain ⟨t, rfl, ht, hok, hS, hb⟩ := hrel
    have hsz : w.heap.size ≤ wr.heap.size := hb.out.size
    by_cases hlt : t < n
    · have htl : t < P.length := by have := HL.out; omega
      have hp : P[t]? = some P[t] := by simp [htl]
      obtain ⟨b, o, d, k, m, rfl, hbl, hcell, hin, -⟩ := (HI.out.keep hb.out).at hp
      have hkn : k ≤ 1000000000000 := by
        have h1 := flat_mem P t htl
        rw [hin.1, ← HN.out] at h1
        omega
      have hxl : ((P.take t).flatMap R.pageTxt).length ≤ 218000000000 := by
        have h2 := txt_len (P.take t)
        rw [List.length_take] at h2
        omega
      have HXL := Lib.hid hxl
      have HNX := Lib.hid (txt_step P t htl)
      have HTK := Lib.hid (R.allPages_take htl)
      have HBAD := Lib.hid (R.allPages_bad t htl)
      obtain ⟨p, hpp⟩ : ∃ p, p = P[t] := ⟨_, rfl⟩
      rw [← hpp] at hin HNX HTK HBAD
      have bx := (Below.refl wr.heap.size wr).alloc (Nat.le_refl _) (.cells #[.slice d k m] 41)
      have IX := Lib.hid (hin.keep bx)
      have SX := Lib.hid (isb_keep hS.out bx)
      have BX := Lib.hid (hb.out.trans (bx.mono hsz))
      have CX := Lib.hid (heap_alloc_new wr (.cells #[.slice d k m] 41))
      have hlx : wr.heap.size < (wr.alloc (.cells #[.slice d k m] 41)).heap.size := by simp
      clear hin hp hpp bx hxl
      go_wp2_with fail
      refine (ivalidpage d k m p _ IX.out hkn).mono ?_
      rintro e w1 ⟨rfl, b1⟩
      have B1 := Lib.hid (BX.out.trans (b1.mono BX.out.size))
      have I1 := Lib.hid (IX.out.keep b1)
      have S1 := Lib.hid (isb_keep SX.out b1)
      have q1 := (b1.block _ hlx).trans CX.out
      have c1 : w1.cell? ⟨wr.heap.size, 0, none⟩ = some (.slice d k m) := by simp [World.cell?, q1]
      clear b1 q1
      cases hv : R.pageOk p with
      | false =>
        have HF := Lib.hid (show R.fmtPages P = [] by unfold R.fmtPages; rw [HBAD.out hv]; rfl)
        clear hv
        go_wp2_with fail
        go_ret
        exact ⟨by rw [HF.out]; rfl, B1.out⟩
      | true =>
        have HV := Lib.hid hv
        clear hv
        go_wp2_with fail
        refine (ifrows d k m p _ (rows_in I1.out) hkn (HT.out.stay B1.out)).mono ?_
        rintro e w2 ⟨rfl, b2⟩
        have B2 := Lib.hid (B1.out.trans (b2.mono B1.out.size))
        have S2 := Lib.hid (isb_keep S1.out b2)
        have hpl := fmtRows_length p
        obtain ⟨z, hz⟩ : ∃ z, z = fmtRows p := ⟨_, rfl⟩
        rw [← hz] at HNX hpl ⊢
        clear b2 hz
        have n1 : ¬ 9223372036854775807 < 1 + z.length := by omega
        have n2 : ¬ 9223372036854775807 < 1 + z.length + 1 := by omega
        go_wp2_with fail
        rw [txt_page]
        have hsl : (⟨(91 :: (z ++ [93])).toArray⟩ : ByteArray).size = z.length + 2 := by simp [ByteArray.size]
        refine (writestr w.heap.size w.heap.size _ ⟨(91 :: (z ++ [93])).toArray⟩ w2 S2.out (by rw [hsl, Lib.byteCells_length]; have := HXL.out; omega) B2.out.size).mono ?_
        rintro e w3 ⟨rfl, hS3, b3⟩
        rw [strcells, bytecells_app, ← HNX.out] at hS3
        have S3 := Lib.hid hS3
        have B3 := Lib.hid (B2.out.trans b3)
        clear hS3 b3 hsl
        go_wp2_with fail
        go_roundw
        case rel => exact ⟨t + 1, by go_num, by omega, (by show _ = _; rw [HTK.out, hok.out, HV.out]; rfl), S3, B3⟩
        case measure => simp [RowKit.intOf]; omega
    · have hkl : t = n := by omega
      have htk : P.take t = P := by rw [hkl, List.take_of_length_le (by have := HL.out; omega)]
      rw [htk] at hok hS
      have HF := Lib.hid (show R.fmtPages P = P.flatMap R.pageTxt by unfold R.fmtPages; rw [if_pos hok.out])
      clear hkl htk
      go_wp2_with fail
      refine (buildstr w.heap.size w.heap.size _ wr hS.out hsz).mono ?_
      rintro e w1 ⟨rfl, b1⟩
      have B1 := Lib.hid (hb.out.trans b1)
      clear b1
      go_wp2_with fail
      go_ret
      exact ⟨by rw [HF.out]; rfl, B1.out⟩
end Go.Proofs.YtlnjgoommpeioaaDoor
/- The program's FormatPages told by trees. -/
namespace Go.Proofs.YtlnjgoommpeioaaDoor
open Go Go.RowKit V
set_option linter.unusedVariables false
theorem vfpages_i (P : List (List R)) (hP : ∀ p ∈ P, goodPage p) (hn : P.length ≤ 1000000000) (hf : P.flatten.length ≤ 1000000000000) : VCD Tryd.prog 117 [(false, [.seq 41 (P.map tPage)])] false [(false, [.lit (.string ⟨(R.fmtPages P).toArray⟩)])] := fun w hT =>
  VC.shape1At (Fits.slice 41 fitsPage) hP (ag := false) rfl fun k h => by
    have e : k.2.1 = P.length := h.1.1.symm
    exact ifpages k.1 k.2.1 k.2.2 P w h.1 (by omega) hf hT
end Go.Proofs.YtlnjgoommpeioaaDoor
/- The program's SealFile: told by trees. -/
namespace Go.Proofs.YtlnjgoommpeioaaDoor
open Go Go.RowKit V
set_option linter.unusedVariables false
theorem vck_i (l : List UInt8) (hl : l.length ≤ 1000000000000) : VC Tryd.prog 116 [(false, [.lit (.string ⟨l.toArray⟩)])] false [(false, [.lit (.int .i64 ((ck l : Nat) : Int))])] :=
  VC.plain (ins := [(false, [.string ⟨l.toArray⟩])]) (ag := false) (rs := [.int .i64 ((ck l : Nat) : Int)]) (fun u hu => by rw [List.mem_singleton.1 hu]; rfl) (fun w => (icheck ⟨l.toArray⟩ w (by show l.toArray.size ≤ _; simpa using hl)).mono fun e w' ⟨he, hw⟩ => ⟨he, hw ▸ Below.refl _ _⟩)
set_option maxRecDepth 100000 in
set_option maxHeartbeats 2000000 in
theorem vcksp_i (P : List (List R)) (hP : ∀ p ∈ P, goodPage p) (hn : P.length ≤ 1000000000) (hw : wtPages P ≤ 1000000000) (hK : (R.fmtPages P).length ≤ 1000000000000) : VCD Tryd.prog 71 [(false, [.seq 41 (P.map tPage)])] false [(false, [.lit (.int .i64 ((ck (R.fmtPages P) : Nat) : Int))])] := by
  refine VCD.enter Tryd.func71 rfl Tryd.ntmps71 (Nat.le_of_ble_eq_true rfl) fun E hE hD => ?_
  refine SV.seq' ?_
  refine SV.region ?_
  refine SV.op (OpL.ok (nb := 0) (ok_move (v := V.one (.sc _)) (.inr rfl) rfl) rfl (Nat.le_of_ble_eq_true rfl)) rfl ?_
  refine SV.nil ?_
  refine SV.tn ?_
  refine SV.seq' ?_
  refine SV.region ?_
  refine SV.op (OpL.ok (nb := 0) (ok_move (v := V.one (.ro _)) (.inl rfl) rfl) rfl (Nat.le_of_ble_eq_true rfl)) rfl ?_
  refine SV.op (OpMk.ok (ok_callD (ls := [(false, [.sc _])]) hD rfl rfl ⟨_, _, Tryd.func117, rfl, by decide⟩ (vfpages_i P hP hn (by have := flat_wt P; omega)) ⟨⟨[.ro _], rfl, ⟨rfl, trivial⟩⟩, trivial⟩ rfl (Nat.le_of_ble_eq_true rfl))) rfl ?_
  refine SV.op (OpMk.ok (ok_call (ls := [(false, [.sc _])]) rfl rfl ⟨_, _, Tryd.func116, rfl, by decide⟩ (vck_i (R.fmtPages P) hK) ⟨⟨[.sc _], rfl, ⟨rfl, trivial⟩⟩, trivial⟩ rfl (Nat.le_of_ble_eq_true rfl))) rfl ?_
  refine SV.op (OpL.ok (nb := 0) (ok_move (v := V.one (.sc _)) (.inr rfl) rfl) rfl (Nat.le_of_ble_eq_true rfl)) rfl ?_
  refine SV.nil ?_
  refine SV.tn ?_
  refine SV.ret ?_
  apply SV.done (hf := Tryd.results71) (ht := rfl) (he := .inl rfl)
  case hr => exact (ResAll.cons (ResOk.tmp (ag := false) (xs := [.sc _]) rfl) ResAll.nil')
  case h2 => simp [two]
  refine ⟨rfl, ⟨?_, trivial⟩, trivial⟩ <;> rfl
set_option maxRecDepth 100000 in
set_option maxHeartbeats 2000000 in
theorem vseal_i0 (X : DiskD) (name : Int) (hX : goodDisk X) (hL : wtDisk X ≤ 1000000000) (hf : DiskD.file X name = none) : VCD Tryd.prog 21 [(true, tDisk X), (false, [.lit (.int .i64 (name))])] true [(true, tDisk ((DiskD.sealF X name).getD X)), (false, [.lit (.bool (DiskD.sealF X name).isSome)])] := by
  refine VCD.enter Tryd.func21 rfl Tryd.ntmps21 (Nat.le_of_ble_eq_true rfl) fun E hE hD => ?_
  have ho : DiskD.sealF X name = none := DiskD.sealF_none hf
  have hv := vfind_i X name hX hL
  rw [hf] at hv
  refine SV.seq' ?_
  refine SV.region ?_
  refine SV.op (OpMk.ok (ok_box (kk := 0) (ag := true) (xs := [.ro _, .sc _]) rfl rfl rfl (fun h => by cases h) rfl rfl (Nat.le_of_ble_eq_true rfl))) rfl ?_
  refine SV.op (OpMk.ok (ok_alloc (kk := 1) (xs := [.nl _, .sc _]) rfl rfl zero_impl_Disk ⟨rfl, ⟨4, by decide, sz_impl_File⟩, rfl, rfl, trivial⟩ rfl (Nat.le_of_ble_eq_true rfl))) rfl ?_
  refine SV.op (OpL.ok (nb := 2) (ok_move (v := V.one (.sc _)) (.inr rfl) rfl) rfl (Nat.le_of_ble_eq_true rfl)) rfl ?_
  refine SV.nil ?_
  refine SV.tn ?_
  refine SV.seq' ?_
  refine SV.region ?_
  refine SV.op (OpL.ok (nb := 2) (ok_load_bp (b := 0) (i := 0) (ag := true) (m := 2) (ys := [.ro _, .sc _]) rfl rfl rfl agg_impl_Disk sz_impl_Disk (fun h => by cases h) rfl rfl (Nat.le_of_ble_eq_true rfl)) rfl (Nat.le_of_ble_eq_true rfl)) rfl ?_
  refine SV.op (OpMk.ok (ok_call (ls := [(true, [.hd 0, .sc _])]) rfl rfl ⟨_, _, Tryd.func55, rfl, by decide⟩ (vclonedisk_i X hL) ⟨⟨[.ro _, .sc _], rfl, ⟨rfl, rfl, trivial⟩⟩, trivial⟩ rfl (Nat.le_of_ble_eq_true rfl))) rfl ?_
  refine SV.op (OpMk.ok (ok_alloc (kk := 2) (xs := [.nl _, .sc _]) rfl rfl zero_impl_Disk ⟨rfl, ⟨4, by decide, sz_impl_File⟩, rfl, rfl, trivial⟩ rfl (Nat.le_of_ble_eq_true rfl))) rfl ?_
  refine SV.op (ok_store_bp (b := 2) (i := 0) (m := 2) (ag := true) (zs := [.hd 0, .sc _]) (ys := [.hd 0, .sc _]) rfl rfl rfl rfl sz_impl_Disk (fun h => by cases h) rfl (Nat.le_of_ble_eq_true rfl) rfl rfl rfl) rfl ?_
  refine SV.nil ?_
  refine SV.tn ?_
  refine SV.seq' ?_
  refine SV.region ?_
  refine SV.op (OpL.ok (nb := 3) (ok_load_bp (b := 2) (i := 0) (ag := true) (m := 2) (ys := [.hd 0, .sc _]) rfl rfl rfl agg_impl_Disk sz_impl_Disk (fun h => by cases h) rfl rfl (Nat.le_of_ble_eq_true rfl)) rfl (Nat.le_of_ble_eq_true rfl)) rfl ?_
  refine SV.op (OpL.ok (nb := 3) (ok_move (v := V.one (.sc _)) (.inl rfl) rfl) rfl (Nat.le_of_ble_eq_true rfl)) rfl ?_
  refine SV.op (OpMk.ok (ok_callPt0 rfl ⟨_, _, Tryd.func63, rfl, by decide⟩ (hv) ⟨⟨[.hd 0, .sc _], rfl, ⟨rfl, rfl, trivial⟩⟩, ⟨[.sc _], rfl, ⟨rfl, trivial⟩⟩, trivial⟩ rfl (Nat.le_of_ble_eq_true rfl))) rfl ?_
  refine SV.op (OpL.ok (nb := 3) (ok_move (v := ⟨true, [(false, [.sc _]), (false, [.sc _])]⟩) (.inl rfl) rfl) rfl (Nat.le_of_ble_eq_true rfl)) rfl ?_
  refine SV.op (OpL.ok (nb := 3) (ok_extract (ag := false) (xs := [.sc _]) rfl rfl rfl) rfl (Nat.le_of_ble_eq_true rfl)) rfl ?_
  refine SV.op (OpL.ok (nb := 3) (ok_extract (ag := false) (xs := [.sc _]) rfl rfl rfl) rfl (Nat.le_of_ble_eq_true rfl)) rfl ?_
  refine SV.op (OpL.ok (nb := 3) (ok_move (v := V.one (.sc _)) (.inr rfl) rfl) rfl (Nat.le_of_ble_eq_true rfl)) rfl ?_
  refine SV.op (OpL.ok (nb := 3) (ok_move (v := V.one (.sc _)) (.inr rfl) rfl) rfl (Nat.le_of_ble_eq_true rfl)) rfl ?_
  refine SV.nil ?_
  refine SV.tn ?_
  refine SV.seq' ?_
  refine SV.seq' ?_
  refine SV.region ?_
  refine SV.op (OpL.ok (nb := 3) (ok_move (v := V.one (.sc _)) (.inl rfl) rfl) rfl (Nat.le_of_ble_eq_true rfl)) rfl ?_
  refine SV.op (OpL.ok (nb := 3) (ok_s1 (x := .tmp 17) (VScal.one rfl) (fun ρ h1 w => by go_simp; (try go_bits); with_reducible rfl) rfl) rfl (Nat.le_of_ble_eq_true rfl)) rfl ?_
  refine SV.op (OpL.ok (nb := 3) (ok_move (v := V.one (.sc _)) (.inl rfl) rfl) rfl (Nat.le_of_ble_eq_true rfl)) rfl ?_
  refine SV.split (d := 19) rfl (fun hg0 => ?_) (fun hg0 => ?_)
  · skip   -- g0.T
    refine SV.opN rfl rfl rfl (Nat.le_of_ble_eq_true rfl) rfl rfl rfl (Nat.le_of_ble_eq_true rfl) ?_
    refine SV.opN rfl rfl rfl (Nat.le_of_ble_eq_true rfl) rfl rfl rfl (Nat.le_of_ble_eq_true rfl) ?_
    refine SV.opN rfl rfl rfl (Nat.le_of_ble_eq_true rfl) rfl rfl rfl (Nat.le_of_ble_eq_true rfl) ?_
    refine SV.opN rfl rfl rfl (Nat.le_of_ble_eq_true rfl) rfl rfl rfl (Nat.le_of_ble_eq_true rfl) ?_
    refine SV.op (OpL.ok (nb := 3) (ok_pickT (v := V.one (.sc _)) rfl rfl rfl) rfl (Nat.le_of_ble_eq_true rfl)) rfl ?_
    refine SV.nil ?_
    refine SV.tn ?_
    refine SV.cond rfl (fun hc0 => ?_) (fun hc0 => ?_)
    · skip   -- c0.T
      refine SV.seq' ?_
      refine SV.region ?_
      refine SV.op (OpL.ok (nb := 3) (ok_load_bp (b := 2) (i := 0) (ag := true) (m := 2) (ys := [.hd 0, .sc _]) rfl rfl rfl agg_impl_Disk sz_impl_Disk (fun h => by cases h) rfl rfl (Nat.le_of_ble_eq_true rfl)) rfl (Nat.le_of_ble_eq_true rfl)) rfl ?_
      refine SV.op (ok_store_bp (b := 1) (i := 0) (m := 2) (ag := true) (zs := [.hd 0, .sc _]) (ys := [.hd 0, .sc _]) rfl rfl rfl rfl sz_impl_Disk (fun h => by cases h) rfl (Nat.le_of_ble_eq_true rfl) rfl rfl rfl) rfl ?_
      refine SV.op (OpL.ok (nb := 3) (ok_move (v := V.one (.sc _)) (.inr rfl) rfl) rfl (Nat.le_of_ble_eq_true rfl)) rfl ?_
      refine SV.nil ?_
      refine SV.tn ?_
      refine SV.ret ?_
      refine SV.tr ?_
      apply SV.done (hf := Tryd.results21) (ht := rfl) (he := .inl rfl)
      case hr => exact (ResAll.cons (ResOk.cell (b := 1) (ag := true) (xs := [.hd 0, .sc _]) rfl rfl agg_impl_Disk sz_impl_Disk (fun h => by cases h)) (ResAll.cons (ResOk.tmp (ag := false) (xs := [.sc _]) rfl) ResAll.nil'))
      case h2 => simp [two]
      refine ⟨rfl, ⟨?_, ?_, trivial⟩, ⟨rfl, ⟨?_, trivial⟩, trivial⟩⟩ <;> (rw [ho]; rfl)
    · skip   -- c0.F
      cases hc0
  · skip   -- g0.F
    simp at hg0
set_option maxRecDepth 100000 in
set_option maxHeartbeats 2000000 in
theorem vseal_i1 (X : DiskD) (name : Int) (k : Nat) (f : FileD) (hX : goodDisk X) (hL : wtDisk X ≤ 1000000000) (hf : DiskD.file X name = some (k, f)) (hx : X.fFiles[k]? = some f) : VCD Tryd.prog 21 [(true, tDisk X), (false, [.lit (.int .i64 (name))])] true [(true, tDisk ((DiskD.sealF X name).getD X)), (false, [.lit (.bool (DiskD.sealF X name).isSome)])] := by
  refine VCD.enter Tryd.func21 rfl Tryd.ntmps21 (Nat.le_of_ble_eq_true rfl) fun E hE hD => ?_
  have hv := vfind_i X name hX hL
  rw [hf] at hv
  have hs := DiskD.sealF_eq hf
  have hkl : k < X.fFiles.length := get_lt hx
  have hP := (hX.1 f (get_mem hx)).2.1
  have hw1 : wtPages f.fPages ≤ wtDisk X := by
    have h4 := wt_file_at X.fFiles k hkl
    have h5 : X.fFiles[k] = f := by have := hx; rw [List.getElem?_eq_getElem hkl] at this; exact Option.some.inj this
    rw [h5] at h4; exact h4
  have hw2 := wt_page_len f.fPages
  have hK : (R.fmtPages f.fPages).length ≤ 1000000000000 := by have := fmtPages_len f.fPages; omega
  refine SV.seq' ?_
  refine SV.region ?_
  refine SV.op (OpMk.ok (ok_box (kk := 0) (ag := true) (xs := [.ro _, .sc _]) rfl rfl rfl (fun h => by cases h) rfl rfl (Nat.le_of_ble_eq_true rfl))) rfl ?_
  refine SV.op (OpMk.ok (ok_alloc (kk := 1) (xs := [.nl _, .sc _]) rfl rfl zero_impl_Disk ⟨rfl, ⟨4, by decide, sz_impl_File⟩, rfl, rfl, trivial⟩ rfl (Nat.le_of_ble_eq_true rfl))) rfl ?_
  refine SV.op (OpL.ok (nb := 2) (ok_move (v := V.one (.sc _)) (.inr rfl) rfl) rfl (Nat.le_of_ble_eq_true rfl)) rfl ?_
  refine SV.nil ?_
  refine SV.tn ?_
  refine SV.seq' ?_
  refine SV.region ?_
  refine SV.op (OpL.ok (nb := 2) (ok_load_bp (b := 0) (i := 0) (ag := true) (m := 2) (ys := [.ro _, .sc _]) rfl rfl rfl agg_impl_Disk sz_impl_Disk (fun h => by cases h) rfl rfl (Nat.le_of_ble_eq_true rfl)) rfl (Nat.le_of_ble_eq_true rfl)) rfl ?_
  refine SV.op (OpMk.ok (ok_call (ls := [(true, [.hd 0, .sc _])]) rfl rfl ⟨_, _, Tryd.func55, rfl, by decide⟩ (vclonedisk_i X hL) ⟨⟨[.ro _, .sc _], rfl, ⟨rfl, rfl, trivial⟩⟩, trivial⟩ rfl (Nat.le_of_ble_eq_true rfl))) rfl ?_
  refine SV.op (OpMk.ok (ok_alloc (kk := 2) (xs := [.nl _, .sc _]) rfl rfl zero_impl_Disk ⟨rfl, ⟨4, by decide, sz_impl_File⟩, rfl, rfl, trivial⟩ rfl (Nat.le_of_ble_eq_true rfl))) rfl ?_
  refine SV.op (ok_store_bp (b := 2) (i := 0) (m := 2) (ag := true) (zs := [.hd 0, .sc _]) (ys := [.hd 0, .sc _]) rfl rfl rfl rfl sz_impl_Disk (fun h => by cases h) rfl (Nat.le_of_ble_eq_true rfl) rfl rfl rfl) rfl ?_
  refine SV.nil ?_
  refine SV.tn ?_
  refine SV.seq' ?_
  refine SV.region ?_
  refine SV.op (OpL.ok (nb := 3) (ok_load_bp (b := 2) (i := 0) (ag := true) (m := 2) (ys := [.hd 0, .sc _]) rfl rfl rfl agg_impl_Disk sz_impl_Disk (fun h => by cases h) rfl rfl (Nat.le_of_ble_eq_true rfl)) rfl (Nat.le_of_ble_eq_true rfl)) rfl ?_
  refine SV.op (OpL.ok (nb := 3) (ok_move (v := V.one (.sc _)) (.inl rfl) rfl) rfl (Nat.le_of_ble_eq_true rfl)) rfl ?_
  refine SV.op (OpMk.ok (ok_callPt (i := 0) rfl ⟨_, _, Tryd.func63, rfl, by decide⟩ (hv) ⟨⟨[.hd 0, .sc _], rfl, ⟨rfl, rfl, trivial⟩⟩, ⟨[.sc _], rfl, ⟨rfl, trivial⟩⟩, trivial⟩ rfl rfl (by rw [List.length_map]; exact hkl) rfl (Nat.le_of_ble_eq_true rfl))) rfl ?_
  refine SV.op (OpL.ok (nb := 3) (ok_move (v := ⟨true, [(false, [.ep 0 _ _ _]), (false, [.sc _])]⟩) (.inl rfl) rfl) rfl (Nat.le_of_ble_eq_true rfl)) rfl ?_
  refine SV.op (OpL.ok (nb := 3) (ok_extract (ag := false) (xs := [.ep 0 _ _ _]) rfl rfl rfl) rfl (Nat.le_of_ble_eq_true rfl)) rfl ?_
  refine SV.op (OpL.ok (nb := 3) (ok_extract (ag := false) (xs := [.sc _]) rfl rfl rfl) rfl (Nat.le_of_ble_eq_true rfl)) rfl ?_
  refine SV.op (OpL.ok (nb := 3) (ok_move (v := V.one (.ep 0 _ _ _)) (.inr rfl) rfl) rfl (Nat.le_of_ble_eq_true rfl)) rfl ?_
  refine SV.op (OpL.ok (nb := 3) (ok_move (v := V.one (.sc _)) (.inr rfl) rfl) rfl (Nat.le_of_ble_eq_true rfl)) rfl ?_
  refine SV.nil ?_
  refine SV.tn ?_
  refine SV.seq' ?_
  refine SV.seq' ?_
  refine SV.region ?_
  refine SV.op (OpL.ok (nb := 3) (ok_move (v := V.one (.sc _)) (.inl rfl) rfl) rfl (Nat.le_of_ble_eq_true rfl)) rfl ?_
  refine SV.op (OpL.ok (nb := 3) (ok_s1 (x := .tmp 17) (VScal.one rfl) (fun ρ h1 w => by go_simp; (try go_bits); with_reducible rfl) rfl) rfl (Nat.le_of_ble_eq_true rfl)) rfl ?_
  refine SV.op (OpL.ok (nb := 3) (ok_move (v := V.one (.sc _)) (.inl rfl) rfl) rfl (Nat.le_of_ble_eq_true rfl)) rfl ?_
  refine SV.split (d := 19) rfl (fun hg0 => ?_) (fun hg0 => ?_)
  · skip   -- g0.T
    simp at hg0
  · skip   -- g0.F
    refine SV.opY (OpL.ok (nb := 3) (ok_move (v := V.one (.ep 0 _ _ _)) (.inl rfl) rfl) rfl (Nat.le_of_ble_eq_true rfl)) rfl rfl rfl (Nat.le_of_ble_eq_true rfl) rfl rfl ?_
    refine SV.opY (OpL.ok (nb := 3) (ok_nilcheck rfl rfl) rfl (Nat.le_of_ble_eq_true rfl)) rfl rfl rfl (Nat.le_of_ble_eq_true rfl) rfl rfl ?_
    refine SV.opY (OpL.ok (nb := 3) (ok_field_el (p := .ep 0 _ _ _) (off := 3) rfl rfl (cells_ep rfl (map_at (by assumption)) rfl rfl) fld_impl_File_3) rfl (Nat.le_of_ble_eq_true rfl)) rfl rfl rfl (Nat.le_of_ble_eq_true rfl) rfl rfl ?_
    refine SV.opY (ok_load_el (p := .ep 0 _ _ _) (ag := false) (m := 1) (ys := [.sc _]) rfl rfl (cells_ep rfl (map_at (by assumption)) rfl rfl) agg_bool sz_bool (fun _ => rfl) (Nat.le_of_ble_eq_true rfl) rfl rfl (Nat.le_of_ble_eq_true rfl)) rfl rfl rfl (Nat.le_of_ble_eq_true rfl) rfl rfl ?_
    refine SV.op (OpL.ok (nb := 3) (ok_pickF (v := V.one (.sc _)) rfl rfl rfl) rfl (Nat.le_of_ble_eq_true rfl)) rfl ?_
    refine SV.nil ?_
    refine SV.tn ?_
    refine SV.cond rfl (fun hc0 => ?_) (fun hc0 => ?_)
    · skip   -- c0.T
      have ho : DiskD.sealF X name = none := by rw [hs, if_pos (by simpa using hc0)]
      refine SV.seq' ?_
      refine SV.region ?_
      refine SV.op (OpL.ok (nb := 3) (ok_load_bp (b := 2) (i := 0) (ag := true) (m := 2) (ys := [.hd 0, .sc _]) rfl rfl rfl agg_impl_Disk sz_impl_Disk (fun h => by cases h) rfl rfl (Nat.le_of_ble_eq_true rfl)) rfl (Nat.le_of_ble_eq_true rfl)) rfl ?_
      refine SV.op (ok_store_bp (b := 1) (i := 0) (m := 2) (ag := true) (zs := [.hd 0, .sc _]) (ys := [.hd 0, .sc _]) rfl rfl rfl rfl sz_impl_Disk (fun h => by cases h) rfl (Nat.le_of_ble_eq_true rfl) rfl rfl rfl) rfl ?_
      refine SV.op (OpL.ok (nb := 3) (ok_move (v := V.one (.sc _)) (.inr rfl) rfl) rfl (Nat.le_of_ble_eq_true rfl)) rfl ?_
      refine SV.nil ?_
      refine SV.tn ?_
      refine SV.ret ?_
      refine SV.tr ?_
      apply SV.done (hf := Tryd.results21) (ht := rfl) (he := .inl rfl)
      case hr => exact (ResAll.cons (ResOk.cell (b := 1) (ag := true) (xs := [.hd 0, .sc _]) rfl rfl agg_impl_Disk sz_impl_Disk (fun h => by cases h)) (ResAll.cons (ResOk.tmp (ag := false) (xs := [.sc _]) rfl) ResAll.nil'))
      case h2 => simp [two]
      refine ⟨rfl, ⟨?_, ?_, trivial⟩, ⟨rfl, ⟨?_, trivial⟩, trivial⟩⟩ <;> (rw [ho]; first | rfl | (show some (T.seq _ _) = some (T.seq _ _); simp [tFile, List.map_set]; done))
    · skip   -- c0.F
      have ho := hs.trans (if_neg (by simpa using hc0))
      refine SV.skip ?_
      refine SV.tn ?_
      refine SV.seq' ?_
      refine SV.region ?_
      refine SV.op (OpL.ok (nb := 3) (ok_move (v := V.one (.ep 0 _ _ _)) (.inl rfl) rfl) rfl (Nat.le_of_ble_eq_true rfl)) rfl ?_
      refine SV.op (OpL.ok (nb := 3) (ok_move (v := V.one (.ep 0 _ _ _)) (.inl rfl) rfl) rfl (Nat.le_of_ble_eq_true rfl)) rfl ?_
      refine SV.op (OpL.ok (nb := 3) (ok_nilcheck rfl rfl) rfl (Nat.le_of_ble_eq_true rfl)) rfl ?_
      refine SV.op (OpL.ok (nb := 3) (ok_field_el (p := .ep 0 _ _ _) (off := 1) rfl rfl (cells_ep rfl (map_at (by assumption)) rfl rfl) fld_impl_File_1) rfl (Nat.le_of_ble_eq_true rfl)) rfl ?_
      refine SV.op (ok_load_el (p := .ep 0 _ _ _) (ag := false) (m := 1) (ys := [.nd 0 _ _ (some _)]) rfl rfl (cells_ep rfl (map_at (by assumption)) rfl rfl) agg_s_impl_Page sz_s_impl_Page (fun _ => rfl) (Nat.le_of_ble_eq_true rfl) rfl rfl (Nat.le_of_ble_eq_true rfl)) rfl ?_
      refine SV.op (OpMk.ok (ok_callD (ls := [(false, [.sc _])]) hD rfl rfl ⟨_, _, Tryd.func71, rfl, by decide⟩ (vcksp_i f.fPages hP (by omega) (by omega) hK) ⟨⟨[.nd 0 _ _ (some _)], rfl, ⟨rfl, trivial⟩⟩, trivial⟩ rfl (Nat.le_of_ble_eq_true rfl))) rfl ?_
      refine SV.op (OpL.ok (nb := 3) (ok_nilcheck rfl rfl) rfl (Nat.le_of_ble_eq_true rfl)) rfl ?_
      refine SV.op (OpL.ok (nb := 3) (ok_field_el (p := .ep 0 _ _ _) (off := 2) rfl rfl (cells_ep rfl (map_at (by assumption)) rfl rfl) fld_impl_File_2) rfl (Nat.le_of_ble_eq_true rfl)) rfl ?_
      refine SV.op (ok_store_ep (i := 0) (n := 4) (m := 1) (ag := false) (zs := [.sc _]) rfl rfl rfl rfl (map_at (by assumption)) sz_int (fun _ => rfl) rfl sz_impl_File (Nat.le_of_ble_eq_true rfl) (outs_c rfl outs_n) (by simp [two]) rfl rfl rfl) rfl ?_
      refine SV.nil ?_
      refine SV.tn ?_
      refine SV.seq' ?_
      refine SV.region ?_
      refine SV.op (OpL.ok (nb := 3) (ok_move (v := V.one (.ep 0 _ _ _)) (.inl rfl) rfl) rfl (Nat.le_of_ble_eq_true rfl)) rfl ?_
      refine SV.op (OpL.ok (nb := 3) (ok_nilcheck rfl rfl) rfl (Nat.le_of_ble_eq_true rfl)) rfl ?_
      refine SV.op (OpL.ok (nb := 3) (ok_field_el (p := .ep 0 _ _ _) (off := 3) rfl rfl (cells_ep rfl (set_self (by rw [List.length_map]; exact hkl)) rfl rfl) fld_impl_File_3) rfl (Nat.le_of_ble_eq_true rfl)) rfl ?_
      refine SV.op (ok_store_ep (i := 0) (n := 4) (m := 1) (ag := false) (zs := [.sc _]) rfl rfl rfl rfl (set_self (by rw [List.length_map]; exact hkl)) sz_bool (fun _ => rfl) rfl sz_impl_File (Nat.le_of_ble_eq_true rfl) (outs_c rfl outs_n) (by simp [two]) rfl (set_twice (by rfl)) rfl) rfl ?_
      refine SV.nil ?_
      refine SV.tn ?_
      refine SV.seq' ?_
      refine SV.region ?_
      refine SV.op (OpL.ok (nb := 3) (ok_load_bp (b := 2) (i := 0) (ag := true) (m := 2) (ys := [.hd 0, .sc _]) rfl rfl rfl agg_impl_Disk sz_impl_Disk (fun h => by cases h) rfl rfl (Nat.le_of_ble_eq_true rfl)) rfl (Nat.le_of_ble_eq_true rfl)) rfl ?_
      refine SV.op (ok_store_bp (b := 1) (i := 0) (m := 2) (ag := true) (zs := [.hd 0, .sc _]) (ys := [.hd 0, .sc _]) rfl rfl rfl rfl sz_impl_Disk (fun h => by cases h) rfl (Nat.le_of_ble_eq_true rfl) rfl rfl rfl) rfl ?_
      refine SV.op (OpL.ok (nb := 3) (ok_move (v := V.one (.sc _)) (.inr rfl) rfl) rfl (Nat.le_of_ble_eq_true rfl)) rfl ?_
      refine SV.nil ?_
      refine SV.tn ?_
      refine SV.ret ?_
      apply SV.done (hf := Tryd.results21) (ht := rfl) (he := .inl rfl)
      case hr => exact (ResAll.cons (ResOk.cell (b := 1) (ag := true) (xs := [.hd 0, .sc _]) rfl rfl agg_impl_Disk sz_impl_Disk (fun h => by cases h)) (ResAll.cons (ResOk.tmp (ag := false) (xs := [.sc _]) rfl) ResAll.nil'))
      case h2 => simp [two]
      refine ⟨rfl, ⟨?_, ?_, trivial⟩, ⟨rfl, ⟨?_, trivial⟩, trivial⟩⟩ <;> (rw [ho]; first | rfl | (show some (T.seq _ _) = some (T.seq _ _); simp [tFile, List.map_set]; done))
end Go.Proofs.YtlnjgoommpeioaaDoor
/- Calls that yield the address of an element of a slice that may only be read: told by trees. -/
namespace Go.Proofs.YtlnjgoommpeioaaDoor.V
open Go Go.RowKit
set_option linter.unusedVariables false
variable {P : Program} {E : Env} {N nb : Nat} {σ : VS} {o : Oper} {w : World} {G : Ghost}
theorem ok_callPtR {d : Nat} {f : FuncId} {x0 : Operand} {xs : List Operand} {ats : Array TypeId} {qs : List (Bool × List T)} {n k : Nat} {ls : List Leaf} {ty : TypeId} {es : List (List T)} {e : List T} (ho : o.op = .call { callee := .value (.func f), args := (x0 :: xs).toArray, argTypes := ats }) (hb : ∃ fn c, P.funcs[f]? = some fn ∧ fn.body = some c ∧ fn.name ≠ "runtime.NumGoroutine")
    (hc : VPt P f qs n (some k)) (hx : σ.argss (x0 :: xs) qs) (h0 : σ.ev x0 = V.flat true (.ro (.seq ty es) :: ls)) (hz : Sz ty n) (he : es[k]? = some e) (hd : o.dst = some d) (hdN : d < N) : OpMk P E N none σ o (σ.put d ⟨true, [(false, [.rp e]), (false, [.sc (.bool true)])]⟩) :=
  fun a w G K Q h kk => by
    obtain ⟨fn, c, h1, h2, h2'⟩ := hb
    have hcall := hc w ((x0 :: xs).map a.eval) (h.args hx)
    have hrun : (execOp a.eval o).run P w = .ok (.enter f ((x0 :: xs).map a.eval).toArray) w := by
      simp [execOp, ho, resolve, Act.eval, Deferred.ofValue, invoke, callFunc, h1, h2, h2', Result.andThen]
    have hev := h.ev x0
    rw [h0, vflat] at hev
    obtain ⟨us, e1, e2, e3⟩ := hev
    obtain ⟨u0, hu0⟩ : ∃ u0, us[0]? = some u0 := ⟨us[0]'(by rw [e2]; simp), List.getElem?_eq_getElem _⟩
    obtain ⟨hi, -⟩ := e3 0 _ u0 rfl hu0
    have hi' : Inn E.old w (.seq ty es) u0 := hi
    cases hi' with
    | @seq ty es ad c n' hp hz' hn hc' hm ha0 b o' us' ha hb hcell hr =>
      have hnn := hz'.eq hz
      subst hnn
      have hkl := get_lt he
      have hne : es ≠ [] := fun hh => by rw [hh] at he; simp at he
      have had : ad = some ⟨b, o', none⟩ := by
        cases had : ad with
        | none => have := ha0 had; omega
        | some y => rw [ha y had hne]
      subst had
      unfold Oper.wp
      rw [hrun]
      refine hcall.mono fun r w' ⟨h7, _, h5⟩ => ?_
      obtain rfl := h5 k rfl us b o' es.length c (by show some (a.eval x0) = _; rw [e1]) hu0
      rw [hd]
      refine kk _ _ G ((h.ext h7).put hdN (vtwo ⟨⟨b, o' + k * n', fun j => us' (k * n' + j), rfl, (hb hne).1, fun j t hj => ⟨?_, ?_⟩⟩, .inr rfl⟩ ⟨rfl, .inr rfl⟩)) ⟨h7.size, .of_below (h7.mono h.low), fun _ _ => rfl, fun _ _ => rfl, fun b hb => .inl (h7.block b hb), fun i e1 e2 => absurd e2 (Nat.not_lt.2 e1)⟩
      · rw [Nat.add_assoc]
        exact (h7.cell (hb hne).2).trans (hcell k e j t he hj)
      · exact (hr k e j t he hj).frame h7.size fun b hb hb' => ⟨hb, h7.block b hb'⟩
theorem ok_nilcheckR {x : Operand} {es : List T} (ho : o.op = .nilCheck x) (hx : σ.ev x = V.one (.rp es)) : OpL P E N nb σ o (V.one (.rp es)) :=
  fun a w G h => ⟨a.eval x, fun v' _ => by
    have h0 := h.ev x
    rw [hx, vone] at h0
    obtain ⟨⟨b, q, us, h1, -⟩, -⟩ := h0
    simp [execOp, ho, h1], by rw [← hx]; exact h.ev x⟩
end Go.Proofs.YtlnjgoommpeioaaDoor.V
/- The program's ReadFile: told by trees. -/
namespace Go.Proofs.YtlnjgoommpeioaaDoor
open Go Go.RowKit V
set_option linter.unusedVariables false
set_option maxRecDepth 100000 in
set_option maxHeartbeats 2000000 in
theorem vwhole_i (x : FileD) (hP : ∀ p ∈ x.fPages, goodPage p) (hw : wtFile x ≤ 1000000000) : VCD Tryd.prog 64 [(true, tFile x)] false [(false, [.lit (.bool x.whole)])] := by
  refine VCD.enter Tryd.func64 rfl Tryd.ntmps64 (Nat.le_of_ble_eq_true rfl) fun E hE hD => ?_
  have hw1 : wtPages x.fPages ≤ 1000000000 := hw
  have hw2 := wt_page_len x.fPages
  have hK : (R.fmtPages x.fPages).length ≤ 1000000000000 := by have := fmtPages_len x.fPages; omega
  refine SV.seq' ?_
  refine SV.region ?_
  refine SV.op (OpMk.ok (ok_box (kk := 0) (ag := true) (xs := [.sc _, .ro _, .sc _, .sc _]) rfl rfl rfl (fun h => by cases h) rfl rfl (Nat.le_of_ble_eq_true rfl))) rfl ?_
  refine SV.op (OpL.ok (nb := 1) (ok_move (v := V.one (.sc _)) (.inr rfl) rfl) rfl (Nat.le_of_ble_eq_true rfl)) rfl ?_
  refine SV.nil ?_
  refine SV.tn ?_
  refine SV.seq' ?_
  refine SV.draw [.q 0, .q 1, .q 2, .q 3, .q 4, .q 5, .q 6, .m 7, .q 8, .q 9, .q 10] [] (by kernel_rfl) (by kernel_rfl) ?_
  refine DW.q rfl (ok_field_bp (b := 0) (o' := 0) (off := 3) rfl rfl fld_impl_File_3) rfl rfl (Nat.le_of_ble_eq_true rfl) (fun _ _ _ _ h => h) ?_
  refine DW.q rfl (ok_load_bp (b := 0) (i := 3) (ag := false) (m := 1) (ys := [.sc _]) rfl rfl rfl agg_bool sz_bool (fun _ => rfl) rfl rfl (Nat.le_of_ble_eq_true rfl)) rfl rfl (Nat.le_of_ble_eq_true rfl) (fun _ _ _ _ h => h) ?_
  refine DW.q rfl (ok_move (v := V.one (.sc _)) (.inl rfl) rfl) rfl rfl (Nat.le_of_ble_eq_true rfl) (fun _ _ _ _ h => h) ?_
  refine DW.split (d := 5) rfl (fun hg0 => ?_) (fun hg0 => ?_)
  · skip   -- g0.T
    refine DW.qY rfl (ok_field_bp (b := 0) (o' := 0) (off := 2) rfl rfl fld_impl_File_2) rfl rfl rfl (Nat.le_of_ble_eq_true rfl) rfl rfl rfl (Nat.le_of_ble_eq_true rfl) (fun _ _ _ _ h => h) ?_
    refine DW.qY rfl (ok_load_bp (b := 0) (i := 2) (ag := false) (m := 1) (ys := [.sc _]) rfl rfl rfl agg_int sz_int (fun _ => rfl) rfl rfl (Nat.le_of_ble_eq_true rfl)) rfl rfl rfl (Nat.le_of_ble_eq_true rfl) rfl rfl rfl (Nat.le_of_ble_eq_true rfl) (fun _ _ _ _ h => h) ?_
    refine DW.qY rfl (ok_field_bp (b := 0) (o' := 0) (off := 1) rfl rfl fld_impl_File_1) rfl rfl rfl (Nat.le_of_ble_eq_true rfl) rfl rfl rfl (Nat.le_of_ble_eq_true rfl) (fun _ _ _ _ h => h) ?_
    refine DW.qY rfl (ok_load_bp (b := 0) (i := 1) (ag := false) (m := 1) (ys := [.ro _]) rfl rfl rfl agg_s_impl_Page sz_s_impl_Page (fun _ => rfl) rfl rfl (Nat.le_of_ble_eq_true rfl)) rfl rfl rfl (Nat.le_of_ble_eq_true rfl) rfl rfl rfl (Nat.le_of_ble_eq_true rfl) (fun _ _ _ _ h => h) ?_
    refine DW.m' [] rfl (ok_callD (ls := [(false, [.sc _])]) hD rfl rfl ⟨_, _, Tryd.func71, rfl, by decide⟩ (vcksp_i x.fPages hP (by omega) (by omega) hK) ⟨⟨[.ro _], rfl, ⟨rfl, trivial⟩⟩, trivial⟩ rfl (Nat.le_of_ble_eq_true rfl)) (fun hr => wantedY hr rfl rfl rfl (Nat.le_of_ble_eq_true rfl) rfl rfl) (Nat.le_of_ble_eq_true rfl) (Nat.le_of_ble_eq_true rfl) (.inl rfl) (fun j hj => by cases hj) ?_
    refine DW.qY rfl (ok_s2 (x := .tmp 7) (x' := .tmp 10) (VScal.one rfl) (VScal.one rfl) (fun ρ h1 h2 w => by go_simp; (try go_bits); with_reducible rfl) rfl) rfl rfl rfl (Nat.le_of_ble_eq_true rfl) rfl rfl rfl (Nat.le_of_ble_eq_true rfl) (fun _ _ _ _ h => h) ?_
    refine DW.q rfl (ok_pickT (v := V.one (.sc _)) rfl rfl rfl) rfl rfl (Nat.le_of_ble_eq_true rfl) (fun _ _ _ _ h => h) ?_
    refine DW.q rfl (ok_move (v := V.one (.sc _)) (.inr rfl) rfl) rfl rfl (Nat.le_of_ble_eq_true rfl) (fun _ _ _ _ h => h) ?_
    refine DW.stores ?_
    refine SV.zend ?_
    refine SV.tn ?_
    refine SV.ret ?_
    apply SV.done (hf := Tryd.results64) (ht := rfl) (he := .inl rfl)
    case hr => exact (ResAll.cons (ResOk.tmp (ag := false) (xs := [.sc _]) rfl) ResAll.nil')
    case h2 => simp [two]
    refine ⟨rfl, ⟨?_, trivial⟩, trivial⟩ <;> (show some (T.lit (Value.bool _)) = some (T.lit (Value.bool _)); refine congrArg (fun z => some (T.lit (Value.bool z))) ?_; unfold FileD.whole; first | (simp_all; done) | (simp_all; first | rfl | (rw [Bool.eq_iff_iff]; simp; done)))
  · skip   -- g0.F
    refine DW.qN (V' := V.one .dead) rfl rfl rfl rfl (Nat.le_of_ble_eq_true rfl) rfl rfl rfl (Nat.le_of_ble_eq_true rfl) (fun _ _ _ _ h => h) ?_
    refine DW.qN (V' := V.one .dead) rfl rfl rfl rfl (Nat.le_of_ble_eq_true rfl) rfl rfl rfl (Nat.le_of_ble_eq_true rfl) (fun _ _ _ _ h => h) ?_
    refine DW.qN (V' := V.one .dead) rfl rfl rfl rfl (Nat.le_of_ble_eq_true rfl) rfl rfl rfl (Nat.le_of_ble_eq_true rfl) (fun _ _ _ _ h => h) ?_
    refine DW.qN (V' := V.one .dead) rfl rfl rfl rfl (Nat.le_of_ble_eq_true rfl) rfl rfl rfl (Nat.le_of_ble_eq_true rfl) (fun _ _ _ _ h => h) ?_
    refine DW.mN rfl rfl rfl rfl (Nat.le_of_ble_eq_true rfl) rfl rfl rfl (Nat.le_of_ble_eq_true rfl) ?_
    refine DW.qN (V' := V.one .dead) rfl rfl rfl rfl (Nat.le_of_ble_eq_true rfl) rfl rfl rfl (Nat.le_of_ble_eq_true rfl) (fun _ _ _ _ h => h) ?_
    refine DW.q rfl (ok_pickF (v := V.one (.sc _)) rfl rfl rfl) rfl rfl (Nat.le_of_ble_eq_true rfl) (fun _ _ _ _ h => h) ?_
    refine DW.q rfl (ok_move (v := V.one (.sc _)) (.inr rfl) rfl) rfl rfl (Nat.le_of_ble_eq_true rfl) (fun _ _ _ _ h => h) ?_
    refine DW.stores ?_
    refine SV.zend ?_
    refine SV.tn ?_
    refine SV.ret ?_
    apply SV.done (hf := Tryd.results64) (ht := rfl) (he := .inl rfl)
    case hr => exact (ResAll.cons (ResOk.tmp (ag := false) (xs := [.sc _]) rfl) ResAll.nil')
    case h2 => simp [two]
    refine ⟨rfl, ⟨?_, trivial⟩, trivial⟩ <;> (show some (T.lit (Value.bool _)) = some (T.lit (Value.bool _)); refine congrArg (fun z => some (T.lit (Value.bool z))) ?_; unfold FileD.whole; first | (simp_all; done) | (simp_all; first | rfl | (rw [Bool.eq_iff_iff]; simp; done)))
set_option maxRecDepth 100000 in
set_option maxHeartbeats 2000000 in
theorem vread_i0 (X : DiskD) (name : Int) (hX : goodDisk X) (hL : wtDisk X ≤ 1000000000) (hf : DiskD.file X name = none) : VCD Tryd.prog 16 [(true, tDisk X), (false, [.lit (.int .i64 (name))])] true [(false, [.seq 55 (((DiskD.read X name).getD []).map tRow)]), (false, [.lit (.bool (DiskD.read X name).isSome)])] := by
  refine VCD.enter Tryd.func16 rfl Tryd.ntmps16 (Nat.le_of_ble_eq_true rfl) fun E hE hD => ?_
  have ho : DiskD.read X name = none := DiskD.read_none hf
  have hv := vfind_i X name hX hL
  rw [hf] at hv
  refine SV.seq' ?_
  refine SV.region ?_
  refine SV.op (OpMk.ok (ok_box (kk := 0) (ag := true) (xs := [.ro _, .sc _]) rfl rfl rfl (fun h => by cases h) rfl rfl (Nat.le_of_ble_eq_true rfl))) rfl ?_
  refine SV.op (OpL.ok (nb := 1) (ok_move (v := V.one (.sc _)) (.inr rfl) rfl) rfl (Nat.le_of_ble_eq_true rfl)) rfl ?_
  refine SV.op (OpL.ok (nb := 1) (ok_move (v := V.one (.sc _)) (.inr rfl) rfl) rfl (Nat.le_of_ble_eq_true rfl)) rfl ?_
  refine SV.nil ?_
  refine SV.tn ?_
  refine SV.seq' ?_
  refine SV.region ?_
  refine SV.op (OpL.ok (nb := 1) (ok_load_bp (b := 0) (i := 0) (ag := true) (m := 2) (ys := [.ro _, .sc _]) rfl rfl rfl agg_impl_Disk sz_impl_Disk (fun h => by cases h) rfl rfl (Nat.le_of_ble_eq_true rfl)) rfl (Nat.le_of_ble_eq_true rfl)) rfl ?_
  refine SV.op (OpL.ok (nb := 1) (ok_move (v := V.one (.sc _)) (.inl rfl) rfl) rfl (Nat.le_of_ble_eq_true rfl)) rfl ?_
  refine SV.op (OpMk.ok (ok_callPt0 rfl ⟨_, _, Tryd.func63, rfl, by decide⟩ (hv) ⟨⟨[.ro _, .sc _], rfl, ⟨rfl, rfl, trivial⟩⟩, ⟨[.sc _], rfl, ⟨rfl, trivial⟩⟩, trivial⟩ rfl (Nat.le_of_ble_eq_true rfl))) rfl ?_
  refine SV.op (OpL.ok (nb := 1) (ok_move (v := ⟨true, [(false, [.sc _]), (false, [.sc _])]⟩) (.inl rfl) rfl) rfl (Nat.le_of_ble_eq_true rfl)) rfl ?_
  refine SV.op (OpL.ok (nb := 1) (ok_extract (ag := false) (xs := [.sc _]) rfl rfl rfl) rfl (Nat.le_of_ble_eq_true rfl)) rfl ?_
  refine SV.op (OpL.ok (nb := 1) (ok_extract (ag := false) (xs := [.sc _]) rfl rfl rfl) rfl (Nat.le_of_ble_eq_true rfl)) rfl ?_
  refine SV.op (OpL.ok (nb := 1) (ok_move (v := V.one (.sc _)) (.inr rfl) rfl) rfl (Nat.le_of_ble_eq_true rfl)) rfl ?_
  refine SV.op (OpL.ok (nb := 1) (ok_move (v := V.one (.sc _)) (.inr rfl) rfl) rfl (Nat.le_of_ble_eq_true rfl)) rfl ?_
  refine SV.nil ?_
  refine SV.tn ?_
  refine SV.seq' ?_
  refine SV.seq' ?_
  refine SV.region ?_
  refine SV.op (OpL.ok (nb := 1) (ok_move (v := V.one (.sc _)) (.inl rfl) rfl) rfl (Nat.le_of_ble_eq_true rfl)) rfl ?_
  refine SV.op (OpL.ok (nb := 1) (ok_s1 (x := .tmp 14) (VScal.one rfl) (fun ρ h1 w => by go_simp; (try go_bits); with_reducible rfl) rfl) rfl (Nat.le_of_ble_eq_true rfl)) rfl ?_
  refine SV.op (OpL.ok (nb := 1) (ok_move (v := V.one (.sc _)) (.inl rfl) rfl) rfl (Nat.le_of_ble_eq_true rfl)) rfl ?_
  refine SV.split (d := 16) rfl (fun hg0 => ?_) (fun hg0 => ?_)
  · skip   -- g0.T
    refine SV.opN rfl rfl rfl (Nat.le_of_ble_eq_true rfl) rfl rfl rfl (Nat.le_of_ble_eq_true rfl) ?_
    refine SV.opN rfl rfl rfl (Nat.le_of_ble_eq_true rfl) rfl rfl rfl (Nat.le_of_ble_eq_true rfl) ?_
    refine SV.opN rfl rfl rfl (Nat.le_of_ble_eq_true rfl) rfl rfl rfl (Nat.le_of_ble_eq_true rfl) ?_
    refine SV.opN rfl rfl rfl (Nat.le_of_ble_eq_true rfl) rfl rfl rfl (Nat.le_of_ble_eq_true rfl) ?_
    refine SV.opN rfl rfl rfl (Nat.le_of_ble_eq_true rfl) rfl rfl rfl (Nat.le_of_ble_eq_true rfl) ?_
    refine SV.op (OpL.ok (nb := 1) (ok_pickT (v := V.one (.sc _)) rfl rfl rfl) rfl (Nat.le_of_ble_eq_true rfl)) rfl ?_
    refine SV.nil ?_
    refine SV.tn ?_
    refine SV.cond rfl (fun hc0 => ?_) (fun hc0 => ?_)
    · skip   -- c0.T
      refine SV.seq' ?_
      refine SV.region ?_
      refine SV.op (OpL.ok (nb := 1) (ok_move (v := V.one (.sc _)) (.inr rfl) rfl) rfl (Nat.le_of_ble_eq_true rfl)) rfl ?_
      refine SV.op (OpL.ok (nb := 1) (ok_move (v := V.one (.sc _)) (.inr rfl) rfl) rfl (Nat.le_of_ble_eq_true rfl)) rfl ?_
      refine SV.nil ?_
      refine SV.tn ?_
      refine SV.ret ?_
      refine SV.tr ?_
      refine SV.nlsc (s := 4) (kk := 0) (n := 3) rfl rfl (by decide) sz_impl_Row (Nat.le_of_ble_eq_true rfl) ?_
      apply SV.done (hf := Tryd.results16) (ht := rfl) (he := .inr rfl)
      case hr => exact (ResAll.cons (ResOk.tmp (ag := false) (xs := [.hd 0]) rfl) (ResAll.cons (ResOk.tmp (ag := false) (xs := [.sc _]) rfl) ResAll.nil'))
      case h2 => simp [two]
      refine ⟨rfl, ⟨?_, trivial⟩, ⟨rfl, ⟨?_, trivial⟩, trivial⟩⟩ <;> (rw [ho]; rfl)
    · skip   -- c0.F
      cases hc0
  · skip   -- g0.F
    simp at hg0
set_option maxRecDepth 100000 in
set_option maxHeartbeats 2000000 in
theorem vread_i1 (X : DiskD) (name : Int) (k : Nat) (f : FileD) (hX : goodDisk X) (hL : wtDisk X ≤ 1000000000) (hf : DiskD.file X name = some (k, f)) (hx : X.fFiles[k]? = some f) : VCD Tryd.prog 16 [(true, tDisk X), (false, [.lit (.int .i64 (name))])] true [(false, [.seq 55 (((DiskD.read X name).getD []).map tRow)]), (false, [.lit (.bool (DiskD.read X name).isSome)])] := by
  refine VCD.enter Tryd.func16 rfl Tryd.ntmps16 (Nat.le_of_ble_eq_true rfl) fun E hE hD => ?_
  have hv := vfind_i X name hX hL
  rw [hf] at hv
  have hs := DiskD.read_eq hf
  have hkl : k < X.fFiles.length := get_lt hx
  have hP := (hX.1 f (get_mem hx)).2.1
  have hw1 : wtPages f.fPages ≤ wtDisk X := by
    have h4 := wt_file_at X.fFiles k hkl
    have h5 : X.fFiles[k] = f := by have := hx; rw [List.getElem?_eq_getElem hkl] at this; exact Option.some.inj this
    rw [h5] at h4; exact h4
  refine SV.seq' ?_
  refine SV.region ?_
  refine SV.op (OpMk.ok (ok_box (kk := 0) (ag := true) (xs := [.ro _, .sc _]) rfl rfl rfl (fun h => by cases h) rfl rfl (Nat.le_of_ble_eq_true rfl))) rfl ?_
  refine SV.op (OpL.ok (nb := 1) (ok_move (v := V.one (.sc _)) (.inr rfl) rfl) rfl (Nat.le_of_ble_eq_true rfl)) rfl ?_
  refine SV.op (OpL.ok (nb := 1) (ok_move (v := V.one (.sc _)) (.inr rfl) rfl) rfl (Nat.le_of_ble_eq_true rfl)) rfl ?_
  refine SV.nil ?_
  refine SV.tn ?_
  refine SV.seq' ?_
  refine SV.region ?_
  refine SV.op (OpL.ok (nb := 1) (ok_load_bp (b := 0) (i := 0) (ag := true) (m := 2) (ys := [.ro _, .sc _]) rfl rfl rfl agg_impl_Disk sz_impl_Disk (fun h => by cases h) rfl rfl (Nat.le_of_ble_eq_true rfl)) rfl (Nat.le_of_ble_eq_true rfl)) rfl ?_
  refine SV.op (OpL.ok (nb := 1) (ok_move (v := V.one (.sc _)) (.inl rfl) rfl) rfl (Nat.le_of_ble_eq_true rfl)) rfl ?_
  refine SV.op (OpMk.ok (ok_callPtR rfl ⟨_, _, Tryd.func63, rfl, by decide⟩ (hv) ⟨⟨[.ro _, .sc _], rfl, ⟨rfl, rfl, trivial⟩⟩, ⟨[.sc _], rfl, ⟨rfl, trivial⟩⟩, trivial⟩ rfl sz_impl_File (by rw [List.getElem?_map, hx]; rfl) rfl (Nat.le_of_ble_eq_true rfl))) rfl ?_
  refine SV.op (OpL.ok (nb := 1) (ok_move (v := ⟨true, [(false, [.rp _]), (false, [.sc _])]⟩) (.inl rfl) rfl) rfl (Nat.le_of_ble_eq_true rfl)) rfl ?_
  refine SV.op (OpL.ok (nb := 1) (ok_extract (ag := false) (xs := [.rp _]) rfl rfl rfl) rfl (Nat.le_of_ble_eq_true rfl)) rfl ?_
  refine SV.op (OpL.ok (nb := 1) (ok_extract (ag := false) (xs := [.sc _]) rfl rfl rfl) rfl (Nat.le_of_ble_eq_true rfl)) rfl ?_
  refine SV.op (OpL.ok (nb := 1) (ok_move (v := V.one (.rp _)) (.inr rfl) rfl) rfl (Nat.le_of_ble_eq_true rfl)) rfl ?_
  refine SV.op (OpL.ok (nb := 1) (ok_move (v := V.one (.sc _)) (.inr rfl) rfl) rfl (Nat.le_of_ble_eq_true rfl)) rfl ?_
  refine SV.nil ?_
  refine SV.tn ?_
  refine SV.seq' ?_
  refine SV.seq' ?_
  refine SV.region ?_
  refine SV.op (OpL.ok (nb := 1) (ok_move (v := V.one (.sc _)) (.inl rfl) rfl) rfl (Nat.le_of_ble_eq_true rfl)) rfl ?_
  refine SV.op (OpL.ok (nb := 1) (ok_s1 (x := .tmp 14) (VScal.one rfl) (fun ρ h1 w => by go_simp; (try go_bits); with_reducible rfl) rfl) rfl (Nat.le_of_ble_eq_true rfl)) rfl ?_
  refine SV.op (OpL.ok (nb := 1) (ok_move (v := V.one (.sc _)) (.inl rfl) rfl) rfl (Nat.le_of_ble_eq_true rfl)) rfl ?_
  refine SV.split (d := 16) rfl (fun hg0 => ?_) (fun hg0 => ?_)
  · skip   -- g0.T
    simp at hg0
  · skip   -- g0.F
    refine SV.opY (OpL.ok (nb := 1) (ok_move (v := V.one (.rp _)) (.inl rfl) rfl) rfl (Nat.le_of_ble_eq_true rfl)) rfl rfl rfl (Nat.le_of_ble_eq_true rfl) rfl rfl ?_
    refine SV.opY (OpL.ok (nb := 1) (ok_nilcheckR rfl rfl) rfl (Nat.le_of_ble_eq_true rfl)) rfl rfl rfl (Nat.le_of_ble_eq_true rfl) rfl rfl ?_
    refine SV.opY (OpL.ok (nb := 1) (ok_load_rp (ag := true) (m := 4) (ys := [.sc _, .ro _, .sc _, .sc _]) rfl rfl agg_impl_File sz_impl_File (fun h => by cases h) (Nat.le_of_ble_eq_true rfl) rfl) rfl (Nat.le_of_ble_eq_true rfl)) rfl rfl rfl (Nat.le_of_ble_eq_true rfl) rfl rfl ?_
    refine SV.opY (OpMk.ok (ok_callD (ls := [(false, [.sc _])]) hD rfl rfl ⟨_, _, Tryd.func64, rfl, by decide⟩ (vwhole_i f hP (by show wtPages f.fPages ≤ _; omega)) ⟨⟨[.sc _, .ro _, .sc _, .sc _], rfl, ⟨rfl, rfl, rfl, rfl, trivial⟩⟩, trivial⟩ rfl (Nat.le_of_ble_eq_true rfl))) rfl rfl rfl (Nat.le_of_ble_eq_true rfl) rfl rfl ?_
    refine SV.opY (OpL.ok (nb := 1) (ok_s1 (x := .tmp 20) (VScal.one rfl) (fun ρ h1 w => by go_simp; (try go_bits); with_reducible rfl) rfl) rfl (Nat.le_of_ble_eq_true rfl)) rfl rfl rfl (Nat.le_of_ble_eq_true rfl) rfl rfl ?_
    refine SV.op (OpL.ok (nb := 1) (ok_pickF (v := V.one (.sc _)) rfl rfl rfl) rfl (Nat.le_of_ble_eq_true rfl)) rfl ?_
    refine SV.nil ?_
    refine SV.tn ?_
    refine SV.cond rfl (fun hc0 => ?_) (fun hc0 => ?_)
    · skip   -- c0.T
      have ho : DiskD.read X name = none := by rw [hs, if_neg (by simpa using hc0)]
      refine SV.seq' ?_
      refine SV.region ?_
      refine SV.op (OpL.ok (nb := 1) (ok_move (v := V.one (.sc _)) (.inr rfl) rfl) rfl (Nat.le_of_ble_eq_true rfl)) rfl ?_
      refine SV.op (OpL.ok (nb := 1) (ok_move (v := V.one (.sc _)) (.inr rfl) rfl) rfl (Nat.le_of_ble_eq_true rfl)) rfl ?_
      refine SV.nil ?_
      refine SV.tn ?_
      refine SV.ret ?_
      refine SV.tr ?_
      refine SV.nlsc (s := 4) (kk := 0) (n := 3) rfl rfl (by decide) sz_impl_Row (Nat.le_of_ble_eq_true rfl) ?_
      apply SV.done (hf := Tryd.results16) (ht := rfl) (he := .inr rfl)
      case hr => exact (ResAll.cons (ResOk.tmp (ag := false) (xs := [.hd 0]) rfl) (ResAll.cons (ResOk.tmp (ag := false) (xs := [.sc _]) rfl) ResAll.nil'))
      case h2 => simp [two]
      refine ⟨rfl, ⟨?_, trivial⟩, ⟨rfl, ⟨?_, trivial⟩, trivial⟩⟩ <;> (rw [ho]; rfl)
    · skip   -- c0.F
      have ho := hs.trans (if_pos (by simpa using hc0))
      refine SV.skip ?_
      refine SV.tn ?_
      refine SV.seq' ?_
      refine SV.region ?_
      refine SV.op (OpL.ok (nb := 1) (ok_move (v := V.one (.rp _)) (.inl rfl) rfl) rfl (Nat.le_of_ble_eq_true rfl)) rfl ?_
      refine SV.op (OpL.ok (nb := 1) (ok_nilcheckR rfl rfl) rfl (Nat.le_of_ble_eq_true rfl)) rfl ?_
      refine SV.op (OpL.ok (nb := 1) (ok_field_el (p := .rp _) (off := 1) rfl rfl rfl fld_impl_File_1) rfl (Nat.le_of_ble_eq_true rfl)) rfl ?_
      refine SV.op (OpL.ok (nb := 1) (ok_load_rp (ag := false) (m := 1) (ys := [.ro _]) rfl rfl agg_s_impl_Page sz_s_impl_Page (fun _ => rfl) (Nat.le_of_ble_eq_true rfl) rfl) rfl (Nat.le_of_ble_eq_true rfl)) rfl ?_
      refine SV.op (OpMk.ok (ok_call (ls := [(false, [.hd 0])]) rfl rfl ⟨_, _, Tryd.func65, rfl, by decide⟩ (vunpack_i f.fPages hP (by omega)) ⟨⟨[.ro _], rfl, ⟨rfl, trivial⟩⟩, trivial⟩ rfl (Nat.le_of_ble_eq_true rfl))) rfl ?_
      refine SV.op (OpL.ok (nb := 1) (ok_move (v := V.one (.hd 0)) (.inr rfl) rfl) rfl (Nat.le_of_ble_eq_true rfl)) rfl ?_
      refine SV.op (OpL.ok (nb := 1) (ok_move (v := V.one (.sc _)) (.inr rfl) rfl) rfl (Nat.le_of_ble_eq_true rfl)) rfl ?_
      refine SV.nil ?_
      refine SV.tn ?_
      refine SV.ret ?_
      apply SV.done (hf := Tryd.results16) (ht := rfl) (he := .inl rfl)
      case hr => exact (ResAll.cons (ResOk.tmp (ag := false) (xs := [.hd 0]) rfl) (ResAll.cons (ResOk.tmp (ag := false) (xs := [.sc _]) rfl) ResAll.nil'))
      case h2 => simp [two]
      refine ⟨rfl, ⟨?_, trivial⟩, ⟨rfl, ⟨?_, trivial⟩, trivial⟩⟩ <;> (rw [ho]; rfl)
end Go.Proofs.YtlnjgoommpeioaaDoor
/- SealFile, whole: told by trees. -/
namespace Go.Proofs.YtlnjgoommpeioaaDoor
open Go Go.RowKit V
set_option linter.unusedVariables false
theorem DiskD.file_get {d : DiskD} {name : Int} {k : Nat} {f : FileD} (h : DiskD.file d name = some (k, f)) : d.fFiles[k]? = some f := by
  unfold DiskD.file at h
  split at h
  · obtain ⟨k', h1, h2⟩ := Option.bind_eq_some_iff.1 h
    obtain ⟨f', h3, h4⟩ := Option.map_eq_some_iff.1 h2
    cases h4
    exact h3
  · cases h
theorem vseal_s (X : DiskD) (name : Int) (hX : goodDisk X) (hL : wtDisk X ≤ 1000000000) : VC Tryd.prog 41 [(true, tDisk X), (false, [.lit (.int .i64 name)])] true [(true, tDisk ((DiskD.sealF X name).getD X)), (false, [.lit (.bool (DiskD.sealF X name).isSome)])] := vseal_s0 X name _ hX hL rfl
theorem vseal_i (X : DiskD) (name : Int) (hX : goodDisk X) (hL : wtDisk X ≤ 1000000000) : VCD Tryd.prog 21 [(true, tDisk X), (false, [.lit (.int .i64 name)])] true [(true, tDisk ((DiskD.sealF X name).getD X)), (false, [.lit (.bool (DiskD.sealF X name).isSome)])] := by
  cases h : DiskD.file X name with
  | none => exact vseal_i0 X name hX hL h
  | some kf => exact vseal_i1 X name kf.1 kf.2 hX hL h (DiskD.file_get h)
theorem good_disk {X : DiskD} (h : okDisk X) : goodDisk X := ⟨fun f hf => ⟨((h.1.1 f hf).1), fun p hp => ((h.1.1 f hf).2.1.1 p hp).1, (h.1.1 f hf).2.2.1, trivial⟩, h.2, trivial⟩
theorem wt_set {α : Type} (f : α → Nat) (L : List α) (k : Nat) (x y : α) (hk : L[k]? = some x) (h : f y = f x) : wtAll f (L.set k y) = wtAll f L := by
  unfold wtAll
  rw [List.length_set, List.map_set, h]
  congr 2
  apply List.ext_getElem?
  intro i
  rw [List.getElem?_set]
  split
  · rename_i e
    subst e
    split
    · rw [List.getElem?_map, hk]; rfl
    · rename_i e; exact absurd (by rw [List.length_map]; exact (List.getElem?_eq_some_iff.1 hk).1) e
  · rfl
theorem wt_seal (X : DiskD) (name : Int) : wtDisk ((DiskD.sealF X name).getD X) = wtDisk X := by
  cases h : DiskD.file X name with
  | none => rw [DiskD.sealF_none h]; rfl
  | some kf =>
    obtain ⟨k, f⟩ := kf
    rw [DiskD.sealF_eq h]
    split
    · rfl
    · exact wt_set wtFile X.fFiles k f _ (DiskD.file_get h) rfl
end Go.Proofs.YtlnjgoommpeioaaDoor
/- ReadFile, whole: told by trees. -/
namespace Go.Proofs.YtlnjgoommpeioaaDoor
open Go Go.RowKit V
set_option linter.unusedVariables false
theorem vread_s (X : DiskD) (name : Int) (hX : goodDisk X) (hL : wtDisk X ≤ 1000000000) : VC Tryd.prog 46 [(true, tDisk X), (false, [.lit (.int .i64 name)])] true [(false, [.seq 55 (((DiskD.read X name).getD []).map tRow)]), (false, [.lit (.bool (DiskD.read X name).isSome)])] := vread_s0 X name _ hX hL rfl
theorem vread_i (X : DiskD) (name : Int) (hX : goodDisk X) (hL : wtDisk X ≤ 1000000000) : VCD Tryd.prog 16 [(true, tDisk X), (false, [.lit (.int .i64 name)])] true [(false, [.seq 55 (((DiskD.read X name).getD []).map tRow)]), (false, [.lit (.bool (DiskD.read X name).isSome)])] := by
  cases h : DiskD.file X name with
  | none => exact vread_i0 X name hX hL h
  | some kf => exact vread_i1 X name kf.1 kf.2 hX hL h (DiskD.file_get h)
theorem wt_read (X : DiskD) (name : Int) : ((DiskD.read X name).getD []).length ≤ wtDisk X := by
  cases h : DiskD.file X name with
  | none => rw [DiskD.read_none h]; exact Nat.zero_le _
  | some kf =>
    obtain ⟨k, f⟩ := kf
    rw [DiskD.read_eq h]
    split
    · have hx := DiskD.file_get h
      have hkl := V.get_lt hx
      have h4 := wt_file_at X.fFiles k hkl
      have h5 : X.fFiles[k] = f := by have := hx; rw [List.getElem?_eq_getElem hkl] at this; exact Option.some.inj this
      rw [h5] at h4
      exact Nat.le_trans (flat_wt f.fPages) h4
    · exact Nat.zero_le _
end Go.Proofs.YtlnjgoommpeioaaDoor
