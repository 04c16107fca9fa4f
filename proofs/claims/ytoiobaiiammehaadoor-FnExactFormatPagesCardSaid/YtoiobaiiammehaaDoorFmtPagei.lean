/- The program's FormatPages, by contract. -/
import Derived.Test.YtoiobaiiammehaaDoorPagesi
import Derived.Test.YtoiobaiiammehaaDoorFmtRowi
import Derived.Test.YtoiobaiiammehaaDoorBuild
namespace Go.Proofs.YtoiobaiiammehaaDoor
open Go.RowKit Go.Lib

theorem txt_page (b : List UInt8) : ((⟨#[91]⟩ : ByteArray) ++ ⟨b.toArray⟩) ++ ⟨#[93]⟩ = ⟨(91 :: (b ++ [93])).toArray⟩ := by
  have e : (⟨#[91]⟩ : ByteArray) = ⟨[91].toArray⟩ := rfl
  have e2 : (⟨#[93]⟩ : ByteArray) = ⟨[93].toArray⟩ := rfl
  rw [e, e2, ByteArray.mk_append_mk, ByteArray.mk_append_mk]
  congr 1
theorem txt_len (P : List (List R)) : (P.flatMap R.pageTxt).length ≤ 218 * P.length := by
  induction P with
  | nil => simp
  | cons p P ih =>
    have h1 := fmtRows_length p
    rw [List.flatMap_cons, List.length_append, List.length_cons]
    have : (R.pageTxt p).length = (fmtRows p).length + 2 := by simp [R.pageTxt]
    omega
theorem txt_step (P : List (List R)) (t : Nat) (ht : t < P.length) : (P.take (t + 1)).flatMap R.pageTxt = (P.take t).flatMap R.pageTxt ++ (91 :: (fmtRows P[t] ++ [93])) := by
  rw [List.take_succ_eq_append_getElem ht, List.flatMap_append, List.flatMap_singleton]
  rfl
theorem bytecells_app (a b : List UInt8) : Lib.byteCells a ++ Lib.byteCells b = Lib.byteCells (a ++ b) := by simp [Lib.byteCells]
set_option maxRecDepth 100000 in
theorem ifpages (a : Option Addr) (n c : Nat) (P : List (List R)) (w : World) (h : SeqIn pageRep w a n P) (hn : n ≤ 1000000000) (hf : P.flatten.length ≤ 1000000000000) (ht : Tab w) :
    Calls Tryd.prog 8 #[.slice a n c] w fun e w' => e = .returned (.string ⟨(R.fmtPages P).toArray⟩) ∧ Below w.heap.size w w' := by
  have HL := Lib.hid h.1
  have HI := Lib.hid h
  have HT := Lib.hid ht
  obtain ⟨N, hN⟩ : ∃ N, N = P.flatten.length := ⟨_, rfl⟩
  rw [← hN] at hf
  have HN := Lib.hid hN
  have S0 := Lib.hid (isb_new w)
  have B0 := Lib.hid ((Below.refl w.heap.size w).alloc (Nat.le_refl _) (.cells #[.pointer none, .slice none 0 0] 46))
  clear h hN ht
  go_enter Tryd.func8, Tryd.ntmps8
  go_wp2_with fail
  go_loopw [8] (fun i wr => ∃ t : Nat, i = .int .i64 t ∧ t ≤ n ∧ Hid (R.allPages (P.take t) = true) ∧ Hid (IsB w.heap.size w.heap.size (Lib.byteCells ((P.take t).flatMap R.pageTxt)) wr) ∧ Hid (Below w.heap.size w wr)) (fun i _ => n - (RowKit.intOf i).toNat)
  case atStart => exact ⟨0, rfl, Nat.zero_le _, (show R.allPages (P.take 0) = true by simp [R.allPages]), S0, B0⟩
  case round =>
    obtain ⟨t, rfl, ht, hok, hS, hb⟩ := hrel
    have hsz : w.heap.size ≤ wr.heap.size := hb.out.size
    by_cases hlt : t < n
    · have htl : t < P.length := by have := HL.out; omega
      have hp : P[t]? = some P[t] := by simp [htl]
      obtain ⟨b, o, d, k, m, rfl, hbl, hcell, hin, -⟩ := (HI.out.keep hb.out).at hp
      have hkn : k ≤ 1000000000000 := by
        have h1 := flat_mem P t htl
        rw [hin.1, ← HN.out] at h1
        omega
      have hxl : ((P.take t).flatMap R.pageTxt).length ≤ 218000000000 := by
        have h2 := txt_len (P.take t)
        rw [List.length_take] at h2
        omega
      have HXL := Lib.hid hxl
      have HNX := Lib.hid (txt_step P t htl)
      have HTK := Lib.hid (R.allPages_take htl)
      have HBAD := Lib.hid (R.allPages_bad t htl)
      obtain ⟨p, hpp⟩ : ∃ p, p = P[t] := ⟨_, rfl⟩
      rw [← hpp] at hin HNX HTK HBAD
      have bx := (Below.refl wr.heap.size wr).alloc (Nat.le_refl _) (.cells #[.slice d k m] 41)
      have IX := Lib.hid (hin.keep bx)
      have SX := Lib.hid (isb_keep hS.out bx)
      have BX := Lib.hid (hb.out.trans (bx.mono hsz))
      have CX := Lib.hid (heap_alloc_new wr (.cells #[.slice d k m] 41))
      have hlx : wr.heap.size < (wr.alloc (.cells #[.slice d k m] 41)).heap.size := by simp
      clear hin hp hpp bx hxl
      go_wp2_with fail
      refine (ivalidpage d k m p _ IX.out hkn).mono ?_
      rintro e w1 ⟨rfl, b1⟩
      have B1 := Lib.hid (BX.out.trans (b1.mono BX.out.size))
      have I1 := Lib.hid (IX.out.keep b1)
      have S1 := Lib.hid (isb_keep SX.out b1)
      have q1 := (b1.block _ hlx).trans CX.out
      have c1 : w1.cell? ⟨wr.heap.size, 0, none⟩ = some (.slice d k m) := by simp [World.cell?, q1]
      clear b1 q1
      cases hv : R.pageOk p with
      | false =>
        have HF := Lib.hid (show R.fmtPages P = [] by unfold R.fmtPages; rw [HBAD.out hv]; rfl)
        clear hv
        go_wp2_with fail
        go_ret
        exact ⟨by rw [HF.out]; rfl, B1.out⟩
      | true =>
        have HV := Lib.hid hv
        clear hv
        go_wp2_with fail
        refine (ifrows d k m p _ (rows_in I1.out) hkn (HT.out.stay B1.out)).mono ?_
        rintro e w2 ⟨rfl, b2⟩
        have B2 := Lib.hid (B1.out.trans (b2.mono B1.out.size))
        have S2 := Lib.hid (isb_keep S1.out b2)
        have hpl := fmtRows_length p
        obtain ⟨z, hz⟩ : ∃ z, z = fmtRows p := ⟨_, rfl⟩
        rw [← hz] at HNX hpl ⊢
        clear b2 hz
        have n1 : ¬ 9223372036854775807 < 1 + z.length := by omega
        have n2 : ¬ 9223372036854775807 < 1 + z.length + 1 := by omega
        go_wp2_with fail
        rw [txt_page]
        have hsl : (⟨(91 :: (z ++ [93])).toArray⟩ : ByteArray).size = z.length + 2 := by simp [ByteArray.size]
        refine (writestr w.heap.size w.heap.size _ ⟨(91 :: (z ++ [93])).toArray⟩ w2 S2.out (by rw [hsl, Lib.byteCells_length]; have := HXL.out; omega) B2.out.size).mono ?_
        rintro e w3 ⟨rfl, hS3, b3⟩
        rw [strcells, bytecells_app, ← HNX.out] at hS3
        have S3 := Lib.hid hS3
        have B3 := Lib.hid (B2.out.trans b3)
        clear hS3 b3 hsl
        go_wp2_with fail
        go_roundw
        case rel => exact ⟨t + 1, by go_num, by omega, (by show _ = _; rw [HTK.out, hok.out, HV.out]; rfl), S3, B3⟩
        case measure => simp [RowKit.intOf]; omega
    · have hkl : t = n := by omega
      have htk : P.take t = P := by rw [hkl, List.take_of_length_le (by have := HL.out; omega)]
      rw [htk] at hok hS
      have HF := Lib.hid (show R.fmtPages P = P.flatMap R.pageTxt by unfold R.fmtPages; rw [if_pos hok.out])
      clear hkl htk
      go_wp2_with fail
      refine (buildstr w.heap.size w.heap.size _ wr hS.out hsz).mono ?_
      rintro e w1 ⟨rfl, b1⟩
      have B1 := Lib.hid (hb.out.trans b1)
      clear b1
      go_wp2_with fail
      go_ret
      exact ⟨by rw [HF.out]; rfl, B1.out⟩
end Go.Proofs.YtoiobaiiammehaaDoor
