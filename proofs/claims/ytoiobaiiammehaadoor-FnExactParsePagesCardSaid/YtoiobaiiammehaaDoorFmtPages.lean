/- The reference's FormatPages (and its check of all pages), by contract. -/
import Derived.Test.YtoiobaiiammehaaDoorPagesS
import Derived.Test.YtoiobaiiammehaaDoorFmtRows
namespace Go.Proofs.YtoiobaiiammehaaDoor
open Go.RowKit Go.Lib

set_option maxRecDepth 100000 in
theorem sallpages (a : Option Addr) (n c : Nat) (P : List (List R)) (w : World) (h : SeqIn pageRep w a n P) (hf : P.flatten.length ≤ 1000000000000) :
    Calls Tryd.prog 15 #[.slice a n c] w fun e w' => e = .returned (.bool (R.allPages P)) ∧ Below w.heap.size w w' := by
  have HL := Lib.hid h.1
  have hm := h.2.1
  unfold maxLen at hm
  have HI := Lib.hid h
  obtain ⟨N, hN⟩ : ∃ N, N = P.flatten.length := ⟨_, rfl⟩
  rw [← hN] at hf
  have HN := Lib.hid hN
  clear h hN
  go_enter Tryd.func15, Tryd.ntmps15
  go_wp2_with fail
  go_loopw [3] (fun i wr => ∃ t : Nat, i = .int .i64 t ∧ t ≤ n ∧ Hid (R.allPages (P.take t) = true) ∧ Hid (Below w.heap.size w wr)) (fun i _ => n - (intOf i).toNat)
  case atStart => exact ⟨0, rfl, Nat.zero_le _, (show R.allPages (P.take 0) = true by simp [R.allPages]), Below.refl _ _⟩
  case round =>
    obtain ⟨t, rfl, ht, hok, hb⟩ := hrel
    by_cases hlt : t < n
    · have htl : t < P.length := by have := HL.out; omega
      have hp : P[t]? = some P[t] := by simp [htl]
      obtain ⟨b, o, d, k, m, rfl, hbl, hcell, hin, -⟩ := (HI.out.keep hb.out).at hp
      have hkn : k ≤ 1000000000000 := by
        have h1 := flat_mem P t htl
        rw [hin.1, ← HN.out] at h1
        omega
      have IN := Lib.hid hin
      have HT := Lib.hid (R.allPages_take htl)
      have HBAD := Lib.hid (R.allPages_bad t htl)
      obtain ⟨p, hpp⟩ : ∃ p, p = P[t] := ⟨_, rfl⟩
      rw [← hpp] at IN HT HBAD
      clear hin hp hpp
      go_wp2_with fail
      refine (svalidpage d k m p _ IN.out hkn).mono ?_
      rintro e w1 ⟨rfl, b1⟩
      have B1 := Lib.hid (hb.out.trans (b1.mono hb.out.size))
      clear b1
      cases hv : R.pageOk p with
      | false =>
        have HF := Lib.hid (HBAD.out hv)
        clear hv
        go_wp2_with fail
        go_ret
        exact ⟨by rw [HF.out]; rfl, B1.out⟩
      | true =>
        have HV := Lib.hid hv
        clear hv
        go_wp2_with fail
        go_roundw
        case rel => exact ⟨t + 1, by go_num, by omega, (by show _ = _; rw [HT.out, hok.out, HV.out]; rfl), B1⟩
        case measure => simp [intOf]; omega
    · have hkl : t = n := by omega
      have hall : R.allPages P = true := by
        have := hok.out
        rw [hkl, List.take_of_length_le (by have := HL.out; omega)] at this
        exact this
      have HA := Lib.hid hall
      clear hall hkl
      go_wp2_with fail
      go_ret
      exact ⟨by rw [HA.out]; rfl, hb.out⟩
theorem cat_page (a b : List UInt8) : ((⟨a.toArray⟩ : ByteArray) ++ ⟨#[91]⟩ ++ ⟨b.toArray⟩) ++ ⟨#[93]⟩ = ⟨(a ++ (91 :: (b ++ [93]))).toArray⟩ := by
  have e : (⟨#[91]⟩ : ByteArray) = ⟨[91].toArray⟩ := rfl
  have e2 : (⟨#[93]⟩ : ByteArray) = ⟨[93].toArray⟩ := rfl
  rw [e, e2, ByteArray.mk_append_mk, ByteArray.mk_append_mk, ByteArray.mk_append_mk]
  congr 1
  simp
theorem txt_length (P : List (List R)) : (P.flatMap R.pageTxt).length ≤ 218 * P.length := by
  induction P with
  | nil => simp
  | cons p P ih =>
    have h1 := fmtRows_length p
    rw [List.flatMap_cons, List.length_append, List.length_cons]
    have : (R.pageTxt p).length = (fmtRows p).length + 2 := by simp [R.pageTxt]
    omega
theorem txt_next (P : List (List R)) (t : Nat) (ht : t < P.length) : (P.take (t + 1)).flatMap R.pageTxt = (P.take t).flatMap R.pageTxt ++ (91 :: (fmtRows P[t] ++ [93])) := by
  rw [List.take_succ_eq_append_getElem ht, List.flatMap_append, List.flatMap_singleton]
  rfl
set_option maxRecDepth 100000 in
theorem sfpages (a : Option Addr) (n c : Nat) (P : List (List R)) (w : World) (h : SeqIn pageRep w a n P) (hn : n ≤ 1000000000) (hf : P.flatten.length ≤ 1000000000000) :
    Calls Tryd.prog 6 #[.slice a n c] w fun e w' => e = .returned (.string ⟨(R.fmtPages P).toArray⟩) ∧ Below w.heap.size w w' := by
  have HL := Lib.hid h.1
  have HI := Lib.hid h
  have HFL := Lib.hid hf
  obtain ⟨N, hN⟩ : ∃ N, N = P.flatten.length := ⟨_, rfl⟩
  rw [← hN] at hf
  have HN := Lib.hid hN
  clear h hN
  go_enter Tryd.func6, Tryd.ntmps6
  go_wp2_with fail
  go_loopw [3, 4] (fun s i wr => ∃ (t : Nat) (x : List UInt8), s = .string ⟨x.toArray⟩ ∧ i = .int .i64 t ∧ t ≤ n ∧ Hid (x = (P.take t).flatMap R.pageTxt) ∧ Hid (t = 0 ∨ R.allPages P = true) ∧ Hid (Below w.heap.size w wr)) (fun _ i _ => n - (intOf i).toNat)
  case atStart => exact ⟨0, [], rfl, rfl, Nat.zero_le _, rfl, .inl rfl, Below.refl _ _⟩
  case round =>
    obtain ⟨t, x, rfl, rfl, ht, hx, hor, hb⟩ := hrel
    by_cases hlt : t < n
    · have htl : t < P.length := by have := HL.out; omega
      go_wp2_with fail
      refine (sallpages a n c P _ (HI.out.keep hb.out) HFL.out).mono ?_
      rintro e w1 ⟨rfl, b1⟩
      have B1 := Lib.hid (hb.out.trans (b1.mono hb.out.size))
      clear b1
      cases hok : R.allPages P with
      | false =>
        have hk0 : t = 0 := by rcases hor.out with h | h; exact h; rw [hok] at h; cases h
        subst hk0
        have hx0 : x = [] := hx.out
        subst hx0
        have HF : Hid (R.fmtPages P = []) := by show _ = _; unfold R.fmtPages; rw [hok]; rfl
        clear hok
        go_wp2_with fail
        go_ret
        exact ⟨by rw [HF.out]; rfl, B1.out⟩
      | true =>
        have hp : P[t]? = some P[t] := by simp [htl]
        obtain ⟨b, o, d, k, m, rfl, hbl, hcell, hin, -⟩ := (HI.out.keep B1.out).at hp
        have hkn : k ≤ 1000000000000 := by
          have h1 := flat_mem P t htl
          rw [hin.1, ← HN.out] at h1
          omega
        have hxl : x.length ≤ 218000000000 := by
          have h2 := txt_length (P.take t)
          rw [← hx.out, List.length_take] at h2
          omega
        have HNX := Lib.hid (txt_next P t htl)
        obtain ⟨p, hpp⟩ : ∃ p, p = P[t] := ⟨_, rfl⟩
        rw [← hpp] at hin HNX
        have hpl := fmtRows_length p
        have IN := Lib.hid (rows_in hin)
        have HOK := Lib.hid hok
        have n0 : ¬ 9223372036854775807 < x.length + 1 := by omega
        clear hok hin hp hpp
        go_wp2_with fail
        refine (sfrows d k m p _ IN.out hkn).mono ?_
        rintro e w2 ⟨rfl, b2⟩
        have B2 := Lib.hid (B1.out.trans (b2.mono B1.out.size))
        obtain ⟨z, hz⟩ : ∃ z, z = fmtRows p := ⟨_, rfl⟩
        rw [← hz] at HNX hpl ⊢
        clear b2 hz
        have n1 : ¬ 9223372036854775807 < x.length + 1 + z.length := by omega
        have n2 : ¬ 9223372036854775807 < x.length + 1 + z.length + 1 := by omega
        go_wp2_with fail
        rw [cat_page]
        go_roundw
        case rel => exact ⟨t + 1, _, rfl, by go_num, by omega, (by show _ = _; rw [HNX.out, hx.out]), .inr HOK.out, B2⟩
        case measure => simp [intOf]; omega
    · have hkl : t = n := by omega
      have hfin : R.fmtPages P = x := by
        unfold R.fmtPages
        rcases hor.out with h0 | h0
        · have hP : P = [] := List.eq_nil_of_length_eq_zero (by have := HL.out; omega)
          rw [hx.out, hP, List.take_nil]
          rfl
        · rw [if_pos h0, hx.out, hkl, List.take_of_length_le (by have := HL.out; omega)]
      have HF := Lib.hid hfin
      clear hfin hkl
      go_wp2_with fail
      go_ret
      exact ⟨by rw [HF.out]; rfl, hb.out⟩
end Go.Proofs.YtoiobaiiammehaaDoor
