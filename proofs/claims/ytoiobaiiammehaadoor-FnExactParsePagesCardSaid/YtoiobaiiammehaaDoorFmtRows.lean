/- The reference's FormatRows, by contract. -/
import Derived.Test.YtoiobaiiammehaaDoorAres
import Derived.Test.YtoiobaiiammehaaDoorFrows
namespace Go.Proofs.YtoiobaiiammehaaDoor
open Go.RowKit Go.Lib

theorem cat3 (a b : List UInt8) : (⟨a.toArray⟩ : ByteArray) ++ ⟨#[32]⟩ ++ ⟨b.toArray⟩ = ⟨(a ++ [32] ++ b).toArray⟩ := by
  have e : (⟨#[32]⟩ : ByteArray) = ⟨[32].toArray⟩ := rfl
  rw [e, ByteArray.mk_append_mk, ByteArray.mk_append_mk]
set_option maxRecDepth 100000 in
theorem sfrows (a : Option Addr) (len cap : Nat) (L : List R) (w : World) (h : IsRows w a len L) (hlen : len ≤ 1000000000000) :
    Calls Tryd.prog 16 #[.slice a len cap] w fun e w' => e = .returned (.string ⟨(fmtRows L).toArray⟩) ∧ Below w.heap.size w w' := by
  have HI := Lib.hid h
  obtain ⟨hl, hwf, hc⟩ := h
  have HL := Lib.hid hl
  have HC := Lib.hid hc
  clear hl hwf hc
  go_enter Tryd.func16, Tryd.ntmps16
  go_wp2_with fail
  go_loopw [3, 4] (fun n i wr => ∃ (k : Nat) (x : List UInt8), n = .string ⟨x.toArray⟩ ∧ i = .int .i64 k ∧ k ≤ len ∧ Hid (x = join ((L.take k).map R.fmt) [32]) ∧ Hid (k = 0 ∨ okRows L = true) ∧ Hid (Below w.heap.size w wr)) (fun _ i _ => len - (intOf i).toNat)
  case atStart => exact ⟨0, [], rfl, rfl, Nat.zero_le _, rfl, .inl rfl, Below.refl _ _⟩
  case round =>
    obtain ⟨k, x, rfl, rfl, hk, hx, hor, hb⟩ := hrel
    by_cases hlt : k < len
    · obtain ⟨b, o, rfl, hbl, hc⟩ : ∃ b o : Nat, a = some ⟨b, o, none⟩ ∧ b < w.heap.size ∧ ∀ t, t < len → RowAt w b (o + t * 3) (L.getD t R.zero) := by
        rcases HC.out with h0 | h0
        · omega
        · exact h0
      obtain ⟨r, hr⟩ : ∃ r, r = L.getD k R.zero := ⟨_, rfl⟩
      have hcr : RowAt w b (o + k * 3) r := by rw [hr]; exact hc k hlt
      have HCR := Lib.hid hcr
      have HR := Lib.hid hr
      clear hr hc hcr
      go_wp2_with fail
      refine (sare _ len cap L _ (HI.out.keep hb.out) (by omega)).mono ?_
      rintro e w1 ⟨rfl, b1⟩
      have B1 := Lib.hid (hb.out.trans (b1.mono hb.out.size))
      clear b1
      obtain ⟨c0, c1, c2⟩ := HCR.out.below B1.out hbl
      cases hok : okRows L with
      | false =>
        have hk0 : k = 0 := by rcases hor.out with h | h; exact h; rw [hok] at h; cases h
        subst hk0
        have hx0 : x = [] := hx.out
        subst hx0
        have HF : Hid (fmtRows L = []) := by show _ = _; unfold fmtRows; rw [hok]; rfl
        clear hok
        go_wp2_with fail
        go_ret
        exact ⟨by rw [HF.out]; rfl, B1.out⟩
      | true =>
        have h24 := okRows_length hok
        have hxl : x.length ≤ 216 := by
          rw [hx.out]
          have := join_fmt_length (L.take k)
          rw [List.length_take] at this
          omega
        have HN := Lib.hid (join_next L k (by rw [HL.out]; exact hlt))
        rw [← HR.out] at HN
        have hfl := fmt_length r
        have HOK := Lib.hid hok
        clear hok
        by_cases hk0 : k = 0
        · subst hk0
          have hx0 : x = [] := hx.out
          subst hx0
          simp only [Nat.zero_mul, Nat.add_zero] at c0 c1 c2
          go_wp2_with fail
          refine (sfrow r _).mono ?_
          rintro e w2 ⟨rfl, b2⟩
          have B2 := Lib.hid (B1.out.trans (b2.mono B1.out.size))
          clear b2
          have n1 : ¬ 9223372036854775807 < r.fmt.length := by omega
          go_wp2_with fail
          go_roundw
          case rel =>
            refine ⟨1, r.fmt, by first | rfl | simp, rfl, by omega, ?_, .inr HOK.out, B2⟩
            show _ = _
            have := HN.out
            rw [if_pos trivial] at this
            exact this.symm
          case measure => simp [intOf]; omega
        · have hpos : (0 : Int) < k := by omega
          have n0 : ¬ 9223372036854775807 < x.length + 1 := by omega
          go_wp2_with fail
          refine (sfrow r _).mono ?_
          rintro e w2 ⟨rfl, b2⟩
          have B2 := Lib.hid (B1.out.trans (b2.mono B1.out.size))
          have n1 : ¬ 9223372036854775807 < x.length + 1 + r.fmt.length := by omega
          clear b2
          go_wp2_with fail
          go_roundw
          case rel =>
            refine ⟨k + 1, x ++ [32] ++ r.fmt, by rw [← cat3], by go_num, by omega, ?_, .inr HOK.out, B2⟩
            show _ = _
            rw [HN.out, if_neg hk0, hx.out]
          case measure => simp [intOf]; omega
    · have hkl : k = len := by omega
      have hfin : fmtRows L = x := by
        have hx' := hx.out
        rw [hkl, ← HL.out, List.take_length] at hx'
        rcases hor.out with h | h
        · have : L = [] := List.eq_nil_of_length_eq_zero (by rw [HL.out]; omega)
          subst this
          rw [hx']; rfl
        · unfold fmtRows; rw [if_pos h, hx']
      have HA := Lib.hid hfin
      have hd : decide ((k : Int) < (len : Int)) = false := decide_eq_false (by omega)
      clear hfin hkl
      go_wp2_with fail
      go_ret
      exact ⟨by rw [HA.out]; rfl, hb.out⟩
end Go.Proofs.YtoiobaiiammehaaDoor
