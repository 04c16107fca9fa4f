/- l1Spoil: a string near the given one, as a function of it and of the cursor's state. -/
import Derived.Test.YtpgckggmcehmpaaDoorText
import Derived.Deep.RegionWith
namespace Go.Proofs.YtpgckggmcehmpaaDoor
open Go.RowKit

/-- What a function that draws a string answers, the string as it lies. -/
def Strung (F : Int × Int → ByteArray × (Int × Int)) (a : Option Addr) (len cap : Nat) (zs : List Int) (σ : Int × Int) (c : Nat) (w : World) (e : Ending) (w' : World) : Prop :=
  ∃ (t : ByteArray) (τ : Int × Int), F σ = (t, τ) ∧ e = .returned (.string t) ∧ Cur a len cap zs τ w' c ∧ Only c w w'
def oneByte (x : Int) : ByteArray := ⟨[UInt8.ofNat x.toNat].toArray⟩
/-- Byte k of s, as a number. -/
def byteAt (s : ByteArray) (k : Nat) : Int := if h : k < s.size then (s[k].toNat : Int) else 0
/-- l1Spoil as a function of the string and of the cursor's state. -/
def spoilS (zs : List Int) (len : Nat) (s : ByteArray) (σ : Int × Int) : ByteArray × (Int × Int) :=
  if s.size = 0 then (⟨(textS zs len 3 σ).1.toArray⟩, (textS zs len 3 σ).2)
  else
    let r := belowS zs len (s.size : Nat) σ
    let k := r.1.toNat
    let v := belowS zs len 4 r.2
    if v.1 = 0 then (s.extract 0 k ++ s.extract (k + 1) s.size, v.2)
    else if v.1 = 1 then (s.extract 0 k ++ oneByte (byteS zs len v.2).1 ++ s.extract k s.size, (byteS zs len v.2).2)
    else if v.1 = 2 then (s.extract 0 k, v.2)
    else (s.extract 0 k ++ oneByte (bits BinOp.xor IntKind.i64 (byteAt s k) (1 + (belowS zs len 255 v.2).1) % 256) ++ s.extract (k + 1) s.size, (belowS zs len 255 v.2).2)

theorem spoil_empty (a : Option Addr) (len cap : Nat) (zs : List Int) (σ : Int × Int) (c : Nat) (w : World) (hc : Cur a len cap zs σ w c) (halt : ∀ x, a = some x → 0 < cap → x.block < w.heap.size) (s : ByteArray) (hs : s.size = 0) :
    Calls Tryd.prog 44 #[.pointer (some ⟨c, 0, none⟩), .string s] w (Strung (spoilS zs len s) a len cap zs σ c w) := by
  have HC := Lib.hid hc
  have HA := Lib.hid halt
  have HS := Lib.hid hs
  have h0 : ((s.size : Int) == 0) = true := by rw [beq_iff_eq]; omega
  clear hc halt hs
  go_enter Tryd.func44, Tryd.ntmps44
  go_wp2_with fail
  refine (text_any a len cap zs _ c _ HC.out HA.out 3 (by omega) (by omega)).mono ?_
  rintro e w1 ⟨l, τ, hl, rfl, hc1, ho1⟩
  have HL := Lib.hid hl
  have H1 := Lib.hid hc1
  have O1 := Lib.hid ho1
  clear hl hc1 ho1
  go_wp2_with fail
  go_ret
  exact ⟨_, τ, by unfold spoilS; rw [if_pos HS.out, HL.out], rfl, H1.out, O1.out⟩

set_option maxHeartbeats 4000000 in
set_option maxRecDepth 100000 in
theorem spoil_more (a : Option Addr) (len cap : Nat) (zs : List Int) (σ : Int × Int) (c : Nat) (w : World) (hc : Cur a len cap zs σ w c) (s : ByteArray) (hs : 0 < s.size) (hs1 : s.size ≤ 1000) :
    Calls Tryd.prog 44 #[.pointer (some ⟨c, 0, none⟩), .string s] w (Strung (spoilS zs len s) a len cap zs σ c w) := by
  have HC := Lib.hid hc
  have h0 : ((s.size : Int) == 0) = false := by rw [beq_eq_false_iff_ne]; omega
  clear hc
  go_enter Tryd.func44, Tryd.ntmps44
  go_wp2_with fail
  refine (below_any a len cap zs _ c _ HC.out (s.size : Int) (by omega) (by omega)).mono ?_
  rintro e w1 ⟨q, τ1, hf1, rfl, hc1, ho1⟩
  obtain ⟨hq0, hq1⟩ := belowS_range (by omega) hf1
  obtain ⟨k, rfl⟩ : ∃ k : Nat, q = (k : Int) := ⟨q.toNat, by omega⟩
  have F1 := Lib.hid hf1
  have H1 := Lib.hid hc1
  have O1 := Lib.hid ho1
  clear hc1 ho1 hf1
  have hks : k < s.size := by omega
  have hkle : k ≤ s.size := by omega
  have hkle' : (k : Int) ≤ (s.size : Int) := by omega
  have hk1' : (k : Int) + 1 ≤ (s.size : Int) := by omega
  have hk1 : k + 1 ≤ s.size := by omega
  have hk0 : (0 : Int) ≤ (k : Int) := by omega
  have ewk : IntKind.i64.wrap ((k : Int) + 1) = (k : Int) + 1 := IntWalk.i64_in _ (by omega)
  have ewk0 : 0 ≤ (k : Int) + 1 := by omega
  have ewkn : ((k : Int) + 1).toNat = k + 1 := by omega
  go_wp2_with fail
  refine (below_any a len cap zs _ c _ H1.out 4 (by omega) (by omega)).mono ?_
  rintro e w2 ⟨v, τ2, hf2, rfl, hc2, ho2⟩
  obtain ⟨hv0, hv1⟩ := belowS_range (by omega) hf2
  have F2 := Lib.hid hf2
  have H2 := Lib.hid hc2
  have O2 := Lib.hid (O1.out.trans ho2)
  clear hc2 ho2 hf2
  have HF : Hid (spoilS zs len s σ = if v = 0 then (s.extract 0 k ++ s.extract (k + 1) s.size, τ2)
      else if v = 1 then (s.extract 0 k ++ oneByte (byteS zs len τ2).1 ++ s.extract k s.size, (byteS zs len τ2).2)
      else if v = 2 then (s.extract 0 k, τ2)
      else (s.extract 0 k ++ oneByte (bits BinOp.xor IntKind.i64 (byteAt s k) (1 + (belowS zs len 255 τ2).1) % 256) ++ s.extract (k + 1) s.size, (belowS zs len 255 τ2).2)) := by
    show _ = _
    unfold spoilS
    rw [if_neg (by omega), F1.out]
    simp only [Int.toNat_natCast]
    rw [F2.out]
  by_cases e0 : v = 0
  · subst e0
    go_wp2_with fail
    go_quiet (fail)
    go_wp2_with fail
    go_ret
    exact ⟨_, τ2, by rw [HF.out]; simp, rfl, H2.out.same rfl, O2.out.drewN _⟩
  · have t0 : (v == 0) = false := beq_eq_false_iff_ne.2 e0
    by_cases e1 : v = 1
    · subst e1
      clear e0 t0
      go_wp2_with fail
      go_region_with (go_at_call 61; refine (byte_any a len cap zs τ2 c w2.drew (H2.out.same rfl)).mono ?_; rintro e w3 ⟨b, τ3, hf3, rfl, hc3, ho3⟩; obtain ⟨hb0, hb1⟩ := byteS_range hf3; have hone := one_string w3 (IntKind.u8.wrap b) (UInt8.ofNat b.toNat) (by rw [IntKind.wrap_u8, UInt8.toNat_ofNat']; omega); have hone' := one_string w3 b (UInt8.ofNat b.toNat) (by rw [UInt8.toNat_ofNat']; omega); have F3 := Lib.hid hf3; have H3 := Lib.hid hc3; have O3 := Lib.hid ho3; clear hf3 hc3 ho3)
      all_goals
        go_wp2_with fail
        go_ret
        refine ⟨_, τ3, ?_, rfl, (H3.out.alloc _).same rfl, (O2.out.drew.trans O3.out).alloc _⟩
        rw [HF.out]
        simp only [if_true, if_false, Int.reduceEq, F3.out, oneByte]
    · have t1 : (v == 1) = false := beq_eq_false_iff_ne.2 e1
      by_cases e2 : v = 2
      · subst e2
        go_wp2_with fail
        go_ret
        exact ⟨_, τ2, by rw [HF.out]; simp, rfl, H2.out, O2.out⟩
      · have t2 : (v == 2) = false := beq_eq_false_iff_ne.2 e2
        have hat : Hid (byteAt s k = (s[k].toNat : Int)) := by show _ = _; unfold byteAt; rw [dif_pos hks]
        have HX : ∀ y : Int, Hid (IntKind.u8.wrap y = ((UInt8.ofNat (y % 256).toNat).toNat : Int)) := fun y => by show _ = _; rw [IntKind.wrap_u8, UInt8.toNat_ofNat']; omega
        have HX' : ∀ y : Int, Hid (y % 256 = ((UInt8.ofNat (y % 256).toNat).toNat : Int)) := fun y => by show _ = _; rw [UInt8.toNat_ofNat']; omega
        have hbt : (s[k].toNat : Int) < 256 := by have := s[k].toNat_lt; omega
        have ew1 : IntKind.i64.wrap (s[k].toNat : Int) = (s[k].toNat : Int) := IntWalk.i64_in _ (by omega)
        go_wp2_with fail
        go_region_with (go_at_call 54; refine (below_any a len cap zs τ2 c w2.drew (H2.out.same rfl) 255 (by omega) (by omega)).mono ?_; rintro e w3 ⟨d, τ3, hf3, rfl, hc3, ho3⟩; obtain ⟨hd0, hd1⟩ := belowS_range (by omega) hf3; have ew2 : IntKind.i64.wrap (1 + d) = 1 + d := IntWalk.i64_in _ (by omega); have hone := one_string w3 _ _ (HX (bits BinOp.xor IntKind.i64 (s[k].toNat : Int) (1 + d))).out; have hone' := one_string w3 _ _ (HX' (bits BinOp.xor IntKind.i64 (s[k].toNat : Int) (1 + d))).out; have F3 := Lib.hid hf3; have H3 := Lib.hid hc3; have O3 := Lib.hid ho3; clear hf3 hc3 ho3)
        all_goals
          go_wp2_with fail
          go_ret
          refine ⟨_, τ3, ?_, rfl, (H3.out.alloc _).same rfl, (O2.out.drew.trans O3.out).alloc _⟩
          rw [HF.out, if_neg e0, if_neg e1, if_neg e2, F3.out, hat.out]
          rfl

theorem spoil_any (a : Option Addr) (len cap : Nat) (zs : List Int) (σ : Int × Int) (c : Nat) (w : World) (hc : Cur a len cap zs σ w c) (halt : ∀ x, a = some x → 0 < cap → x.block < w.heap.size) (s : ByteArray) (hs : s.size ≤ 1000) :
    Calls Tryd.prog 44 #[.pointer (some ⟨c, 0, none⟩), .string s] w (Strung (spoilS zs len s) a len cap zs σ c w) := by
  by_cases h0 : s.size = 0
  · exact spoil_empty a len cap zs σ c w hc halt s h0
  · exact spoil_more a len cap zs σ c w hc s (by omega) hs
end Go.Proofs.YtpgckggmcehmpaaDoor
