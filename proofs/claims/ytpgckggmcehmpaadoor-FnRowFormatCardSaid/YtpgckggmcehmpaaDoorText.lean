/- l1Text: some string of at most the given length. -/
import Derived.Test.YtpgckggmcehmpaaDoorPick
namespace Go.Proofs.YtpgckggmcehmpaaDoor
open Go.RowKit

/-- 'out = append(out, b)' where only the blocks from B on are the call's own. -/
theorem wpList_pushB {ops : Array Oper} {rest : List Oper} {o : Oper} {a : Act} {Q : Exit → Act → World → Prop} {wr : World} {B : Nat} {out : List UInt8} {n : Int} {v : Value} (s x : Operand) (b : UInt8)
    (hgd : o.guard = none) (ho : o.op = .call { callee := .builtin .append, args := #[s, x], argTypes := #[22, 22] })
    (hs : a.eval s = v) (hx : a.eval x = .slice (some ⟨wr.heap.size, 0, none⟩) 1 1) (hown : wr.ownsRow B 5 1 v out.length (b8 out)) (hB : B ≤ wr.heap.size)
    (hlen : out.length + 1 ≤ 140737488355328) (hn : n = (b.toNat : Int))
    (h : ∀ v' w', w'.ownsRow B 5 1 v' (out ++ [b]).length (b8 (out ++ [b])) → Below B wr w' → wpList Tryd.prog ops Q rest (a.put o.dst v') w') :
    wpList Tryd.prog ops Q (o :: rest) a (wr.alloc (.cells #[.int .u8 n] 5)) := by
  obtain ⟨i0, hi, hz0, hz1, hz2⟩ := info_parts byte_info
  refine wpList_append_own _ hgd s x 22 ho B 5 i0 (.int .u8 0) 1 1 Tryd.underlying22 hi hz0 hz1 hz2 rfl (by decide) v out.length (b8 out) hs (hown.alloc _)
    ⟨wr.heap.size, 0, none⟩ 1 1 [.int .u8 n] hx rfl (cell_new1 _ _ _) (by intro u hu; simp at hu; subst hu; rfl) (by unfold maxLen; omega) (by omega) (by simp; omega) ?_
  intro v' w' hown' hg _
  rw [b8_snoc out b n hn] at hown'
  exact h v' w' (by simpa using hown') (((Below.refl B wr).alloc hB _).grown hg (by simp; omega) fun k hk => (hown.lt k hk).1)

/-- One byte of l1Text, by its style. -/
def styled (st b : Int) : UInt8 := UInt8.ofNat (if st = 1 then b % 2 else if st = 2 then 97 + b % 4 else b).toNat
/-- The loop of l1Text: k bytes more behind l. -/
def textLoop (zs : List Int) (len : Nat) (st : Int) : Nat → List UInt8 → Int × Int → List UInt8 × (Int × Int)
  | 0, l, σ => (l, σ)
  | k + 1, l, σ => textLoop zs len st k (l ++ [styled st (byteS zs len σ).1]) (byteS zs len σ).2
/-- l1Text as a function of the cursor's state. -/
def textS (zs : List Int) (len : Nat) (m : Int) (σ : Int × Int) : List UInt8 × (Int × Int) :=
  let st := belowS zs len 4 σ
  let n := belowS zs len (m + 1) st.2
  textLoop zs len st.1 n.1.toNat [] n.2
theorem textLoop_length (zs : List Int) (len : Nat) (st : Int) : ∀ (k : Nat) (l : List UInt8) (σ : Int × Int), (textLoop zs len st k l σ).1.length = l.length + k
  | 0, _, _ => rfl
  | k + 1, l, σ => by rw [textLoop, textLoop_length zs len st k, List.length_append, List.length_singleton]; omega
theorem textS_length (zs : List Int) (len : Nat) (m : Int) (σ : Int × Int) (hm : 0 ≤ m) : ((textS zs len m σ).1.length : Int) ≤ m := by
  unfold textS
  simp only []
  rw [textLoop_length]
  have := belowS_fst zs len (m + 1) (belowS zs len 4 σ).2 (by omega)
  simp only [List.length_nil]; omega
/-- What a function that draws a string answers. -/
def Texted (F : Int × Int → List UInt8 × (Int × Int)) (a : Option Addr) (len cap : Nat) (zs : List Int) (σ : Int × Int) (c : Nat) (w : World) (e : Ending) (w' : World) : Prop :=
  ∃ (l : List UInt8) (τ : Int × Int), F σ = (l, τ) ∧ e = .returned (.string ⟨l.toArray⟩) ∧ Cur a len cap zs τ w' c ∧ Only c w w'

theorem own_only {w w' : World} {B c : Nat} {v : Value} {n : Nat} {xs : List Value} (h : w.ownsRow B 5 1 v n xs) (ho : Only c w w') (hc : c < B) : w'.ownsRow B 5 1 v n xs :=
  h.kept ho (by
    cases hv : v.ownBlock with
    | none => exact .inl rfl
    | some k =>
      refine .inr fun e => ?_
      have := (h.lt k hv).1
      injection e with e
      omega)

set_option maxRecDepth 100000 in
theorem text_any (a : Option Addr) (len cap : Nat) (zs : List Int) (σ : Int × Int) (c : Nat) (w : World) (hc : Cur a len cap zs σ w c) (halt : ∀ x, a = some x → 0 < cap → x.block < w.heap.size) (m : Int) (h0 : 0 ≤ m) (h1 : m ≤ 1000) :
    Calls Tryd.prog 60 #[.pointer (some ⟨c, 0, none⟩), .int .i64 m] w (Texted (textS zs len m) a len cap zs σ c w) := by
  have hcl := hc.lt
  have hb0 : Below w.heap.size w (w.alloc (.cells #[] 5)) := (Below.refl _ _).alloc (Nat.le_refl _) _
  have HC0 := Lib.hid (hc.below hb0 hcl halt)
  have HO0 := Lib.hid (World.ownsRow_made (e := 5) (size := 1) (base := w.heap.size) w #[] 0 (Nat.le_refl _) (by unfold maxLen; omega) rfl)
  have O0 := Lib.hid (Only.of_below (c := c) hb0)
  have HA := Lib.hid halt
  clear hb0 hc halt
  go_enter Tryd.func60, Tryd.ntmps60
  go_wp2_with fail
  refine (below_any a len cap zs _ c _ HC0.out 4 (by omega) (by omega)).mono ?_
  rintro e w1 ⟨st, τ1, hf1, rfl, hc1, ho1⟩
  obtain ⟨hs0, hs1⟩ := belowS_range (by omega) hf1
  have F1 := Lib.hid hf1
  clear hf1
  have H1 := Lib.hid hc1
  have O1 := Lib.hid (O0.out.trans ho1)
  have W1 := Lib.hid (own_only HO0.out ho1 hcl)
  clear hc1 ho1 HO0 O0 HC0
  go_wp2_with fail
  refine (below_any a len cap zs _ c _ H1.out (m + 1) (by omega) (by omega)).mono ?_
  rintro e w2 ⟨cnt, τ2, hf2, rfl, hc2, ho2⟩
  obtain ⟨hn0, hn1⟩ := belowS_range (by omega) hf2
  have F2 := Lib.hid hf2
  clear hf2
  have HT : Hid (textS zs len m σ = textLoop zs len st cnt.toNat [] τ2) := by show _ = _; unfold textS; rw [F1.out]; simp only []; rw [F2.out]
  have H2 := Lib.hid hc2
  have O2 := Lib.hid (O1.out.trans ho2)
  have W2 := Lib.hid (own_only W1.out ho2 hcl)
  clear hc2 ho2 H1 O1 W1
  go_wp2_with fail
  go_loopw [5, 7, 8] (fun v i _ wr => ∃ (k : Int) (x : Value) (l : List UInt8) (τ : Int × Int), i = .int .i64 k ∧ x = v ∧ 0 ≤ k ∧ k ≤ m ∧ Hid ((l.length : Int) + k ≤ m) ∧ Hid (wr.ownsRow w.heap.size 5 1 x l.length (b8 l)) ∧ Hid (Cur a len cap zs τ wr c) ∧ Hid (Only c w wr) ∧ Hid (textS zs len m σ = textLoop zs len st k.toNat l τ)) (fun _ i _ _ => (intOf i).toNat)
  case atStart => exact ⟨cnt, _, [], τ2, rfl, rfl, hn0, by omega, by show ((0 : Nat) : Int) + cnt ≤ m; omega, W2, H2, O2, HT⟩
  case round =>
    obtain ⟨k, x, l, τ, rfl, rfl, hk0, hk1, hlk, hown, hcur, honly, hTL⟩ := hrel
    by_cases hk : 0 < k
    · go_wp2_with fail
      refine (byte_any a len cap zs _ c _ hcur.out).mono ?_
      rintro e w3 ⟨b, τ3, hf3, rfl, hc3, ho3⟩
      obtain ⟨hb0, hb1⟩ := byteS_range hf3
      have F3 := Lib.hid hf3
      clear hf3
      have hstep : ∀ y : UInt8, styled st b = y → textS zs len m σ = textLoop zs len st (k - 1).toNat (l ++ [y]) τ3 := fun y hy => by rw [hTL.out, show k.toNat = (k - 1).toNat + 1 by omega, textLoop, F3.out]; simp only []; rw [hy]
      have HS := Lib.hid hstep
      clear hstep
      have H3 := Lib.hid hc3
      have O3 := Lib.hid (honly.out.trans ho3)
      have W3 := Lib.hid (own_only hown.out ho3 hcl)
      have hsz := O3.out.size
      have hll : l.length ≤ 1000 := by have := hlk.out; omega
      clear hc3 ho3 hcur honly hown
      by_cases hs : st = 1
      · subst hs
        have HN : Hid (b % 2 = ((UInt8.ofNat (b % 2).toNat).toNat : Int)) := by show _ = _; rw [UInt8.toNat_ofNat']; omega
        go_wp2_with (at_builtin; refine wpList_pushB (.tmp 31) (.tmp 34) (UInt8.ofNat (b % 2).toNat) rfl rfl rfl rfl W3.out hsz (by omega) HN.out ?_; intro v4 w4 hown4 hb4)
        go_roundw
        case rel =>
          refine ⟨k - 1, _, _, τ3, rfl, rfl, by omega, by omega, ?_, hown4, H3.out.below hb4 hcl fun x hx hp => HA.out x hx hp, O3.out.step hb4, HS.out _ (by unfold styled; rw [if_pos rfl])⟩
          show _ ≤ _
          have := hlk.out
          rw [List.length_append, List.length_singleton]; omega
        case measure => simp [intOf]; omega
      · have e1 : (st == 1) = false := beq_eq_false_iff_ne.2 hs
        clear hs
        by_cases hs2 : st = 2
        · subst hs2
          have HN : Hid (97 + b % 4 = ((UInt8.ofNat (97 + b % 4).toNat).toNat : Int)) := by show _ = _; rw [UInt8.toNat_ofNat']; omega
          go_wp2_with (at_builtin; refine wpList_pushB (.tmp 31) (.tmp 34) (UInt8.ofNat (97 + b % 4).toNat) rfl rfl rfl rfl W3.out hsz (by omega) HN.out ?_; intro v4 w4 hown4 hb4)
          go_roundw
          case rel =>
            refine ⟨k - 1, _, _, τ3, rfl, rfl, by omega, by omega, ?_, hown4, H3.out.below hb4 hcl fun x hx hp => HA.out x hx hp, O3.out.step hb4, HS.out _ (by unfold styled; rw [if_neg (by decide), if_pos rfl])⟩
            show _ ≤ _
            have := hlk.out
            rw [List.length_append, List.length_singleton]; omega
          case measure => simp [intOf]; omega
        · have e2 : (st == 2) = false := beq_eq_false_iff_ne.2 hs2
          clear hs2
          have HN : Hid (b = ((UInt8.ofNat b.toNat).toNat : Int)) := by show _ = _; rw [UInt8.toNat_ofNat']; omega
          go_wp2_with (at_builtin; refine wpList_pushB (.tmp 31) (.tmp 34) (UInt8.ofNat b.toNat) rfl rfl rfl rfl W3.out hsz (by omega) HN.out ?_; intro v4 w4 hown4 hb4)
          go_roundw
          case rel =>
            refine ⟨k - 1, _, _, τ3, rfl, rfl, by omega, by omega, ?_, hown4, H3.out.below hb4 hcl fun x hx hp => HA.out x hx hp, O3.out.step hb4, HS.out _ (by unfold styled; rw [if_neg (by simpa using e1), if_neg (by simpa using e2)])⟩
            show _ ≤ _
            have := hlk.out
            rw [List.length_append, List.length_singleton]; omega
          case measure => simp [intOf]; omega
    · have hrun := run_own_string hown.out
      go_wp2_with fail
      go_ret
      exact ⟨l, τ, by rw [hTL.out, show k.toNat = 0 by omega]; rfl, rfl, hcur.out, honly.out⟩
end Go.Proofs.YtpgckggmcehmpaaDoor
