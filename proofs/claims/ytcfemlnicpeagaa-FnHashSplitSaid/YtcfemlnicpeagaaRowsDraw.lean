/- l2Rows, l2Bent: the rows that are drawn, as functions of the cursor's state. -/
import Derived.Test.YtcfemlnicpeagaaRowDraw
import Derived.Test.YtcfemlnicpeagaaMem
namespace Go.Proofs.Ytcfemlnicpeagaa
open Go.RowKit

/-- What a function that draws rows answers: a slice over memory of the call's own. -/
def Rowsed (F : Int × Int → List R × (Int × Int)) (a : Option Addr) (len cap : Nat) (zs : List Int) (σ : Int × Int) (c : Nat) (w : World) (e : Ending) (w' : World) : Prop :=
  ∃ (v : Value) (L : List R) (τ : Int × Int), F σ = (L, τ) ∧ e = .returned v ∧ w'.ownsRow w.heap.size 34 3 v L.length (cells3 L) ∧ Cur a len cap zs τ w' c ∧ Only c w w'
def keysL : List Int := [1, 2, 4, 10]
def rowsLoop (zs : List Int) (len : Nat) (keys : Int) : Nat → List R → Int × Int → List R × (Int × Int)
  | 0, l, σ => (l, σ)
  | n + 1, l, σ => rowsLoop zs len keys n (l ++ [(rowS zs len keys σ).1]) (rowS zs len keys σ).2
/-- l2Rows as a function of the cursor's state. -/
def rowsS (zs : List Int) (len : Nat) (most : Int) (σ : Int × Int) : List R × (Int × Int) :=
  let k := pickS zs len keysL σ
  let n := belowS zs len (most + 1) k.2
  rowsLoop zs len k.1 n.1.toNat [] n.2
theorem rowsLoop_length (zs : List Int) (len : Nat) (keys : Int) : ∀ (n : Nat) (l : List R) (σ : Int × Int), (rowsLoop zs len keys n l σ).1.length = l.length + n
  | 0, l, σ => rfl
  | n + 1, l, σ => by rw [rowsLoop, rowsLoop_length zs len keys n]; simp; omega
theorem rowsLoop_wf (zs : List Int) (len : Nat) (keys : Int) (h1 : 1 ≤ keys) (h2 : keys ≤ 1000000000) : ∀ (n : Nat) (l : List R) (σ : Int × Int), (∀ r ∈ l, r.wf) → ∀ r ∈ (rowsLoop zs len keys n l σ).1, r.wf
  | 0, l, σ, h => h
  | n + 1, l, σ, h => by
    rw [rowsLoop]
    refine rowsLoop_wf zs len keys h1 h2 n _ _ fun r hr => ?_
    rcases List.mem_append.1 hr with hr | hr
    · exact h r hr
    · rw [List.mem_singleton.1 hr]; exact rowS_wf zs len keys σ h1 h2
theorem keys_range (zs : List Int) (len : Nat) (σ : Int × Int) : 1 ≤ (pickS zs len keysL σ).1 ∧ (pickS zs len keysL σ).1 ≤ 10 := by
  have := pickS_mem zs len keysL σ (by decide)
  unfold keysL at this ⊢
  simp only [List.mem_cons, List.not_mem_nil, or_false] at this
  omega
theorem rowsS_length (zs : List Int) (len : Nat) (most : Int) (σ : Int × Int) (hm : 0 ≤ most) : ((rowsS zs len most σ).1.length : Int) ≤ most := by
  unfold rowsS
  simp only []
  rw [rowsLoop_length]
  have := belowS_fst zs len (most + 1) (pickS zs len keysL σ).2 (by omega)
  simp only [List.length_nil]; omega
theorem rowsS_wf (zs : List Int) (len : Nat) (most : Int) (σ : Int × Int) : ∀ r ∈ (rowsS zs len most σ).1, r.wf := by
  have hk := keys_range zs len σ
  unfold rowsS
  simp only []
  exact rowsLoop_wf zs len _ hk.1 (by omega) _ _ _ (fun r hr => by cases hr)
theorem own_onlyR {w w' : World} {B c : Nat} {v : Value} {n : Nat} {xs : List Value} (h : w.ownsRow B 34 3 v n xs) (ho : Only c w w') (hc : c < B) : w'.ownsRow B 34 3 v n xs :=
  h.kept ho (by
    cases hv : v.ownBlock with
    | none => exact .inl rfl
    | some k =>
      refine .inr fun e => ?_
      have := (h.lt k hv).1
      injection e with e
      omega)
set_option maxRecDepth 100000 in
theorem rows_any (a : Option Addr) (len cap : Nat) (zs : List Int) (σ : Int × Int) (c : Nat) (w : World) (hc : Cur a len cap zs σ w c) (halt : ∀ x, a = some x → 0 < cap → x.block < w.heap.size) (most : Int) (h0 : 0 ≤ most) (h1 : most ≤ 1000) :
    Calls Try.prog 37 #[.pointer (some ⟨c, 0, none⟩), .int .i64 most] w (Rowsed (rowsS zs len most) a len cap zs σ c w) := by
  have hb0 : Below w.heap.size w (w.alloc (.cells #[] 34)) := (Below.refl _ _).alloc (Nat.le_refl _) _
  have hcl := hc.lt
  have H0 := Lib.hid (hc.below hb0 hcl halt)
  have O0 := Lib.hid (Only.of_below (c := c) hb0)
  have W0 := Lib.hid (World.ownsRow_made (e := 34) (size := 3) (base := w.heap.size) w #[] 0 (Nat.le_refl _) (by unfold maxLen; omega) rfl)
  have HA := Lib.hid halt
  clear hc halt hb0
  have H1 := Lib.hid (H0.out.alloc (.cells (keysL.map (Value.int .i64)).toArray 3))
  have O1 := Lib.hid (O0.out.alloc (.cells (keysL.map (Value.int .i64)).toArray 3))
  have W1 := Lib.hid (W0.out.alloc (.cells (keysL.map (Value.int .i64)).toArray 3))
  have I1 := Lib.hid (ints_alloc (w.alloc (.cells #[] 34)) keysL)
  have hg : (w.alloc (.cells #[] 34)).heap.size = w.heap.size + 1 := by simp
  rw [hg] at I1
  have hne : ¬ w.heap.size + 1 = c := by omega
  clear hg
  go_enter Try.func37, Try.ntmps37
  go_wp2_with fail
  refine (pick_any a len cap zs _ c _ H1.out _ 4 4 keysL I1.out hne rfl (by omega) (by omega)).mono ?_
  rintro e w1 ⟨key, τ1, hf1, rfl, hc1, ho1⟩
  have hk := keys_range zs len σ
  rw [hf1] at hk
  obtain ⟨hk1, hk2⟩ := hk
  have F1 := Lib.hid hf1
  have H2 := Lib.hid hc1
  have O2 := Lib.hid (O1.out.trans ho1)
  have W2 := Lib.hid (own_onlyR W1.out ho1 hcl)
  clear hf1 hc1 ho1 H0 O0 W0 H1 O1 W1 I1
  go_wp2_with fail
  refine (below_any a len cap zs _ c _ H2.out (most + 1) (by omega) (by omega)).mono ?_
  rintro e w2 ⟨cnt, τ2, hf2, rfl, hc2, ho2⟩
  obtain ⟨hn0, hn1⟩ := belowS_range (by omega) hf2
  have F2 := Lib.hid hf2
  have H3 := Lib.hid hc2
  have O3 := Lib.hid (O2.out.trans ho2)
  have W3 := Lib.hid (own_onlyR W2.out ho2 hcl)
  have HT : Hid (rowsS zs len most σ = rowsLoop zs len key cnt.toNat [] τ2) := by show _ = _; unfold rowsS; rw [F1.out]; simp only []; rw [F2.out]
  clear hf2 hc2 ho2 H2 O2 W2
  go_wp2_with fail
  go_loopw [5, 7] (fun v i wr => ∃ (k : Int) (x : Value) (l : List R) (τ : Int × Int), i = .int .i64 k ∧ x = v ∧ 0 ≤ k ∧ k ≤ most ∧ Hid ((l.length : Int) + k ≤ most) ∧ Hid (wr.ownsRow w.heap.size 34 3 x l.length (cells3 l)) ∧ Hid (Cur a len cap zs τ wr c) ∧ Hid (Only c w wr) ∧ Hid (rowsS zs len most σ = rowsLoop zs len key k.toNat l τ)) (fun _ i _ => (intOf i).toNat)
  case atStart => exact ⟨cnt, _, [], τ2, rfl, rfl, hn0, by omega, by show ((0 : Nat) : Int) + cnt ≤ most; omega, W3, H3, O3, HT⟩
  case round =>
    obtain ⟨k, x, l, τ, rfl, rfl, hk0, hkm, hlk, hown, hcur, honly, hTL⟩ := hrel
    by_cases hk : 0 < k
    · have HAr := Lib.hid fun y hy hp => Nat.lt_of_lt_of_le (HA.out y hy hp) honly.out.size
      go_wp2_with fail
      refine (row_any a len cap zs _ c _ hcur.out HAr.out key hk1 (by omega)).mono ?_
      rintro e w3 ⟨r, τ3, hf3, rfl, hc3, ho3⟩
      have F3 := Lib.hid hf3
      have HS : Hid (rowsS zs len most σ = rowsLoop zs len key (k - 1).toNat (l ++ [r]) τ3) := by
        show _ = _
        rw [hTL.out, show k.toNat = (k - 1).toNat + 1 by omega, rowsLoop, F3.out]
      have H4 := Lib.hid hc3
      have O4 := Lib.hid (honly.out.trans ho3)
      have W4 := Lib.hid (own_onlyR hown.out ho3 hcl)
      have hsz := O4.out.size
      have hll : l.length ≤ 1000 := by have := hlk.out; omega
      clear hf3 hc3 ho3 hcur honly hown
      go_wp2_with (at_builtin; refine wpList_pushR (.tmp 20) (.tmp 24) r w3.heap.size rfl rfl rfl rfl rfl W4.out hsz (by omega) ?_; intro v4 w4 hown4 hb4 hrest4)
      go_roundw
      case rel =>
        refine ⟨k - 1, _, _, τ3, by go_num, rfl, by omega, by omega, ?_, hown4, H4.out.below hb4 hcl fun x hx hp => HA.out x hx hp, O4.out.step hb4, HS⟩
        show _ ≤ _
        have := hlk.out
        rw [List.length_append, List.length_singleton]; omega
      case measure => simp [intOf]; omega
    · have hk00 : k = 0 := by omega
      have HF : Hid (rowsS zs len most σ = (l, τ)) := by show _ = _; rw [hTL.out, hk00]; rfl
      clear hk00
      go_wp2_with fail
      go_ret
      exact ⟨_, l, τ, HF.out, rfl, hown.out, hcur.out, honly.out⟩

/-- l2Bent as a function of the cursor's state. -/
def bentS (zs : List Int) (len : Nat) (most : Int) (σ : Int × Int) : List R × (Int × Int) :=
  let l := rowsS zs len most σ
  let v := belowS zs len 14 l.2
  if v.1 = 0 then (l.1 ++ [(anyS zs len v.2).1], (anyS zs len v.2).2) else (l.1, v.2)
theorem bentS_length (zs : List Int) (len : Nat) (most : Int) (σ : Int × Int) (hm : 0 ≤ most) : ((bentS zs len most σ).1.length : Int) ≤ most + 1 := by
  have := rowsS_length zs len most σ hm
  unfold bentS
  simp only []
  split
  · rw [List.length_append, List.length_singleton]; omega
  · simp only []; omega
theorem bentS_wf (zs : List Int) (len : Nat) (most : Int) (σ : Int × Int) : ∀ r ∈ (bentS zs len most σ).1, r.wf := by
  have h := rowsS_wf zs len most σ
  unfold bentS
  simp only []
  split
  · intro r hr
    rcases List.mem_append.1 hr with hr | hr
    · exact h r hr
    · rw [List.mem_singleton.1 hr]; exact anyS_wf zs len _
  · exact h
set_option maxRecDepth 100000 in
theorem bent_any (a : Option Addr) (len cap : Nat) (zs : List Int) (σ : Int × Int) (c : Nat) (w : World) (hc : Cur a len cap zs σ w c) (halt : ∀ x, a = some x → 0 < cap → x.block < w.heap.size) (most : Int) (h0 : 0 ≤ most) (h1 : most ≤ 1000) :
    Calls Try.prog 29 #[.pointer (some ⟨c, 0, none⟩), .int .i64 most] w (Rowsed (bentS zs len most) a len cap zs σ c w) := by
  have hcl := hc.lt
  have H0 := Lib.hid hc
  have HA := Lib.hid halt
  clear hc halt
  go_enter Try.func29, Try.ntmps29
  go_wp2_with fail
  refine (rows_any a len cap zs _ c _ H0.out HA.out most h0 h1).mono ?_
  rintro e w1 ⟨v, L, τ1, hf1, rfl, hw1, hc1, ho1⟩
  have hll := rowsS_length zs len most σ h0
  rw [hf1] at hll
  have hl1 : L.length ≤ 1000 := by
    have : (L.length : Int) ≤ most := hll
    omega
  clear hll
  have F1 := Lib.hid hf1
  have H1 := Lib.hid hc1
  have O1 := Lib.hid ho1
  have W1 := Lib.hid hw1
  clear hf1 hc1 ho1 hw1
  go_wp2_with fail
  refine (once_any a len cap zs _ c _ H1.out 14 (by omega) (by omega)).mono ?_
  rintro e w2 ⟨x, τ2, hf2, rfl, hc2, ho2⟩
  have F2 := Lib.hid hf2
  have H2 := Lib.hid hc2
  have O2 := Lib.hid (O1.out.trans ho2)
  have W2 := Lib.hid (own_onlyR W1.out ho2 hcl)
  clear hf2 hc2 ho2 H1 O1 W1
  by_cases hx : x = 0
  · subst hx
    have HA2 := Lib.hid fun y hy hp => Nat.lt_of_lt_of_le (HA.out y hy hp) O2.out.size
    go_wp2_with fail
    refine (any_any a len cap zs _ c _ H2.out HA2.out).mono ?_
    rintro e w3 ⟨r, τ3, hf3, rfl, hc3, ho3⟩
    have HR : Hid (bentS zs len most σ = (L ++ [r], τ3)) := by
      show _ = _
      unfold bentS
      rw [F1.out]
      simp only []
      rw [F2.out]
      simp only []
      first | rw [if_pos rfl] | rw [if_pos trivial]
      rw [hf3]
    have H3 := Lib.hid hc3
    have O3 := Lib.hid (O2.out.trans ho3)
    have W3 := Lib.hid (own_onlyR W2.out ho3 hcl)
    have hsz := O3.out.size
    clear hf3 hc3 ho3 H2 O2 W2
    go_wp2_with (at_builtin; refine wpList_pushR (.tmp 11) (.tmp 14) r w3.heap.size rfl rfl rfl rfl rfl W3.out hsz (by omega) ?_; intro v4 w4 hown4 hb4 hrest4)
    go_ret
    exact ⟨_, _, τ3, HR.out, rfl, hown4, H3.out.below hb4 hcl fun x hx hp => HA.out x hx hp, O3.out.step hb4⟩
  · have hd : (x == 0) = false := beq_eq_false_iff_ne.2 hx
    have HR : Hid (bentS zs len most σ = (L, τ2)) := by
      show _ = _
      unfold bentS
      rw [F1.out]
      simp only []
      rw [F2.out]
      simp only []
      rw [if_neg hx]
    clear hx
    go_wp2_with fail
    go_ret
    exact ⟨_, L, τ2, HR.out, rfl, W2.out, H2.out, O2.out⟩
end Go.Proofs.Ytcfemlnicpeagaa
