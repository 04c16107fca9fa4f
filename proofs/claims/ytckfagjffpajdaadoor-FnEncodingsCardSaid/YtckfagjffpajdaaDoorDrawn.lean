/- DrawEncodeVarint, DrawEncodeHex, DrawDecodeVarint: what they draw from a code, as functions of the code. -/
import Derived.Test.YtckfagjffpajdaaDoorSpoil
import Derived.Test.YtckfagjffpajdaaDoorVar
namespace Go.Proofs.YtckfagjffpajdaaDoor
open Go.RowKit Num

/-- The code that came in, as the walks take it. -/
structure Code (a : Option Addr) (len cap : Nat) (zs : List Int) (w : World) : Prop where
  row : IsRow .u8 w a len cap zs
  small : len ≤ 1048576
  old : ∀ x, a = some x → 0 < cap → x.block < w.heap.size
theorem Code.below {a : Option Addr} {len cap : Nat} {zs : List Int} {w w' : World} (h : Code a len cap zs w) (hb : Below w.heap.size w w') : Code a len cap zs w' :=
  ⟨h.row.keep fun x hx hp _ => hb.block x.block (h.old x hx hp), h.small, fun x hx hp => Nat.lt_of_lt_of_le (h.old x hx hp) hb.size⟩

def drawN (zs : List Int) (len : Nat) : Int × (Int × Int) := numS zs len (0, newH zs len)
def drawT (zs : List Int) (len : Nat) : List UInt8 := (textS zs len 40 (0, newH zs len)).1
/-- The string that DrawDecodeVarint draws. -/
def base (zs : List Int) (len : Nat) : ByteArray := ⟨(encVar (drawN zs len).1).toArray⟩ ++ ⟨(textS zs len 4 (drawN zs len).2).1.toArray⟩
def drawD (zs : List Int) (len : Nat) : ByteArray :=
  if (belowS zs len 4 (textS zs len 4 (drawN zs len).2).2).1 = 0 then (spoilS zs len (base zs len) (belowS zs len 4 (textS zs len 4 (drawN zs len).2).2).2).1 else base zs len
theorem encVar_length (n : Int) : (encVar n).length ≤ 7 := by
  unfold encVar
  split
  · exact (leb_length 6 _).2
  · simp
theorem base_size (zs : List Int) (len : Nat) : (base zs len).size ≤ 11 := by
  have h1 := encVar_length (drawN zs len).1
  have h2 := textS_length zs len 4 (drawN zs len).2 (by omega)
  unfold base
  rw [ByteArray.size_append]
  show (encVar _).toArray.size + (textS zs len 4 _).1.toArray.size ≤ 11
  simp only [List.size_toArray]; omega

theorem big_no (a : Option Addr) (len cap : Nat) (w : World) (h : len ≤ 1048576) : Calls Tryd.prog 6 #[.slice a len cap] w fun e w' => e = .returned (.bool false) ∧ w = w' := by
  have hd : decide ((1048576 : Int) < len) = false := by simp; omega
  go_enter Tryd.func6, Tryd.ntmps6
  go_wp2
  go_ret
  exact ⟨rfl, rfl⟩
theorem big_yes (a : Option Addr) (len cap : Nat) (w : World) (h : 1048576 < len) : Calls Tryd.prog 6 #[.slice a len cap] w fun e w' => e = .returned (.bool true) ∧ w = w' := by
  have hd : decide ((1048576 : Int) < len) = true := by simp; omega
  go_enter Tryd.func6, Tryd.ntmps6
  go_wp2
  go_ret
  exact ⟨rfl, rfl⟩

theorem drawn_num (a : Option Addr) (len cap : Nat) (zs : List Int) (w : World) (h : Code a len cap zs w) :
    Calls Tryd.prog 7 #[.slice a len cap] w fun e w' => e = .returned (.int .i64 (drawN zs len).1) ∧ Below w.heap.size w w' := by
  have H := Lib.hid h
  clear h
  go_enter Tryd.func7, Tryd.ntmps7
  go_wp2_with fail
  refine (new_any a len cap zs _ H.out.row H.out.small H.out.old).mono ?_
  rintro e w1 ⟨c, rfl, hc1, hcl, hb1⟩
  have H1 := Lib.hid hc1
  have B1 := Lib.hid hb1
  clear hc1 hb1
  go_wp2_with fail
  refine (num_any a len cap zs _ c _ H1.out (fun x hx hp => Nat.lt_of_lt_of_le (H.out.old x hx hp) B1.out.size)).mono ?_
  rintro e w2 ⟨x, τ, hx, rfl, hc2, ho2⟩
  have F := Lib.hid hx
  have O2 := Lib.hid ho2
  clear hx hc2 ho2
  go_wp2_with fail
  go_ret
  exact ⟨by unfold drawN; rw [F.out]; rfl, B1.out.trans (O2.out.below B1.out.size hcl)⟩
theorem drawn_text (a : Option Addr) (len cap : Nat) (zs : List Int) (w : World) (h : Code a len cap zs w) :
    Calls Tryd.prog 8 #[.slice a len cap] w fun e w' => e = .returned (.string ⟨(drawT zs len).toArray⟩) ∧ Below w.heap.size w w' := by
  have H := Lib.hid h
  clear h
  go_enter Tryd.func8, Tryd.ntmps8
  go_wp2_with fail
  refine (new_any a len cap zs _ H.out.row H.out.small H.out.old).mono ?_
  rintro e w1 ⟨c, rfl, hc1, hcl, hb1⟩
  have H1 := Lib.hid hc1
  have B1 := Lib.hid hb1
  clear hc1 hb1
  go_wp2_with fail
  refine (text_any a len cap zs _ c _ H1.out (fun x hx hp => Nat.lt_of_lt_of_le (H.out.old x hx hp) B1.out.size) 40 (by omega) (by omega)).mono ?_
  rintro e w2 ⟨x, τ, hx, rfl, hc2, ho2⟩
  have F := Lib.hid hx
  have O2 := Lib.hid ho2
  clear hx hc2 ho2
  go_wp2_with fail
  go_ret
  exact ⟨by unfold drawT; rw [F.out]; rfl, B1.out.trans (O2.out.below B1.out.size hcl)⟩
set_option maxRecDepth 100000 in
theorem drawn_dec (a : Option Addr) (len cap : Nat) (zs : List Int) (w : World) (h : Code a len cap zs w) :
    Calls Tryd.prog 17 #[.slice a len cap] w fun e w' => e = .returned (.string (drawD zs len)) ∧ Below w.heap.size w w' := by
  have H := Lib.hid h
  clear h
  go_enter Tryd.func17, Tryd.ntmps17
  go_wp2_with fail
  refine (new_any a len cap zs _ H.out.row H.out.small H.out.old).mono ?_
  rintro e w1 ⟨c, rfl, hc1, hcl, hb1⟩
  have H1 := Lib.hid hc1
  have B1 := Lib.hid hb1
  clear hc1 hb1
  go_wp2_with fail
  refine (num_any a len cap zs _ c _ H1.out (fun x hx hp => Nat.lt_of_lt_of_le (H.out.old x hx hp) B1.out.size)).mono ?_
  rintro e w2 ⟨n, τ2, hf2, rfl, hc2, ho2⟩
  have F2 : Hid (drawN zs len = (n, τ2)) := hf2
  have H2 := Lib.hid hc2
  have B2 := Lib.hid (B1.out.trans (ho2.below B1.out.size hcl))
  clear hf2 hc2 ho2
  go_wp2_with fail
  refine (senc n _).mono ?_
  rintro e w3 ⟨rfl, hb3⟩
  have H3 := Lib.hid (H2.out.below hb3 H2.out.lt (fun x hx hp => Nat.lt_of_lt_of_le (H.out.old x hx hp) B2.out.size))
  have B3 := Lib.hid (B2.out.trans (hb3.mono B2.out.size))
  clear hb3
  go_wp2_with fail
  refine (text_any a len cap zs _ c _ H3.out (fun x hx hp => Nat.lt_of_lt_of_le (H.out.old x hx hp) B3.out.size) 4 (by omega) (by omega)).mono ?_
  rintro e w4 ⟨l, τ4, hf4, rfl, hc4, ho4⟩
  have hlen := textS_length zs len 4 τ2 (by omega)
  rw [hf4] at hlen
  have F4 := Lib.hid hf4
  have H4 := Lib.hid hc4
  have B4 := Lib.hid (B3.out.trans (ho4.below B3.out.size hcl))
  have hel := encVar_length n
  clear hf4 hc4 ho4
  have hbase : Hid (base zs len = ⟨(encVar n).toArray⟩ ++ ⟨l.toArray⟩) := by show _ = _; unfold base; rw [F2.out]; simp only []; rw [F4.out]
  have hbs : Hid ((⟨(encVar n).toArray⟩ ++ ⟨l.toArray⟩ : ByteArray).size ≤ 1000) := by show _ ≤ _; have := base_size zs len; rw [hbase.out] at this; omega
  go_wp2_with fail
  refine (once_any a len cap zs _ c _ H4.out 4 (by omega) (by omega)).mono ?_
  rintro e w5 ⟨o, τ5, hf5, rfl, hc5, ho5⟩
  have F5 := Lib.hid hf5
  have H5 := Lib.hid hc5
  have B5 := Lib.hid (B4.out.trans (ho5.below B4.out.size hcl))
  clear hf5 hc5 ho5
  have hD : Hid (drawD zs len = if o = 0 then (spoilS zs len (base zs len) τ5).1 else base zs len) := by
    show _ = _
    unfold drawD
    rw [F2.out]; simp only []
    rw [F4.out]; simp only []
    rw [F5.out]
  by_cases h0 : o = 0
  · have t0 : (o == 0) = true := by rw [beq_iff_eq]; exact h0
    have hD0 : Hid (drawD zs len = (spoilS zs len (base zs len) τ5).1) := by show _ = _; rw [hD.out, if_pos h0]
    clear h0
    go_wp2_with fail
    refine (spoil_any a len cap zs _ c _ H5.out (fun x hx hp => Nat.lt_of_lt_of_le (H.out.old x hx hp) B5.out.size) _ hbs.out).mono ?_
    rintro e w6 ⟨t, τ6, hf6, rfl, hc6, ho6⟩
    have F6 := Lib.hid hf6
    have B6 := Lib.hid (B5.out.trans (ho6.below B5.out.size hcl))
    clear hf6 hc6 ho6
    go_wp2_with fail
    go_ret
    exact ⟨by rw [hD0.out, hbase.out, F6.out]; rfl, B6.out⟩
  · have t0 : (o == 0) = false := beq_eq_false_iff_ne.2 h0
    have hD0 : Hid (drawD zs len = base zs len) := by show _ = _; rw [hD.out, if_neg h0]
    clear h0
    go_wp2_with fail
    go_ret
    exact ⟨by rw [hD0.out, hbase.out]; rfl, B5.out⟩
end Go.Proofs.YtckfagjffpajdaaDoor
