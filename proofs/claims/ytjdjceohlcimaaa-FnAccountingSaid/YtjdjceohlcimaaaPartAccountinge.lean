/- Texts joined: Code Block RowDraw RowsDraw OneRows Draw7 VDr VCu VKt VDc AcctM InT AcctO. -/
import Derived.Test.YtjdjceohlcimaaaPartAccountingd
import Derived.Deep.RegionWith
/- The code that a law draws from, as the walks take it. -/
namespace Go.Proofs.Ytjdjceohlcimaaa
open Go.RowKit

/-- The code that came in, as the walks take it. -/
structure Code (a : Option Addr) (len cap : Nat) (zs : List Int) (w : World) : Prop where
  row : IsRow .u8 w a len cap zs
  small : len ≤ 1048576
  old : ∀ x, a = some x → 0 < cap → x.block < w.heap.size
theorem Code.below {a : Option Addr} {len cap : Nat} {zs : List Int} {w w' : World} (h : Code a len cap zs w) (hb : Below w.heap.size w w') : Code a len cap zs w' :=
  ⟨h.row.keep fun x hx hp _ => hb.block x.block (h.old x hx hp), h.small, fun x hx hp => Nat.lt_of_lt_of_le (h.old x hx hp) hb.size⟩

theorem big_no (a : Option Addr) (len cap : Nat) (w : World) (h : len ≤ 1048576) : Calls Try.prog 10 #[.slice a len cap] w fun e w' => e = .returned (.bool false) ∧ w = w' := by
  have hd : decide ((1048576 : Int) < len) = false := by simp; omega
  go_enter Try.func10, Try.ntmps10
  go_wp2
  go_ret
  exact ⟨rfl, rfl⟩
theorem big_yes (a : Option Addr) (len cap : Nat) (w : World) (h : 1048576 < len) : Calls Try.prog 10 #[.slice a len cap] w fun e w' => e = .returned (.bool true) ∧ w = w' := by
  have hd : decide ((1048576 : Int) < len) = true := by simp; omega
  go_enter Try.func10, Try.ntmps10
  go_wp2
  go_ret
  exact ⟨rfl, rfl⟩
end Go.Proofs.Ytjdjceohlcimaaa
/- A variable of three numbers in a block of its own, behind calls and stores; no function of the program. -/
namespace Go.Proofs.Ytjdjceohlcimaaa
open Go.RowKit

end Go.Proofs.Ytjdjceohlcimaaa
/- l2Row, l2Any: the row that is drawn, as a function of the cursor's state. -/
namespace Go.Proofs.Ytjdjceohlcimaaa
open Go.RowKit

/-- What a function that draws a row answers. -/
def Rowed (F : Int × Int → R × (Int × Int)) (a : Option Addr) (len cap : Nat) (zs : List Int) (σ : Int × Int) (c : Nat) (w : World) (e : Ending) (w' : World) : Prop :=
  ∃ (r : R) (τ : Int × Int), F σ = (r, τ) ∧ e = .returned (.agg #[.int .i64 r.key, .int .i64 r.value, .int .i64 r.width]) ∧ Cur a len cap zs τ w' c ∧ Only c w w'
theorem ints_alloc (w : World) (L : List Int) : Ints (w.alloc (.cells (L.map (Value.int .i64)).toArray 3)) w.heap.size L := by
  intro t ht
  rw [World.cell?_alloc_mark]
  rw [List.getElem?_toArray, List.getElem?_map, List.getElem?_eq_getElem ht, List.getD_eq_getElem?_getD, List.getElem?_eq_getElem ht]; rfl
def widths : List Int := [0, 0, 1, 2, 3]
/-- l2Row as a function of the cursor's state. -/
def rowS (zs : List Int) (len : Nat) (keys : Int) (σ : Int × Int) : R × (Int × Int) :=
  let x := belowS zs len keys σ
  let y := belowS zs len 100 x.2
  let z := pickS zs len widths y.2
  (⟨x.1, y.1, z.1⟩, z.2)
theorem pickS_mem (zs : List Int) (len : Nat) (L : List Int) (σ : Int × Int) (hL : 1 ≤ L.length) : (pickS zs len L σ).1 ∈ L := by
  unfold pickS
  simp only []
  have h := belowS_fst zs len (L.length : Nat) σ (by omega)
  rw [List.getD_eq_getElem?_getD, List.getElem?_eq_getElem (by omega)]
  exact List.getElem_mem _
theorem rowS_range (zs : List Int) (len : Nat) (keys : Int) (σ : Int × Int) (hk : 1 ≤ keys) :
    0 ≤ (rowS zs len keys σ).1.key ∧ (rowS zs len keys σ).1.key < keys ∧ 0 ≤ (rowS zs len keys σ).1.value ∧ (rowS zs len keys σ).1.value < 100 ∧ 0 ≤ (rowS zs len keys σ).1.width ∧ (rowS zs len keys σ).1.width ≤ 3 := by
  have h1 := belowS_fst zs len keys σ hk
  have h2 := belowS_fst zs len 100 (belowS zs len keys σ).2 (by omega)
  have h3 := pickS_mem zs len widths (belowS zs len 100 (belowS zs len keys σ).2).2 (by decide)
  unfold widths at h3
  unfold rowS widths
  simp only [List.mem_cons, List.not_mem_nil, or_false] at h3 ⊢
  omega
theorem rowS_wf (zs : List Int) (len : Nat) (keys : Int) (σ : Int × Int) (hk : 1 ≤ keys) (hk2 : keys ≤ 1000000000) : (rowS zs len keys σ).1.wf := by
  have := rowS_range zs len keys σ hk
  unfold R.wf; omega
/-- l2Any as a function of the cursor's state. -/
def anyS (zs : List Int) (len : Nat) (σ : Int × Int) : R × (Int × Int) :=
  let r := rowS zs len 10 σ
  let v := belowS zs len 8 r.2
  if v.1 = 0 then (⟨(pickS zs len [-1, 10] v.2).1, r.1.value, r.1.width⟩, (pickS zs len [-1, 10] v.2).2)
  else if v.1 = 1 then (⟨r.1.key, (pickS zs len [-1, 100, 99] v.2).1, r.1.width⟩, (pickS zs len [-1, 100, 99] v.2).2)
  else if v.1 = 2 then (⟨r.1.key, r.1.value, (pickS zs len [-1, 4] v.2).1⟩, (pickS zs len [-1, 4] v.2).2)
  else (r.1, v.2)
theorem anyS_wf (zs : List Int) (len : Nat) (σ : Int × Int) : (anyS zs len σ).1.wf := by
  have h := rowS_wf zs len 10 σ (by omega) (by omega)
  unfold R.wf at h ⊢
  unfold anyS
  simp only []
  split
  · have := pickS_mem zs len [-1, 10] (belowS zs len 8 (rowS zs len 10 σ).2).2 (by decide)
    simp only [List.mem_cons, List.not_mem_nil, or_false] at this ⊢
    omega
  · split
    · have := pickS_mem zs len [-1, 100, 99] (belowS zs len 8 (rowS zs len 10 σ).2).2 (by decide)
      simp only [List.mem_cons, List.not_mem_nil, or_false] at this ⊢
      omega
    · split
      · have := pickS_mem zs len [-1, 4] (belowS zs len 8 (rowS zs len 10 σ).2).2 (by decide)
        simp only [List.mem_cons, List.not_mem_nil, or_false] at this ⊢
        omega
      · exact h
end Go.Proofs.Ytjdjceohlcimaaa
/- l2Rows, l2Bent: the rows that are drawn, as functions of the cursor's state. -/
namespace Go.Proofs.Ytjdjceohlcimaaa
open Go.RowKit

def keysL : List Int := [1, 2, 4, 10]
def rowsLoop (zs : List Int) (len : Nat) (keys : Int) : Nat → List R → Int × Int → List R × (Int × Int)
  | 0, l, σ => (l, σ)
  | n + 1, l, σ => rowsLoop zs len keys n (l ++ [(rowS zs len keys σ).1]) (rowS zs len keys σ).2
/-- l2Rows as a function of the cursor's state. -/
def rowsS (zs : List Int) (len : Nat) (most : Int) (σ : Int × Int) : List R × (Int × Int) :=
  let k := pickS zs len keysL σ
  let n := belowS zs len (most + 1) k.2
  rowsLoop zs len k.1 n.1.toNat [] n.2
theorem rowsLoop_length (zs : List Int) (len : Nat) (keys : Int) : ∀ (n : Nat) (l : List R) (σ : Int × Int), (rowsLoop zs len keys n l σ).1.length = l.length + n
  | 0, l, σ => rfl
  | n + 1, l, σ => by rw [rowsLoop, rowsLoop_length zs len keys n]; simp; omega
theorem rowsLoop_wf (zs : List Int) (len : Nat) (keys : Int) (h1 : 1 ≤ keys) (h2 : keys ≤ 1000000000) : ∀ (n : Nat) (l : List R) (σ : Int × Int), (∀ r ∈ l, r.wf) → ∀ r ∈ (rowsLoop zs len keys n l σ).1, r.wf
  | 0, l, σ, h => h
  | n + 1, l, σ, h => by
    rw [rowsLoop]
    refine rowsLoop_wf zs len keys h1 h2 n _ _ fun r hr => ?_
    rcases List.mem_append.1 hr with hr | hr
    · exact h r hr
    · rw [List.mem_singleton.1 hr]; exact rowS_wf zs len keys σ h1 h2
theorem keys_range (zs : List Int) (len : Nat) (σ : Int × Int) : 1 ≤ (pickS zs len keysL σ).1 ∧ (pickS zs len keysL σ).1 ≤ 10 := by
  have := pickS_mem zs len keysL σ (by decide)
  unfold keysL at this ⊢
  simp only [List.mem_cons, List.not_mem_nil, or_false] at this
  omega
theorem rowsS_length (zs : List Int) (len : Nat) (most : Int) (σ : Int × Int) (hm : 0 ≤ most) : ((rowsS zs len most σ).1.length : Int) ≤ most := by
  unfold rowsS
  simp only []
  rw [rowsLoop_length]
  have := belowS_fst zs len (most + 1) (pickS zs len keysL σ).2 (by omega)
  simp only [List.length_nil]; omega
theorem rowsS_wf (zs : List Int) (len : Nat) (most : Int) (σ : Int × Int) : ∀ r ∈ (rowsS zs len most σ).1, r.wf := by
  have hk := keys_range zs len σ
  unfold rowsS
  simp only []
  exact rowsLoop_wf zs len _ hk.1 (by omega) _ _ _ (fun r hr => by cases hr)
/-- l2Bent as a function of the cursor's state. -/
def bentS (zs : List Int) (len : Nat) (most : Int) (σ : Int × Int) : List R × (Int × Int) :=
  let l := rowsS zs len most σ
  let v := belowS zs len 14 l.2
  if v.1 = 0 then (l.1 ++ [(anyS zs len v.2).1], (anyS zs len v.2).2) else (l.1, v.2)
theorem bentS_length (zs : List Int) (len : Nat) (most : Int) (σ : Int × Int) (hm : 0 ≤ most) : ((bentS zs len most σ).1.length : Int) ≤ most + 1 := by
  have := rowsS_length zs len most σ hm
  unfold bentS
  simp only []
  split
  · rw [List.length_append, List.length_singleton]; omega
  · simp only []; omega
theorem bentS_wf (zs : List Int) (len : Nat) (most : Int) (σ : Int × Int) : ∀ r ∈ (bentS zs len most σ).1, r.wf := by
  have h := rowsS_wf zs len most σ
  unfold bentS
  simp only []
  split
  · intro r hr
    rcases List.mem_append.1 hr with hr | hr
    · exact h r hr
    · rw [List.mem_singleton.1 hr]; exact anyS_wf zs len _
  · exact h
end Go.Proofs.Ytjdjceohlcimaaa
/- One slice of rows, as a law's draw gives it. -/
namespace Go.Proofs.Ytjdjceohlcimaaa
open Go.RowKit

/-- One slice of rows: few, well formed. -/
def OneRows (w : World) (e : Ending) (w' : World) : Prop := ∃ (x : Option Addr) (n m : Nat) (L : List R), e = .returned (.slice x n m) ∧ n ≤ 1000 ∧ (∀ r ∈ L, r.wf) ∧ IsRows w' x n L ∧ Below w.heap.size w w'
theorem bent_few (zs : List Int) (len : Nat) (most : Int) (σ τ : Int × Int) (L : List R) (h0 : 0 ≤ most) (h1 : most ≤ 900) (hf : bentS zs len most σ = (L, τ)) : L.length ≤ 901 ∧ ∀ r ∈ L, r.wf := by
  have h2 := bentS_length zs len most σ h0
  have h3 := bentS_wf zs len most σ
  rw [hf] at h2 h3
  exact ⟨by simp only at h2; omega, h3⟩
end Go.Proofs.Ytjdjceohlcimaaa
/- DrawReferenceJoin: what it gives. -/
namespace Go.Proofs.Ytjdjceohlcimaaa
open Go.RowKit

theorem owns_lower {w : World} {B B' : Nat} {T : TypeId} {k n : Nat} {v : Value} {xs : List Value} (h : w.ownsRow B T k v n xs) (hb : B' ≤ B) : w.ownsRow B' T k v n xs := by
  obtain ⟨h1, h0 | ⟨g, c, cur, rfl, hB, h2⟩⟩ := h
  · exact ⟨h1, .inl h0⟩
  · exact ⟨h1, .inr ⟨g, c, cur, rfl, Nat.le_trans hb hB, h2⟩⟩
theorem owns_far {w : World} {B : Nat} {T : TypeId} {k n : Nat} {v : Value} {xs : List Value} (h : w.ownsRow B T k v n xs) {b : Nat} (hb : v.ownBlock = some b) : B ≤ b := by
  obtain ⟨h1, ⟨rfl, -⟩ | ⟨g, c, cur, rfl, hB, h2⟩⟩ := h
  · cases hb
  · cases hb; exact hB
end Go.Proofs.Ytjdjceohlcimaaa
/- States told by trees: calls whose answer is one of several, rows that are drawn, a law's bytes. -/
namespace Go.Proofs.Ytjdjceohlcimaaa.V
open Go Go.RowKit
set_option linter.unusedVariables false
variable {P : Program} {E : Env} {N nb : Nat} {σ σ' τ : VS} {o : Oper} {a : Act} {w : World} {G : Ghost} {Q : Exit → Act → World → Prop} {K : Act → World → Prop}
/-- The call answers with some y for which Pr holds, whatever the memory. -/
def VCE {Y : Type} (Φ : World → Prop) (Pr : Y → Prop) (P : Program) (f : FuncId) (ins : List (Bool × List T)) (tup : Bool) (rs : Y → List (Bool × List T)) : Prop := ∀ (w : World), Φ w → ∀ (vs : List Value), ArgsIn (Env.of w) w ins vs → Calls P f vs.toArray w fun e w' => ∃ y, Pr y ∧ Gives (Env.of w) tup (rs y) e w'
/-- A call whose answer is one of several. -/
theorem SV.callE {Y : Type} {Φ : World → Prop} {Pr : Y → Prop} (hD : E.keeps Φ) {d : Nat} {f : FuncId} {xs : List Operand} {ats : Array TypeId} {qs : List (Bool × List T)} {tup : Bool} {rs : Y → List (Bool × List T)} {rest : List Oper} {ops : Array Oper} (ho : o.op = .call { callee := .value (.func f), args := xs.toArray, argTypes := ats }) (hb : ∃ fn c, P.funcs[f]? = some fn ∧ fn.body = some c ∧ fn.name ≠ "runtime.NumGoroutine")
    (hc : VCE Φ Pr P f qs tup rs) (hx : σ.argss xs qs) (hd : o.dst = some d) (hdN : d < N) (hg : o.guard = none) (k : ∀ y, Pr y → SV E N ((ansSs σ (rs y)).put d ⟨tup, ansLs σ.nx (rs y)⟩) (wpList P ops Q rest)) : SV E N σ (wpList P ops Q (o :: rest)) := fun a w G h => by
  refine wpList_step fun K hK => ?_
  rw [if_pos (by simp [Region.wanted, hg])]
  obtain ⟨fn, c, h1, h2, h2'⟩ := hb
  have hcall := hc w (hD.at h.below) (xs.map a.eval) (h.args hx)
  have hrun : (execOp a.eval o).run P w = .ok (.enter f (xs.map a.eval).toArray) w := by
    simp [execOp, ho, resolve, Act.eval, Deferred.ofValue, invoke, callFunc, h1, h2, h2', Result.andThen]
  unfold Oper.wp
  rw [hrun]
  refine hcall.mono fun e w' ⟨y0, hy0, uss, F, h3, h4, h5, h6, h6', h7'⟩ => ?_
  have h7 : Below w.heap.size w w' := ⟨h7'.os, h7'.tape, h7'.output, h7'.size, fun k hk => h7'.block k (Env.of_old.2 hk)⟩
  subst h4
  have h' := h.ext h7
  obtain ⟨G', k1, k2, k3, k4, k5, k6, k7, k8⟩ := h'.addAlls (rs y0) uss F h3 (fun c ag ts us hc hu => ⟨(h5 c ag ts us hc hu).1, fun j t u hj hu' => (h5 c ag ts us hc hu).2 j t u hj hu'⟩) (fun c j b hb => by
    have hbw : w.heap.size ≤ b := (h6' c j b hb).1.elim id fun h => h.elim
    exact ⟨⟨fun i hi hf => by have := (h.ftlt i b hi hf).2; omega, (h.fresh hbw).2⟩, .inl (Nat.le_trans h.low hbw), (h6' c j b hb).2⟩) h6
  rw [hd]
  refine hK _ _ (k y0 hy0 _ _ _ (k1.put hdN ⟨uss, h3.trans k3.symm, ?_, fun c ag xs us hc hu => ⟨(k4 c ag xs us hc hu).1, (k4 c ag xs us hc hu).2.2⟩⟩))
  congr 1
  apply List.ext_getElem?
  intro c
  rw [List.getElem?_zipWith, List.getElem?_zipWith]
  cases hq : (ansLs σ.nx (rs y0))[c]? with
  | none =>
    have : (rs y0)[c]? = none := by rw [List.getElem?_eq_none_iff] at hq ⊢; omega
    rw [this]
  | some q =>
    obtain ⟨ag, xs'⟩ := q
    have hcl : c < uss.length := by have := get_lt hq; omega
    obtain ⟨-, ⟨ts, hts⟩, -⟩ := k4 c ag xs' uss[c] hq (List.getElem?_eq_getElem hcl)
    rw [hts, List.getElem?_eq_getElem hcl]
end Go.Proofs.Ytjdjceohlcimaaa.V
/- States told by trees: functions that draw from a cursor: a pinned box holds it. -/
namespace Go.Proofs.Ytjdjceohlcimaaa.V
open Go Go.RowKit
set_option linter.unusedVariables false
variable {P : Program} {E : Env} {N nb : Nat} {σ σ' τ : VS} {o : Oper} {a : Act} {w : World} {G : Ghost} {Q : Exit → Act → World → Prop} {K : Act → World → Prop} {ad : Option Addr} {len cap : Nat} {zs : List Int}
/-- The law's bytes lay at the call's beginning, and are not lent. -/
def Env.code (E : Env) (ad : Option Addr) (len cap : Nat) (zs : List Int) : Prop := Code ad len cap zs E.w0 ∧ ∀ x, ad = some x → 0 < cap → ¬ E.ln x.block
theorem Env.code.at (h : E.code ad len cap zs) (hs : Same E E.w0 w) : Code ad len cap zs w :=
  ⟨h.1.row.keep fun x hx hp _ => hs.block x.block ⟨h.1.old x hx hp, h.2 x hx hp⟩, h.1.small, fun x hx hp => Nat.lt_of_lt_of_le (h.1.old x hx hp) hs.size⟩
/-- The cursor's cells. -/
def curL (ad : Option Addr) (len cap : Nat) (p h : Int) : List Leaf := [.sc (.slice ad len cap), .sc (.int .i64 p), .sc (.int .i64 h)]
/-- What is answered beside a cursor at c. -/
def GivesC (w : World) (c : Nat) (tup : Bool) (rs : List (Bool × List T)) (e : Ending) (w' : World) : Prop :=
  ∃ (uss : List (List Value)) (F : Nat → Nat → Nat → Prop), uss.length = rs.length ∧ e = .returned (vval tup (List.zipWith (fun r us => cval r.1 us) rs uss)) ∧
    (∀ (c' : Nat) (ag : Bool) (ts : List T) (us : List Value), rs[c']? = some (ag, ts) → uss[c']? = some us → us.length = ts.length ∧ ∀ (j : Nat) (t : T) (u : Value), ts[j]? = some t → us[j]? = some u → Own w' 0 t u (F c' j)) ∧
    (∀ c1 j c2 j' b, F c1 j b → F c2 j' b → c1 = c2 ∧ j = j') ∧ (∀ c1 j b, F c1 j b → w.heap.size ≤ b ∧ b < w'.heap.size) ∧ Only c w w'
/-- The call, handed a cursor, answers so with some y for which Pr holds, and leaves the cursor somewhere on. -/
def VK {Y : Type} (ad : Option Addr) (len cap : Nat) (zs : List Int) (Pr : Y → Prop) (P : Program) (f : FuncId) (xs : List Value) (tup : Bool) (rs : Y → List (Bool × List T)) : Prop :=
  ∀ (w : World) (c : Nat) (σ : Int × Int), Code ad len cap zs w → Cur ad len cap zs σ w c → Calls P f (Value.pointer (some ⟨c, 0, none⟩) :: xs).toArray w fun e w' => ∃ y τ, Pr y ∧ Cur ad len cap zs τ w' c ∧ GivesC w c tup (rs y) e w'
theorem givesC_lit {c : Nat} {w' : World} {v : Value} (h1 : v.oneCell' = true) (h : Only c w w') : GivesC w c false [(false, [.lit v])] (.returned v) w' :=
  ⟨[[v]], fun _ _ _ => False, rfl, rfl, fun c' ag ts us hc hu => by
    match c', hc, hu with
    | 0, hc, hu => cases hc; cases hu; exact ⟨rfl, fun j t u h2 h3 => by match j, h2, h3 with | 0, h2, h3 => cases h2; cases h3; exact .lit h1⟩, fun _ _ _ _ _ h => h.elim, fun _ _ _ h => h.elim, h⟩
theorem vk_below (n : Int) (h1 : 1 ≤ n) (h2 : n ≤ 1000000000) : VK ad len cap zs (fun x : Int => 0 ≤ x ∧ x < n) Try.prog 32 [.int .i64 n] false fun x => [(false, [.lit (.int .i64 x)])] := fun w c σ hC hc =>
  (below_any ad len cap zs σ c w hc n h1 h2).mono fun e w' ⟨x, τ, hf, he, hc', ho⟩ => ⟨x, τ, belowS_range h1 hf, hc', by rw [he]; exact givesC_lit rfl ho⟩
/-- The answer, and the objects that it is made of. -/
theorem Rel.answer (h : Rel E N σ a w G) {fn : Func} {rs : List ResultVar} {ps : List (Bool × List Leaf)} {tup : Bool} {qs : List (Bool × List T)} (hf : fn.results = rs.toArray) (hr : ResAll P σ rs ps) (ho : σ.outss ps qs) (ht : (!(Nat.beq qs.length 1)) = tup) (h2 : (ps.flatMap (·.2)).Pairwise two) : a.defers = [] ∧ ∃ v, (results fn a.tmps).run P w = .ok v w ∧ ∃ (uss : List (List Value)) (F : Nat → Nat → Nat → Prop), uss.length = qs.length ∧ Ending.returned v = .returned (vval tup (List.zipWith (fun (r : Bool × List T) us => cval r.1 us) qs uss)) ∧
    (∀ (c : Nat) (ag : Bool) (ts : List T) (us : List Value), qs[c]? = some (ag, ts) → uss[c]? = some us → us.length = ts.length ∧ ∀ (j : Nat) (t : T) (u : Value), ts[j]? = some t → us[j]? = some u → Own w 0 t u (F c j)) ∧
    (∀ c j c' j' b, F c j b → F c' j' b → c = c' ∧ j = j') ∧ ∀ c j b, F c j b → ∃ i, σ.ob i ≠ none ∧ G.ft i b := by
  obtain ⟨uss, h3, h4, h5⟩ := h.resAll hr
  obtain ⟨h6, h7⟩ := outss_get ho
  have hrun := results_run hf h4
  have hlen : (List.zipWith (fun (p : Bool × List Leaf) us => cval p.1 us) ps uss).length = qs.length := by simp [h3, h6]
  have hag : ∀ c ag ts, qs[c]? = some (ag, ts) → ∃ xs, ps[c]? = some (ag, xs) ∧ σ.outs xs ts := h7
  have hzip : List.zipWith (fun (p : Bool × List Leaf) us => cval p.1 us) ps uss = List.zipWith (fun (q : Bool × List T) us => cval q.1 us) qs uss := by
    apply List.ext_getElem?
    intro c
    rw [List.getElem?_zipWith, List.getElem?_zipWith]
    cases hq : qs[c]? with
    | none =>
      have : ps[c]? = none := by rw [List.getElem?_eq_none_iff] at hq ⊢; omega
      rw [this]
    | some q =>
      obtain ⟨ag, ts⟩ := q
      obtain ⟨xs, hp, -⟩ := hag c ag ts hq
      rw [hp]
      cases uss[c]? <;> rfl
  rw [hlen, ht, hzip] at hrun
  refine ⟨h.dfr, _, hrun, uss, (fun c j b => ∃ ag xs x, ps[c]? = some (ag, xs) ∧ xs[j]? = some x ∧ x.foot G b), h3.trans h6, rfl, fun c ag ts us hq hu => ?_, ?_, ?_⟩
  · obtain ⟨xs, hp, hx⟩ := hag c ag ts hq
    obtain ⟨h8, h9⟩ := outs_get hx
    obtain ⟨h10, h11⟩ := h5 c ag xs us hp hu
    refine ⟨h10.trans h8, fun j t u hj hu' => ?_⟩
    obtain ⟨x, hx1, hx2⟩ := h9 j t hj
    exact (h.out (h11 j x u hx1 hu') hx2).mono fun b hb => ⟨ag, xs, x, hp, hx1, hb⟩
  · rintro c j c' j' b ⟨ag, xs, x, h8, h9, h10⟩ ⟨ag', xs', x', h8', h9', h10'⟩
    have key : ∀ {x x' : Leaf}, x.foot G b → x'.foot G b → (∃ t, σ.out x = some t) → (∃ t, σ.out x' = some t) → ¬ two x x' := fun {x x'} k1 k2 k3 k4 k5 => by
      cases x with
      | hd i =>
        cases x' with
        | hd i' =>
          by_cases hii : i = i'
          · exact k5 i rfl (by rw [hii])
          · obtain ⟨t, k3⟩ := k3
            obtain ⟨t', k4⟩ := k4
            obtain ⟨p, e1, -⟩ := Option.map_eq_some_iff.1 k3
            obtain ⟨p', e2, -⟩ := Option.map_eq_some_iff.1 k4
            exact h.disj i i' b (by rw [e1]; simp) (by rw [e2]; simp) hii k1 k2
        | _ => exact k2
      | _ => exact k1
    have hout : ∀ {c j ag xs x}, ps[c]? = some (ag, xs) → xs[j]? = some x → ∃ t, σ.out x = some t := fun {c j ag xs x} k1 k2 => by
      have hc : c < qs.length := by rw [← h6]; exact get_lt k1
      obtain ⟨xs', k3, k4⟩ := hag c qs[c].1 qs[c].2 (by rw [List.getElem?_eq_getElem hc])
      rw [k1] at k3
      cases k3
      obtain ⟨k5, k6⟩ := outs_get k4
      have hj : j < qs[c].2.length := by rw [← k5]; exact get_lt k2
      obtain ⟨y, k7, k8⟩ := k6 j qs[c].2[j] (List.getElem?_eq_getElem hj)
      rw [k2] at k7
      cases k7
      exact ⟨_, k8⟩
    rw [List.pairwise_flatMap] at h2
    have o1 := hout h8 h9
    have o2 := hout h8' h9'
    have hc1 := get_lt h8
    have hc2 := get_lt h8'
    have g1 : ps[c] = (ag, xs) := by rw [List.getElem?_eq_getElem hc1] at h8; exact Option.some.inj h8
    have g2 : ps[c'] = (ag', xs') := by rw [List.getElem?_eq_getElem hc2] at h8'; exact Option.some.inj h8'
    have m1 := get_mem h9
    have m2 := get_mem h9'
    rcases Nat.lt_trichotomy c c' with hcc | hcc | hcc
    · have := (List.pairwise_iff_getElem.1 h2.2) c c' hc1 hc2 hcc x (by rw [g1]; exact m1) x' (by rw [g2]; exact m2)
      exact absurd this (key h10 h10' o1 o2)
    · subst hcc
      rw [h8] at h8'
      cases h8'
      refine ⟨rfl, ?_⟩
      have hp := h2.1 _ (get_mem h8)
      have hj1 := get_lt h9
      have hj2 := get_lt h9'
      have x1 : xs[j] = x := by rw [List.getElem?_eq_getElem hj1] at h9; exact Option.some.inj h9
      have x2 : xs[j'] = x' := by rw [List.getElem?_eq_getElem hj2] at h9'; exact Option.some.inj h9'
      rcases Nat.lt_trichotomy j j' with hjj | hjj | hjj
      · have := (List.pairwise_iff_getElem.1 hp) j j' hj1 hj2 hjj
        rw [x1, x2] at this
        exact absurd this (key h10 h10' o1 o2)
      · exact hjj
      · have := (List.pairwise_iff_getElem.1 hp) j' j hj2 hj1 hjj
        rw [x1, x2] at this
        exact absurd this (key h10' h10 o2 o1)
    · have := (List.pairwise_iff_getElem.1 h2.2) c' c hc2 hc1 hcc x' (by rw [g2]; exact m2) x (by rw [g1]; exact m1)
      exact absurd this (key h10' h10 o2 o1)
  · rintro c j b ⟨ag, xs, x, h8, h9, h10⟩
    have hc : c < qs.length := by rw [← h6]; exact get_lt h8
    obtain ⟨xs', k3, k4⟩ := hag c qs[c].1 qs[c].2 (by rw [List.getElem?_eq_getElem hc])
    rw [h8] at k3
    cases k3
    obtain ⟨k5, k6⟩ := outs_get k4
    have hj : j < qs[c].2.length := by rw [← k5]; exact get_lt h9
    obtain ⟨y, k7, k8⟩ := k6 j qs[c].2[j] (List.getElem?_eq_getElem hj)
    rw [h9] at k7
    cases k7
    cases x with
    | hd i =>
      obtain ⟨p, e1, -⟩ := Option.map_eq_some_iff.1 k8
      exact ⟨i, by rw [e1]; simp, h10⟩
    | _ => exact h10.elim

/-- A new box, whoever laid its block. -/
theorem Rel.newbox (h : Rel E N σ a w G) {w' : World} {c : Nat} (hb : Below w.heap.size w w') (hge : w.heap.size ≤ c) {ty : TypeId} {us : List Value} {xs : List Leaf} (hnew : w'.heap[c]? = some (.cells us.toArray ty (0, 0))) (hl : us.length = xs.length) (hx : ∀ (j : Nat) (x : Leaf) (u : Value), xs[j]? = some x → us[j]? = some u → Holds G σ E w x u ∧ u.oneCell' = true) :
    ∃ G', Rel E N { σ with bs := σ.bs ++ [(ty, xs)] } a w' G' ∧ G'.β σ.bs.length = c ∧ G'.vl = G.vl ∧ ∀ b, b < σ.bs.length → G'.β b = G.β b := by
  have h' := h.ext hb
  have hlt : ∀ b ty xs, σ.bs[b]? = some (ty, xs) → G.β b < w.heap.size := fun b ty xs hb => by
    obtain ⟨-, us, h2, -⟩ := h.boxes b ty xs hb
    exact lt_of_block h2
  have hlt' : ∀ b, b < σ.bs.length → G.β b < w.heap.size := fun b hb => hlt b _ _ (List.getElem?_eq_getElem hb)
  obtain ⟨G', hG'⟩ : ∃ G' : Ghost, G' = { G with β := fun b => if b = σ.bs.length then c else G.β b } := ⟨_, rfl⟩
  have hβ : ∀ b, b < σ.bs.length → G'.β b = G.β b := fun b hb => by rw [hG']; exact if_neg (by omega)
  have hβ' : G'.β σ.bs.length = c := by rw [hG']; exact if_pos rfl
  have hvl : G'.vl = G.vl := by rw [hG']
  have hft : G'.ft = G.ft := by rw [hG']
  have s : Step E σ { σ with bs := σ.bs ++ [(ty, xs)] } w' w' G G' := ⟨Nat.le_refl _, fun b hb' => rfl, Nat.le_refl _, by simp, fun i _ => by rw [hvl], hβ,
    fun i v' t' hi hv => ⟨v', t', hv, Nat.le_refl _, fun _ => ⟨rfl, fun b hb' => (h'.ftlt i b (by rw [show σ.ob i = some (v', t') from hv]; simp) hb').2, fun b hb' => ⟨by rw [hft]; exact hb', rfl⟩⟩⟩⟩
  refine ⟨G', ⟨h'.below, h.dfr, h.nsz, fun k => (h'.tmps k).step fun x u hx => h'.leaf s hx, fun b ty' xs' hb' => ?_, fun b b' hb1 hb2 e => ?_, fun b i hb1 hi hb2 => ?_, fun i v t hi => ?_, ?_, ?_, ⟨h.lent.1, fun i hi => by rw [hvl]; exact h.lent.2.1 i hi, fun c' hc => ⟨by simp, (hβ 0 (h.lent.2.2 c' hc).1).trans (h.lent.2.2 c' hc).2⟩⟩⟩, hβ', hvl, hβ⟩
  · rcases Nat.lt_or_ge b σ.bs.length with hbl | hbl
    · have hb2 : σ.bs[b]? = some (ty', xs') := by rw [List.getElem?_append_left hbl] at hb'; exact hb'
      obtain ⟨h1, us', h2, h3, h4⟩ := h'.boxes b ty' xs' hb2
      rw [hβ b hbl]
      exact ⟨h1, us', h2, h3, fun j x u hx' hu => ⟨h'.leaf s (h4 j x u hx' hu).1, (h4 j x u hx' hu).2⟩⟩
    · have hbe : b = σ.bs.length := by have := get_lt hb'; simp at this; omega
      subst hbe
      have he : (ty, xs) = (ty', xs') := by simpa using hb'
      injection he with e1 e2
      subst e1 e2
      rw [hβ']
      refine ⟨.inl (Nat.le_trans h.low hge), us, hnew, hl, fun j x u hx' hu => ⟨?_, (hx j x u hx' hu).2⟩⟩
      have s0 : Step E σ σ w w' G G := ⟨hb.size, fun b hb' => hb.block b (Nat.lt_of_lt_of_le hb'.1 h.low), Nat.le_refl _, Nat.le_refl _, fun _ _ => rfl, fun _ _ => rfl,
        fun i v' t' hi hv => ⟨v', t', hv, Nat.le_refl _, fun _ => ⟨rfl, fun b hb' => (h.ftlt i b (by rw [hv]; simp) hb').2, fun b hb' => ⟨hb', hb.block b (h.ftlt i b (by rw [hv]; simp) hb').2⟩⟩⟩⟩
      exact h'.leaf s (h.leaf s0 (hx j x u hx' hu).1)
  · have hb1' : b ≤ σ.bs.length := by simpa [Nat.lt_succ_iff] using hb1
    have hb2' : b' ≤ σ.bs.length := by simpa [Nat.lt_succ_iff] using hb2
    rcases Nat.lt_or_ge b σ.bs.length with hbl | hbl <;> rcases Nat.lt_or_ge b' σ.bs.length with hbl' | hbl'
    · rw [hβ b hbl, hβ b' hbl'] at e
      exact h.inj b b' hbl hbl' e
    · rw [hβ b hbl, show b' = σ.bs.length by omega, hβ'] at e
      have := hlt' b hbl
      omega
    · rw [hβ b' hbl', show b = σ.bs.length by omega, hβ'] at e
      have := hlt' b' hbl'
      omega
    · omega
  · have hb1' : b ≤ σ.bs.length := by simpa [Nat.lt_succ_iff] using hb1
    rw [hft] at hb2
    rcases Nat.lt_or_ge b σ.bs.length with hbl | hbl
    · rw [hβ b hbl] at hb2
      exact h.boxft b i hbl hi hb2
    · rw [show b = σ.bs.length by omega, hβ'] at hb2
      have := (h.ftlt i _ hi hb2).2
      omega
  · rw [hvl, hft]; exact h'.objs i v t hi
  · rw [hft]; exact h'.disj
  · rw [hft]; exact h'.ftlt
theorem wanted0 {f : Nat → Option Bool} (hg : o.guard = none) : Region.wanted o f = true := by simp [Region.wanted, hg]
/-- A call that is handed the cursor in box b: what it leaves. -/
theorem callK_core {Y : Type} {Pr : Y → Prop} (hC : E.code ad len cap zs) {d b : Nat} {f : FuncId} {x0 : Operand} {xs : List Operand} {us : List Value} {ats : Array TypeId} {tup : Bool} {rs : Y → List (Bool × List T)} {p h0 : Int} (ho : o.op = .call { callee := .value (.func f), args := (x0 :: xs).toArray, argTypes := ats }) (hb : ∃ fn c, P.funcs[f]? = some fn ∧ fn.body = some c ∧ fn.name ≠ "runtime.NumGoroutine")
    (hc : VK ad len cap zs Pr P f us tup rs) (hx0 : σ.ev x0 = V.one (.bp b 0)) (hx : σ.scs xs us) (hbx : σ.bs[b]? = some (49, curL ad len cap p h0)) (hp : 0 ≤ p ∧ p ≤ len) (hd : o.dst = some d) (hdN : d < N) {a : Act} {w : World} {G : Ghost} (h : Rel E N σ a w G) {K : Act → World → Prop} (hK : ∀ (y : Y) (p' h' : Int) (a' : Act) (w' : World) (G' : Ghost), Pr y → 0 ≤ p' ∧ p' ≤ len → Rel E N ((ansSs (σ.setb b 49 (curL ad len cap p' h')) (rs y)).put d ⟨tup, ansLs σ.nx (rs y)⟩) a' w' G' → Only (G.β b) w w' → (∀ i, i < σ.nx → G'.vl i = G.vl i) → G'.β = G.β → σ.nx ≤ (ansSs (σ.setb b 49 (curL ad len cap p' h')) (rs y)).nx → K a' w') : o.wp P a w K Q := by
  obtain ⟨fn, c, h1, h2, h2'⟩ := hb
  obtain ⟨hB, us0, b1, b2, b3⟩ := h.boxes b _ _ hbx
  have hus0 : us0 = [.slice ad len cap, .int .i64 p, .int .i64 h0] := by
    match us0, b2 with
    | [u, v, z], _ =>
      have e1 : u = .slice ad len cap := (b3 0 _ u rfl rfl).1.1
      have e2 : v = .int .i64 p := (b3 1 _ v rfl rfl).1.1
      have e3 : z = .int .i64 h0 := (b3 2 _ z rfl rfl).1.1
      rw [e1, e2, e3]
  subst hus0
  have hcode := hC.at h.below
  have hcur : Cur ad len cap zs (p, h0) w (G.β b) := ⟨hcode.row, fun x hx hpos e => by
    have hlt := hC.1.old x hx hpos
    rcases hB with hB | hB
    · rw [← e] at hB; exact absurd hlt (Nat.not_lt.2 hB)
    · rw [← e] at hB; exact hC.2 x hx hpos hB, hp.1, hp.2, b1⟩
  have hcall := hc w (G.β b) (p, h0) hcode hcur
  have hx0v : a.eval x0 = .pointer (some ⟨G.β b, 0, none⟩) := by
    have := h.ev x0
    rw [hx0, vone] at this
    exact this.1.2
  have hev : (x0 :: xs).map a.eval = Value.pointer (some ⟨G.β b, 0, none⟩) :: us := by rw [List.map_cons, hx0v, (h.scs hx).1]
  have hrun : (execOp a.eval o).run P w = .ok (.enter f ((x0 :: xs).map a.eval).toArray) w := by
    simp [execOp, ho, resolve, Act.eval, Deferred.ofValue, invoke, callFunc, h1, h2, h2', Result.andThen]
  unfold Oper.wp
  rw [hrun, hev]
  refine hcall.mono fun e w' ⟨y0, τ0, hy0, hcur', uss, F, h3, h4, h5, h6, h6', h7'⟩ => ?_
  subst h4
  obtain ⟨p', h'0⟩ := τ0
  have hβlt : G.β b < w.heap.size := lt_of_block b1
  obtain ⟨w1, hw1⟩ : ∃ w1 : World, w1 = { w with heap := w.heap.setIfInBounds (G.β b) (.cells #[.slice ad len cap, .int .i64 p', .int .i64 h'0] 49 (0, 0)) } := ⟨_, rfl⟩
  have hsz1 : w1.heap.size = w.heap.size := by rw [hw1]; simp
  have hfar : ∀ k, k ≠ G.β b → w1.heap[k]? = w.heap[k]? := fun k hk => by rw [hw1]; simp [Array.getElem?_setIfInBounds_ne (Ne.symm hk)]
  have hnew1 : w1.heap[G.β b]? = some (.cells #[.slice ad len cap, .int .i64 p', .int .i64 h'0] 49 (0, 0)) := by rw [hw1]; simp [hβlt]
  have hsame1 : Same E w w1 := ⟨by rw [hw1], by rw [hw1], by rw [hw1], by rw [hsz1]; exact Nat.le_refl _, fun k hk => hfar k fun e => by
    subst e
    exact hB.elim (fun hB => Nat.lt_irrefl _ (Nat.lt_of_lt_of_le hk.1 hB)) hk.2⟩
  have hr1 := h.setbox (us' := [.slice ad len cap, .int .i64 p', .int .i64 h'0]) (xs' := curL ad len cap p' h'0) (w' := w1) hbx hsame1 hfar hnew1 rfl fun j x u hj hu => by
    match j, hj, hu with
    | 0, hj, hu => cases hj; cases hu; exact ⟨⟨rfl, .inr rfl⟩, rfl⟩
    | 1, hj, hu => cases hj; cases hu; exact ⟨⟨rfl, .inr rfl⟩, rfl⟩
    | 2, hj, hu => cases hj; cases hu; exact ⟨⟨rfl, .inr rfl⟩, rfl⟩
  have h7 : Below w1.heap.size w1 w' := ⟨by rw [h7'.os, hw1], by rw [h7'.tape, hw1], by rw [h7'.output, hw1], by rw [hsz1]; exact h7'.size, fun k hk => by
    by_cases hkb : k = G.β b
    · subst hkb; exact hcur'.cell.trans hnew1.symm
    · rw [hfar k hkb]; exact h7'.block k (by rw [hsz1] at hk; exact hk) fun e => hkb (Option.some.inj e)⟩
  have h' := hr1.ext h7
  have hfresh : ∀ q, w.heap.size ≤ q → Fresh σ G q := fun q hq => h.fresh hq
  obtain ⟨G', k1, k2, k3, k4, k5, k6, k7, k8⟩ := Rel.addAlls (rs y0) uss F h' h3 (fun c ag ts us hc hu => ⟨(h5 c ag ts us hc hu).1, fun j t u hj hu' => (h5 c ag ts us hc hu).2 j t u hj hu'⟩) (fun c j b hb => by
    have hbw : w.heap.size ≤ b := (h6' c j b hb).1
    exact ⟨⟨fun i hi hf => by have := (h.ftlt i b hi hf).2; omega, fun q hq => (h.fresh hbw).2 q (by simpa using hq)⟩, .inl (Nat.le_trans h.low hbw), (h6' c j b hb).2⟩) h6
  have k3 : (ansLs σ.nx (rs y0)).length = (rs y0).length := k3
  rw [hd]
  refine hK y0 p' h'0 _ _ _ hy0 ⟨hcur'.low, hcur'.high⟩ (k1.put hdN ⟨uss, h3.trans k3.symm, ?_, fun c ag xs us hc hu => ⟨(k4 c ag xs us hc hu).1, (k4 c ag xs us hc hu).2.2⟩⟩) h7' k6 k7 k5
  congr 1
  apply List.ext_getElem?
  intro c
  rw [List.getElem?_zipWith, List.getElem?_zipWith]
  cases hq : (ansLs σ.nx (rs y0))[c]? with
  | none =>
    have : (rs y0)[c]? = none := by rw [List.getElem?_eq_none_iff] at hq ⊢; omega
    rw [this]
  | some q =>
    obtain ⟨ag, xs'⟩ := q
    have hcl : c < uss.length := by have := get_lt hq; omega
    obtain ⟨-, ⟨ts, hts⟩, -⟩ := k4 c ag xs' uss[c] hq (List.getElem?_eq_getElem hcl)
    rw [hts, List.getElem?_eq_getElem hcl]

/-- A call that is handed the cursor in box b. -/
theorem SV.callK {Y : Type} {Pr : Y → Prop} (hC : E.code ad len cap zs) {d b : Nat} {f : FuncId} {x0 : Operand} {xs : List Operand} {us : List Value} {ats : Array TypeId} {tup : Bool} {rs : Y → List (Bool × List T)} {rest : List Oper} {ops : Array Oper} {p h0 : Int} (ho : o.op = .call { callee := .value (.func f), args := (x0 :: xs).toArray, argTypes := ats }) (hb : ∃ fn c, P.funcs[f]? = some fn ∧ fn.body = some c ∧ fn.name ≠ "runtime.NumGoroutine")
    (hc : VK ad len cap zs Pr P f us tup rs) (hx0 : σ.ev x0 = V.one (.bp b 0)) (hx : σ.scs xs us) (hbx : σ.bs[b]? = some (49, curL ad len cap p h0)) (hp : 0 ≤ p ∧ p ≤ len) (hd : o.dst = some d) (hdN : d < N) (hw : ∀ {a w G}, Rel E N σ a w G → Region.wanted o (yielded ops a.tmps) = true)
    (k : ∀ (y : Y) (p' h' : Int), Pr y → 0 ≤ p' ∧ p' ≤ len → SV E N ((ansSs (σ.setb b 49 (curL ad len cap p' h')) (rs y)).put d ⟨tup, ansLs σ.nx (rs y)⟩) (wpList P ops Q rest)) : SV E N σ (wpList P ops Q (o :: rest)) := fun a w G h => by
  refine wpList_step fun K hK => ?_
  rw [if_pos (hw h)]
  exact callK_core hC ho hb hc hx0 hx hbx hp hd hdN h fun y p' h' a' w' G' hy hp' hr _ _ _ _ => hK _ _ (k y p' h' hy hp' _ _ _ hr)
/-- A new cursor over the law's bytes. -/
theorem SV.callNew (hC : E.code ad len cap zs) {d kk : Nat} {x0 : Operand} {ats : Array TypeId} {rest : List Oper} {ops : Array Oper} (hk : σ.bs.length = kk) (hb0 : ∃ fn c, Try.prog.funcs[29]? = some fn ∧ fn.body = some c ∧ fn.name ≠ "runtime.NumGoroutine") (ho : o.op = .call { callee := .value (.func 29), args := #[x0], argTypes := ats }) (hx0 : σ.ev x0 = V.one (.sc (.slice ad len cap))) (hd : o.dst = some d) (hdN : d < N) (hg : o.guard = none)
    (k : ∀ h0 : Int, SV E N (({ σ with bs := σ.bs ++ [(49, curL ad len cap 0 h0)] } : VS).put d (V.one (.bp kk 0))) (wpList Try.prog ops Q rest)) : SV E N σ (wpList Try.prog ops Q (o :: rest)) := fun a w G h => by
  subst hk
  refine wpList_step fun K hK => ?_
  rw [if_pos (by simp [Region.wanted, hg])]
  have hcode := hC.at h.below
  have hx0v : a.eval x0 = .slice ad len cap := h.sc hx0
  have hrun : (execOp a.eval o).run Try.prog w = .ok (.enter 29 #[.slice ad len cap]) w := by
    obtain ⟨fn, c, h1, h2, h2'⟩ := hb0
    have e0 : a.eval (.func 29) = .func (.func 29) #[] #[] := rfl
    simp [execOp, ho, hx0v, e0, resolve, Deferred.ofValue, invoke, callFunc, h1, h2, h2', Result.andThen]
  unfold Oper.wp
  rw [hrun]
  refine (new_any ad len cap zs w hcode.row hcode.small hcode.old).mono fun e w' ⟨c, he, hcur, hge, hb⟩ => ?_
  subst he
  obtain ⟨G', k1, k2, k3, k4⟩ := h.newbox (us := [.slice ad len cap, .int .i64 0, .int .i64 (newH zs len)]) (xs := curL ad len cap 0 (newH zs len)) hb hge hcur.cell rfl fun j x u hj hu => by
    match j, hj, hu with
    | 0, hj, hu => cases hj; cases hu; exact ⟨⟨rfl, .inr rfl⟩, rfl⟩
    | 1, hj, hu => cases hj; cases hu; exact ⟨⟨rfl, .inr rfl⟩, rfl⟩
    | 2, hj, hu => cases hj; cases hu; exact ⟨⟨rfl, .inr rfl⟩, rfl⟩
  rw [hd]
  exact hK _ _ (k (newH zs len) _ _ _ (k1.put hdN (vone.2 ⟨⟨by simp, by rw [k2]⟩, .inr rfl⟩)))
/-- The answer of a function that draws: one of several. -/
theorem SV.doneE {Y : Type} {Pr : Y → Prop} {fn : Func} {rvs : List ResultVar} {ps : List (Bool × List Leaf)} {tup : Bool} {rs : Y → List (Bool × List T)} (y : Y) (hy : Pr y) (hf : fn.results = rvs.toArray) (hr : ResAll P σ rvs ps) (ho : σ.outss ps (rs y)) (ht : (!(Nat.beq (rs y).length 1)) = tup) (h2 : (ps.flatMap (·.2)).Pairwise two) {e : Exit} (he : e = .ret ∨ e = .normal) : SV E N σ (bodyPost P fn (fun e w' => ∃ y, Pr y ∧ Gives E tup (rs y) e w') e) := fun a w G h => by
  have h1 := SV.done (P := P) (E := E) (N := N) (σ := σ) hf hr ho ht h2 he a w G h
  rcases he with rfl | rfl
  all_goals
    obtain ⟨h3, v, h4, h5⟩ := h1
    exact ⟨h3, v, h4, y, hy, h5⟩
/-- The answer of a function that is handed a cursor. -/
theorem SV.doneK {Y : Type} {Pr : Y → Prop} {fn : Func} {rvs : List ResultVar} {ps : List (Bool × List Leaf)} {tup : Bool} {rs : Y → List (Bool × List T)} {c : Nat} {p h0 : Int} (hC : E.code ad len cap zs) (hpin : E.pin = some c ∧ ∀ b, E.ln b → b = c) (y : Y) (hy : Pr y) (hbx : σ.bs[0]? = some (49, curL ad len cap p h0)) (hp : 0 ≤ p ∧ p ≤ len) (hf : fn.results = rvs.toArray) (hr : ResAll P σ rvs ps) (ho : σ.outss ps (rs y)) (ht : (!(Nat.beq (rs y).length 1)) = tup) (h2 : (ps.flatMap (·.2)).Pairwise two) {e : Exit} (he : e = .ret ∨ e = .normal) :
    SV E N σ (bodyPost P fn (fun e w' => ∃ y τ, Pr y ∧ Cur ad len cap zs τ w' c ∧ GivesC E.w0 c tup (rs y) e w') e) := fun a w G h => by
  obtain ⟨g1, v, g2, uss, F, g3, g4, g5, g6, g7⟩ := h.answer hf hr ho ht h2
  obtain ⟨hB, us0, b1, b2, b3⟩ := h.boxes 0 _ _ hbx
  obtain ⟨-, hβ⟩ := h.lent.2.2 c hpin.1
  have hus0 : us0 = [.slice ad len cap, .int .i64 p, .int .i64 h0] := by
    match us0, b2 with
    | [u, v, z], _ =>
      have e1 : u = .slice ad len cap := (b3 0 _ u rfl rfl).1.1
      have e2 : v = .int .i64 p := (b3 1 _ v rfl rfl).1.1
      have e3 : z = .int .i64 h0 := (b3 2 _ z rfl rfl).1.1
      rw [e1, e2, e3]
  subst hus0
  rw [hβ] at hB b1
  have hcur : Cur ad len cap zs (p, h0) w c := ⟨(hC.at h.below).row, fun x hx hpos e => by
    have hlt := hC.1.old x hx hpos
    rcases hB with hB | hB
    · rw [← e] at hB; exact absurd hlt (Nat.not_lt.2 hB)
    · rw [← e] at hB; exact hC.2 x hx hpos hB, hp.1, hp.2, b1⟩
  have hpost : a.defers = [] ∧ ∃ v, (results fn a.tmps).run P w = .ok v w ∧ ∃ y τ, Pr y ∧ Cur ad len cap zs τ w c ∧ GivesC E.w0 c tup (rs y) (.returned v) w :=
    ⟨g1, v, g2, y, (p, h0), hy, hcur, uss, F, g3, g4, g5, g6, fun c1 j b hb => by
      obtain ⟨i, hi, hft⟩ := g7 c1 j b hb
      obtain ⟨m1, m2⟩ := h.ftlt i b hi hft
      refine ⟨m1.elim id fun hl => ?_, m2⟩
      have := hpin.2 b hl
      subst this
      rw [← hβ] at hft
      exact absurd hft (h.boxft 0 i (get_lt hbx) hi), ⟨h.below.os, h.below.tape, h.below.output, h.below.size, fun k hk hne => h.below.block k ⟨hk, fun hl => hne (by rw [hpin.2 k hl])⟩⟩⟩
  rcases he with rfl | rfl <;> exact hpost
/-- A function that is handed a cursor, entered: the cursor lies in box 0. -/
theorem VK.enter {Y : Type} {Pr : Y → Prop} {f : FuncId} {fn : Func} {c0 : Go.Code} {n : Nat} {us : List Value} {tup : Bool} {rs : Y → List (Bool × List T)} (hf : P.funcs[f]? = some fn) (hb : fn.body = some c0) (hn : fn.ntmps = n) (hl : us.length + 1 ≤ n) (hone : ∀ u ∈ us, u.oneCell' = true)
    (h : ∀ (E : Env) (c : Nat) (p h0 : Int), E.nl = 0 → E.code ad len cap zs → (E.pin = some c ∧ ∀ b, E.ln b → b = c) → 0 ≤ p ∧ p ≤ len → SV E n ⟨fun s => (V.one (.bp 0 0) :: us.map fun u => V.one (.sc u)).getD s (V.one .dead), [(49, curL ad len cap p h0)], fun _ => none, 0⟩ (c0.wp P (bodyPost P fn fun e w' => ∃ y τ, Pr y ∧ Cur ad len cap zs τ w' c ∧ GivesC E.w0 c tup (rs y) e w'))) : VK ad len cap zs Pr P f us tup rs := fun w c σ hcode hcur => by
  refine calls_of_wp hf hb ?_
  obtain ⟨p, h0⟩ := σ
  obtain ⟨E, hE⟩ : ∃ E : Env, E = ⟨w, fun b => b = c, fun b hb => by rw [hb]; exact hcur.lt, fun _ => undef, 0, some c⟩ := ⟨_, rfl⟩
  have hEC : E.code ad len cap zs := by subst hE; exact ⟨hcode, fun x hx hp e => hcur.apart x hx hp e⟩
  have h1 := h E c p h0 (by rw [hE]) hEC (by subst hE; exact ⟨rfl, fun b hb => hb⟩) ⟨hcur.low, hcur.high⟩ { tmps := (Value.pointer (some ⟨c, 0, none⟩) :: us).toArray ++ Array.replicate (n - (us.length + 1)) undef, defers := [] } w ⟨fun _ => c, fun _ => undef, fun _ _ => False⟩ (by
    subst hE
    refine ⟨Same.refl _ _, rfl, by simp; omega, fun s => ?_, fun b ty xs hb => ?_, fun b b' hb hb' _ => (by simp at hb hb'; omega), fun b i hb hi => absurd rfl hi, fun i v t hi => (by cases hi), fun i j b hi => absurd rfl hi, fun i b hi => absurd rfl hi, ⟨Nat.le_refl _, fun i hi => absurd hi (Nat.not_lt_zero i), fun c' hc' => ⟨by simp, Option.some.inj hc'⟩⟩⟩
    · rcases Nat.lt_or_ge s (us.length + 1) with hs | hs
      · have e2 : ((Value.pointer (some ⟨c, 0, none⟩) :: us).toArray ++ Array.replicate (n - (us.length + 1)) undef).getD s undef = (Value.pointer (some ⟨c, 0, none⟩) :: us).getD s undef := by
          simp only [Array.getD_eq_getD_getElem?]
          rw [Array.getElem?_append_left (by simpa using hs)]
          simp [List.getD]
        show VHolds _ _ _ _ ((V.one (.bp 0 0) :: us.map fun u => V.one (.sc u)).getD s (V.one .dead)) _
        rw [e2]
        cases s with
        | zero => exact vone.2 ⟨⟨by simp, rfl⟩, .inr rfl⟩
        | succ s =>
          have hs' : s < us.length := by omega
          have e3 : (V.one (.bp 0 0) :: us.map fun u => V.one (.sc u)).getD (s + 1) (V.one .dead) = V.one (.sc us[s]) := by simp [List.getD, hs']
          have e4 : (Value.pointer (some ⟨c, 0, none⟩) :: us).getD (s + 1) undef = us[s] := by simp [List.getD, hs']
          rw [e3, e4]
          exact vone.2 ⟨rfl, .inr (hone _ (List.getElem_mem hs'))⟩
      · have e3 : (V.one (.bp 0 0) :: us.map fun u => V.one (.sc u)).getD s (V.one .dead) = V.one .dead := by simp [List.getD, show us.length + 1 ≤ s by omega]
        show VHolds _ _ _ _ ((V.one (.bp 0 0) :: us.map fun u => V.one (.sc u)).getD s (V.one .dead)) _
        rw [e3]
        exact vone.2 ⟨trivial, .inl rfl⟩
    · have hb0 : b = 0 := by have := get_lt hb; simpa using this
      subst hb0
      cases hb
      refine ⟨.inr rfl, [.slice ad len cap, .int .i64 p, .int .i64 h0], hcur.cell, rfl, fun j x u hj hu => ?_⟩
      match j, hj, hu with
      | 0, hj, hu => cases hj; cases hu; exact ⟨⟨rfl, .inr rfl⟩, rfl⟩
      | 1, hj, hu => cases hj; cases hu; exact ⟨⟨rfl, .inr rfl⟩, rfl⟩
      | 2, hj, hu => cases hj; cases hu; exact ⟨⟨rfl, .inr rfl⟩, rfl⟩)
  rw [hn]
  have e0 : E.w0 = w := by rw [hE]
  rw [e0] at h1
  simpa using h1
theorem VCE.enter {Y : Type} {Pr : Y → Prop} {f : FuncId} {fn : Func} {c0 : Go.Code} {n : Nat} {tup : Bool} {rs : Y → List (Bool × List T)} (hf : P.funcs[f]? = some fn) (hb : fn.body = some c0) (hn : fn.ntmps = n) (hl : 1 ≤ n)
    (h : ∀ E, E.plain 0 → E.code ad len cap zs → SV E n (VS.init ([(false, [T.lit (.slice ad len cap)])].map fun p => V.flat p.1 (p.2.map argLeaf))) (c0.wp P (bodyPost P fn fun e w' => ∃ y, Pr y ∧ Gives E tup (rs y) e w'))) : VCE (fun w => Code ad len cap zs w) Pr P f [(false, [.lit (.slice ad len cap)])] tup rs := fun w hw vs hv => by
  refine calls_of_wp hf hb ?_
  obtain ⟨G, hG⟩ := init_rel (E := Env.of w) ⟨rfl, rfl⟩ (n := n) hv (by rw [hv.1]; exact hl)
  have := h (Env.of w) ⟨rfl, rfl⟩ ⟨hw, fun _ _ _ h => h⟩ _ _ G hG
  rw [hn]
  have e : (Env.of w).w0 = w := rfl
  rw [e] at this
  simpa using this
end Go.Proofs.Ytjdjceohlcimaaa.V
/- States told by trees: functions that are handed a cursor and more that they read; rows and numbers that are drawn. -/
namespace Go.Proofs.Ytjdjceohlcimaaa.V
open Go Go.RowKit
set_option linter.unusedVariables false
variable {P : Program} {E : Env} {N nb : Nat} {σ σ' τ : VS} {o : Oper} {a : Act} {w : World} {G : Ghost} {Q : Exit → Act → World → Prop} {K : Act → World → Prop} {ad : Option Addr} {len cap : Nat} {zs : List Int}
/-- The arguments beside a cursor in block c. -/
def ArgsC (w : World) (c : Nat) (ins : List (Bool × List T)) (vs : List Value) : Prop :=
  vs.length = ins.length ∧ ∀ (k : Nat) (ag : Bool) (ts : List T) (v : Value), ins[k]? = some (ag, ts) → vs[k]? = some v → ∃ us : List Value, v = cval ag us ∧ us.length = ts.length ∧ ∀ (j : Nat) (t : T) (u : Value), ts[j]? = some t → us[j]? = some u → Inn (fun b => b < w.heap.size ∧ b ≠ c) w t u
theorem Rel.okC (h : Rel E N σ a w G) {c : Nat} (hc : c < σ.bs.length) (hold : ¬ E.old (G.β c)) {x : Leaf} {t : T} (ht : σ.tr x = some t) : ∀ b, x.okIn G E b → b < w.heap.size → b < w.heap.size ∧ b ≠ G.β c := fun b hb hlt => by
  refine ⟨hlt, fun e => ?_⟩
  subst e
  have key : ∀ i, σ.ob i ≠ none → ¬ G.ft i (G.β c) := fun i hi => h.boxft c i hc hi
  cases x with
  | hd i => exact key i (fun e => by simp [VS.tr, e] at ht) hb
  | nd i ver s loc => exact key i (fun e => by simp [VS.tr, e] at ht) hb
  | _ => exact hold hb
theorem Rel.argsC (h : Rel E N σ a w G) {c : Nat} (hc : c < σ.bs.length) (hold : ¬ E.old (G.β c)) : ∀ {xs : List Operand} {qs : List (Bool × List T)}, σ.argss xs qs → ArgsC w (G.β c) qs (xs.map a.eval)
  | [], [], _ => ⟨rfl, fun c ag ts v hc => by simp at hc⟩
  | x :: xs, q :: qs, hq => by
    obtain ⟨⟨ls, h1, h2⟩, h3⟩ := hq
    obtain ⟨h4, h5⟩ := h.argsC hc hold h3
    refine ⟨by simpa using h4, fun k ag ts v hk hv => ?_⟩
    cases k with
    | zero =>
      cases hk
      cases hv
      have h6 := h.ev x
      rw [h1, vflat] at h6
      obtain ⟨us, h7, h8, h9⟩ := h6
      obtain ⟨h10, h11⟩ := args_get h2
      refine ⟨us, h7, h8.trans h10, fun j t u hj hu => ?_⟩
      obtain ⟨y, h12, h13⟩ := h11 j t hj
      have := h.tree (h9 j y u h12 hu) h13
      exact this.frame (Nat.le_refl _) fun b hb hb' => ⟨h.okC hc hold h13 b hb hb', rfl⟩
    | succ k => exact h5 k ag ts v (by simpa using hk) (by simpa using hv)
/-- The call, handed a cursor and what it reads, answers so with some y for which Pr holds, and leaves the cursor somewhere on. -/
def VKT {Y : Type} (ad : Option Addr) (len cap : Nat) (zs : List Int) (Pr : Y → Prop) (P : Program) (f : FuncId) (ins : List (Bool × List T)) (tup : Bool) (rs : Y → List (Bool × List T)) : Prop :=
  ∀ (w : World) (c : Nat) (σ : Int × Int), Code ad len cap zs w → Cur ad len cap zs σ w c → ∀ vs, ArgsC w c ins vs → Calls P f (Value.pointer (some ⟨c, 0, none⟩) :: vs).toArray w fun e w' => ∃ y τ, Pr y ∧ Cur ad len cap zs τ w' c ∧ GivesC w c tup (rs y) e w'
/-- A call that is handed the cursor in box b: what it leaves. -/
theorem callKT_core {Y : Type} {Pr : Y → Prop} (hC : E.code ad len cap zs) {d b : Nat} {f : FuncId} {x0 : Operand} {xs : List Operand} {ins : List (Bool × List T)} {ats : Array TypeId} {tup : Bool} {rs : Y → List (Bool × List T)} {p h0 : Int} (ho : o.op = .call { callee := .value (.func f), args := (x0 :: xs).toArray, argTypes := ats }) (hb : ∃ fn c, P.funcs[f]? = some fn ∧ fn.body = some c ∧ fn.name ≠ "runtime.NumGoroutine")
    (hc : VKT ad len cap zs Pr P f ins tup rs) (hx0 : σ.ev x0 = V.one (.bp b 0)) (hx : σ.argss xs ins) (hbx : σ.bs[b]? = some (49, curL ad len cap p h0)) (hp : 0 ≤ p ∧ p ≤ len) (hd : o.dst = some d) (hdN : d < N) {a : Act} {w : World} {G : Ghost} (h : Rel E N σ a w G) {K : Act → World → Prop} (hK : ∀ (y : Y) (p' h' : Int) (a' : Act) (w' : World) (G' : Ghost), Pr y → 0 ≤ p' ∧ p' ≤ len → Rel E N ((ansSs (σ.setb b 49 (curL ad len cap p' h')) (rs y)).put d ⟨tup, ansLs σ.nx (rs y)⟩) a' w' G' → Only (G.β b) w w' → (∀ i, i < σ.nx → G'.vl i = G.vl i) → G'.β = G.β → σ.nx ≤ (ansSs (σ.setb b 49 (curL ad len cap p' h')) (rs y)).nx → K a' w') : o.wp P a w K Q := by
  obtain ⟨fn, c, h1, h2, h2'⟩ := hb
  obtain ⟨hB, us0, b1, b2, b3⟩ := h.boxes b _ _ hbx
  have hus0 : us0 = [.slice ad len cap, .int .i64 p, .int .i64 h0] := by
    match us0, b2 with
    | [u, v, z], _ =>
      have e1 : u = .slice ad len cap := (b3 0 _ u rfl rfl).1.1
      have e2 : v = .int .i64 p := (b3 1 _ v rfl rfl).1.1
      have e3 : z = .int .i64 h0 := (b3 2 _ z rfl rfl).1.1
      rw [e1, e2, e3]
  subst hus0
  have hcode := hC.at h.below
  have hcur : Cur ad len cap zs (p, h0) w (G.β b) := ⟨hcode.row, fun x hx hpos e => by
    have hlt := hC.1.old x hx hpos
    rcases hB with hB | hB
    · rw [← e] at hB; exact absurd hlt (Nat.not_lt.2 hB)
    · rw [← e] at hB; exact hC.2 x hx hpos hB, hp.1, hp.2, b1⟩
  have hcall := hc w (G.β b) (p, h0) hcode hcur (xs.map a.eval) (h.argsC (get_lt hbx) (fun hq => by rcases hB with hB | hB; exact Nat.lt_irrefl _ (Nat.lt_of_lt_of_le hq.1 hB); exact hq.2 hB) hx)
  have hx0v : a.eval x0 = .pointer (some ⟨G.β b, 0, none⟩) := by
    have := h.ev x0
    rw [hx0, vone] at this
    exact this.1.2
  have hev : (x0 :: xs).map a.eval = Value.pointer (some ⟨G.β b, 0, none⟩) :: xs.map a.eval := by rw [List.map_cons, hx0v]
  have hrun : (execOp a.eval o).run P w = .ok (.enter f ((x0 :: xs).map a.eval).toArray) w := by
    simp [execOp, ho, resolve, Act.eval, Deferred.ofValue, invoke, callFunc, h1, h2, h2', Result.andThen]
  unfold Oper.wp
  rw [hrun, hev]
  refine hcall.mono fun e w' ⟨y0, τ0, hy0, hcur', uss, F, h3, h4, h5, h6, h6', h7'⟩ => ?_
  subst h4
  obtain ⟨p', h'0⟩ := τ0
  have hβlt : G.β b < w.heap.size := lt_of_block b1
  obtain ⟨w1, hw1⟩ : ∃ w1 : World, w1 = { w with heap := w.heap.setIfInBounds (G.β b) (.cells #[.slice ad len cap, .int .i64 p', .int .i64 h'0] 49 (0, 0)) } := ⟨_, rfl⟩
  have hsz1 : w1.heap.size = w.heap.size := by rw [hw1]; simp
  have hfar : ∀ k, k ≠ G.β b → w1.heap[k]? = w.heap[k]? := fun k hk => by rw [hw1]; simp [Array.getElem?_setIfInBounds_ne (Ne.symm hk)]
  have hnew1 : w1.heap[G.β b]? = some (.cells #[.slice ad len cap, .int .i64 p', .int .i64 h'0] 49 (0, 0)) := by rw [hw1]; simp [hβlt]
  have hsame1 : Same E w w1 := ⟨by rw [hw1], by rw [hw1], by rw [hw1], by rw [hsz1]; exact Nat.le_refl _, fun k hk => hfar k fun e => by
    subst e
    exact hB.elim (fun hB => Nat.lt_irrefl _ (Nat.lt_of_lt_of_le hk.1 hB)) hk.2⟩
  have hr1 := h.setbox (us' := [.slice ad len cap, .int .i64 p', .int .i64 h'0]) (xs' := curL ad len cap p' h'0) (w' := w1) hbx hsame1 hfar hnew1 rfl fun j x u hj hu => by
    match j, hj, hu with
    | 0, hj, hu => cases hj; cases hu; exact ⟨⟨rfl, .inr rfl⟩, rfl⟩
    | 1, hj, hu => cases hj; cases hu; exact ⟨⟨rfl, .inr rfl⟩, rfl⟩
    | 2, hj, hu => cases hj; cases hu; exact ⟨⟨rfl, .inr rfl⟩, rfl⟩
  have h7 : Below w1.heap.size w1 w' := ⟨by rw [h7'.os, hw1], by rw [h7'.tape, hw1], by rw [h7'.output, hw1], by rw [hsz1]; exact h7'.size, fun k hk => by
    by_cases hkb : k = G.β b
    · subst hkb; exact hcur'.cell.trans hnew1.symm
    · rw [hfar k hkb]; exact h7'.block k (by rw [hsz1] at hk; exact hk) fun e => hkb (Option.some.inj e)⟩
  have h' := hr1.ext h7
  have hfresh : ∀ q, w.heap.size ≤ q → Fresh σ G q := fun q hq => h.fresh hq
  obtain ⟨G', k1, k2, k3, k4, k5, k6, k7, k8⟩ := Rel.addAlls (rs y0) uss F h' h3 (fun c ag ts us hc hu => ⟨(h5 c ag ts us hc hu).1, fun j t u hj hu' => (h5 c ag ts us hc hu).2 j t u hj hu'⟩) (fun c j b hb => by
    have hbw : w.heap.size ≤ b := (h6' c j b hb).1
    exact ⟨⟨fun i hi hf => by have := (h.ftlt i b hi hf).2; omega, fun q hq => (h.fresh hbw).2 q (by simpa using hq)⟩, .inl (Nat.le_trans h.low hbw), (h6' c j b hb).2⟩) h6
  have k3 : (ansLs σ.nx (rs y0)).length = (rs y0).length := k3
  rw [hd]
  refine hK y0 p' h'0 _ _ _ hy0 ⟨hcur'.low, hcur'.high⟩ (k1.put hdN ⟨uss, h3.trans k3.symm, ?_, fun c ag xs us hc hu => ⟨(k4 c ag xs us hc hu).1, (k4 c ag xs us hc hu).2.2⟩⟩) h7' k6 k7 k5
  congr 1
  apply List.ext_getElem?
  intro c
  rw [List.getElem?_zipWith, List.getElem?_zipWith]
  cases hq : (ansLs σ.nx (rs y0))[c]? with
  | none =>
    have : (rs y0)[c]? = none := by rw [List.getElem?_eq_none_iff] at hq ⊢; omega
    rw [this]
  | some q =>
    obtain ⟨ag, xs'⟩ := q
    have hcl : c < uss.length := by have := get_lt hq; omega
    obtain ⟨-, ⟨ts, hts⟩, -⟩ := k4 c ag xs' uss[c] hq (List.getElem?_eq_getElem hcl)
    rw [hts, List.getElem?_eq_getElem hcl]

/-- A call that is handed the cursor in box b. -/
theorem SV.callKT {Y : Type} {Pr : Y → Prop} (hC : E.code ad len cap zs) {d b : Nat} {f : FuncId} {x0 : Operand} {xs : List Operand} {ins : List (Bool × List T)} {ats : Array TypeId} {tup : Bool} {rs : Y → List (Bool × List T)} {rest : List Oper} {ops : Array Oper} {p h0 : Int} (ho : o.op = .call { callee := .value (.func f), args := (x0 :: xs).toArray, argTypes := ats }) (hb : ∃ fn c, P.funcs[f]? = some fn ∧ fn.body = some c ∧ fn.name ≠ "runtime.NumGoroutine")
    (hc : VKT ad len cap zs Pr P f ins tup rs) (hx0 : σ.ev x0 = V.one (.bp b 0)) (hx : σ.argss xs ins) (hbx : σ.bs[b]? = some (49, curL ad len cap p h0)) (hp : 0 ≤ p ∧ p ≤ len) (hd : o.dst = some d) (hdN : d < N) (hw : ∀ {a w G}, Rel E N σ a w G → Region.wanted o (yielded ops a.tmps) = true)
    (k : ∀ (y : Y) (p' h' : Int), Pr y → 0 ≤ p' ∧ p' ≤ len → SV E N ((ansSs (σ.setb b 49 (curL ad len cap p' h')) (rs y)).put d ⟨tup, ansLs σ.nx (rs y)⟩) (wpList P ops Q rest)) : SV E N σ (wpList P ops Q (o :: rest)) := fun a w G h => by
  refine wpList_step fun K hK => ?_
  rw [if_pos (hw h)]
  exact callKT_core hC ho hb hc hx0 hx hbx hp hd hdN h fun y p' h' a' w' G' hy hp' hr _ _ _ _ => hK _ _ (k y p' h' hy hp' _ _ _ hr)

set_option maxRecDepth 100000 in
theorem pickO_any (a : Option Addr) (len cap : Nat) (zs : List Int) (σ : Int × Int) (c : Nat) (w : World) (hc : Cur a len cap zs σ w c) (g o' n m : Nat) (L : List Int) (hg : ∀ t, t < L.length → w.cell? ⟨g, o' + t, none⟩ = some (.int .i64 (L.getD t 0))) (hgc : ¬ g = c) (hn : n = L.length) (h1 : 1 ≤ n) (h2 : n ≤ 1000000000) :
    Calls Try.prog 31 #[.pointer (some ⟨c, 0, none⟩), .slice (some ⟨g, o', none⟩) n m] w (Drawn (pickS zs len L) a len cap zs σ c w) := by
  have HC := Lib.hid hc
  have HG := Lib.hid hg
  have HN := Lib.hid hn
  clear hc hg hn
  go_enter Try.func31, Try.ntmps31
  go_wp2_with fail
  refine (below_any a len cap zs _ c _ HC.out (n : Int) (by omega) (by omega)).mono ?_
  rintro e w1 ⟨x, τ, hf1, rfl, hc1, ho1⟩
  obtain ⟨hx0, hx1⟩ := belowS_range (by omega) hf1
  have F1 := Lib.hid hf1
  clear hf1
  obtain ⟨t, rfl⟩ : ∃ t : Nat, x = (t : Int) := ⟨x.toNat, by omega⟩
  have htn : t < n := by omega
  have hcell := HG.out t (by have := HN.out; omega)
  have hlt : g < w.heap.size := World.block_lt_of_cell? w _ hcell
  have hcell1 : w1.cell? ⟨g, o' + t, none⟩ = some (.int .i64 (L.getD t 0)) := (World.cell?_of_block (ho1.block g hlt (fun e => hgc (by injection e)))).trans hcell
  clear hcell
  obtain ⟨z, hz⟩ : ∃ z, z = L.getD t 0 := ⟨_, rfl⟩
  rw [← hz] at hcell1
  have HZ := Lib.hid hz
  clear hz
  have H1 := Lib.hid hc1
  have O1 := Lib.hid ho1
  clear hc1 ho1
  go_wp2_with fail
  go_ret
  refine ⟨_, τ, ?_, rfl, H1.out, O1.out⟩
  unfold pickS
  have hn := HN.out
  rw [← hn, F1.out, HZ.out, Int.toNat_natCast]
/-- One of a list of numbers. -/
theorem vk_pick (L : List Int) (h1 : 1 ≤ L.length) (h2 : L.length ≤ 1000000000) : VKT ad len cap zs (fun x : Int => x ∈ L) Try.prog 31 [(false, [.seq 3 (L.map fun x => [.lit (.int .i64 x)])])] false fun x => [(false, [.lit (.int .i64 x)])] := fun w c σ hC hc vs hv => by
  obtain ⟨hl, ha⟩ := hv
  match vs, hl with
  | [v], _ =>
    obtain ⟨us, e1, e2, e3⟩ := ha 0 false _ v rfl rfl
    match us, e2 with
    | [x], _ =>
      have hx := e3 0 _ x rfl rfl
      have e1' : v = x := e1
      subst e1'
      obtain ⟨a0, m, n, hv, hcm, hm, h0, hp, hz, hn, b, o, us, had, hb, hcell, hr⟩ := inn_seq hx
      have hn1 : n = 1 := hz.eq sz_int
      subst hn1
      rw [List.length_map] at hv hcm
      subst hv
      have hne : (L.map fun x => [T.lit (.int .i64 x)]) ≠ [] := fun e => by have e' := List.map_eq_nil_iff.1 e; rw [e'] at h1; simp at h1
      have ha0 : a0 = some ⟨b, o, none⟩ := by
        cases ha : a0 with
        | none => have := h0 ha; omega
        | some y => rw [had y ha hne]
      subst ha0
      have hcells : ∀ t, t < L.length → w.cell? ⟨b, o + t, none⟩ = some (.int .i64 (L.getD t 0)) := fun t ht => by
        have e : (L.map fun x => [T.lit (.int .i64 x)])[t]? = some [.lit (.int .i64 L[t])] := by rw [List.getElem?_map, List.getElem?_eq_getElem ht]; rfl
        have h4 := hcell t _ 0 _ e rfl
        rw [inn_lit (hr t _ 0 _ e rfl)] at h4
        simpa [ht] using h4
      exact (pickO_any ad len cap zs σ c w hc b o L.length m L hcells (fun e => (hb hne).1.2 e) rfl h1 h2).mono fun e w' ⟨z, τ, hf, he, hc', ho⟩ => ⟨z, τ, by have := pickS_mem zs len L σ h1; rw [hf] at this; exact this, hc', by rw [he]; exact givesC_lit rfl ho⟩
end Go.Proofs.Ytjdjceohlcimaaa.V
/- States told by trees: a region that draws its order, with calls that are handed a cursor. -/
namespace Go.Proofs.Ytjdjceohlcimaaa.V
open Go Go.RowKit
set_option linter.unusedVariables false
variable {P : Program} {E : Env} {N : Nat} {σ σ' τ : VS} {o : Oper} {a : Act} {w ws : World} {G Gs : Ghost} {Q : Exit → Act → World → Prop} {ad : Option Addr} {len cap : Nat} {zs0 : List Int}
/-- Memory is as it was, but for the boxes of wl, and what lies behind the objects' last cells. -/
structure SameC (E : Env) (τ : VS) (wl : List Nat) (G : Ghost) (ws v : World) : Prop where
  below : Same E ws v
  block : ∀ b, b < ws.heap.size → v.heap[b]? = ws.heap[b]? ∨ (∃ c, c ∈ wl ∧ c < τ.bs.length ∧ b = G.β c) ∨ ∃ (i ver : Nat) (ty : TypeId) (es : List (List T)) (n : Nat) (cs cs' : Array Value), τ.ob i = some (ver, .seq ty es) ∧ (G.vl i).ownBlock = some b ∧ Sz ty n ∧ ws.heap[b]? = some (.cells cs ty (0, 0)) ∧ v.heap[b]? = some (.cells cs' ty (0, 0)) ∧ cs'.size = cs.size ∧ cs'.toList.take (es.length * n) = cs.toList.take (es.length * n)
theorem SameC.refl (E : Env) (τ : VS) (wl : List Nat) (G : Ghost) (w : World) : SameC E τ wl G w w := ⟨Same.refl _ _, fun _ _ => .inl rfl⟩
structure LinkC (E : Env) (N : Nat) (τ : VS) (wl : List Nat) (ws : World) (Gs : Ghost) (fr : List Nat) (σ : VS) (w : World) (G : Ghost) : Prop where
  start : ∃ a, Rel E N τ a ws Gs
  same : SameC E τ wl Gs ws w
  vl : ∀ i, i < τ.nx → G.vl i = Gs.vl i
  β : ∀ b, b < τ.bs.length → G.β b = Gs.β b
  nx : τ.nx ≤ σ.nx
  bs : τ.bs.length ≤ σ.bs.length
  fresh : ∀ i ∈ fr, i < σ.nx ∧ ∀ b, (G.vl i).ownBlock = some b → ws.heap.size ≤ b
  nb : ∀ b, τ.bs.length ≤ b → b < σ.bs.length → ws.heap.size ≤ G.β b
def DC (E : Env) (N : Nat) (τ : VS) (wl : List Nat) (fr : List Nat) (σ : VS) (Ψ : World → Ghost → Act → World → Prop) : Prop := ∀ ws Gs a w G, Rel E N σ a w G → LinkC E N τ wl ws Gs fr σ w G → Ψ ws Gs a w
abbrev SC (E : Env) (τ : VS) (wl : List Nat) (ws : World) (Gs : Ghost) : World → Prop := fun v => SameC E τ wl Gs ws v
theorem SV.drawC {id : Nat} {l : List Oper} (wl : List Nat) (ps : List PStep) (zs : List Nat) (hm : P.follows .mixedOrders = true) (hB : planB .any l.toArray (Pl.of ps) zs = true) (h : DC E N τ wl [] τ fun ws Gs a w => wpPi P l.toArray Q (SC E τ wl ws Gs) zs (Pl.of ps) a w) : SV E N τ ((Code.region id l.toArray true).wp P Q) :=
  fun a w G hr => region_plan (SC E τ wl w.drew G) (Pl.of ps) zs hm hB (SameC.refl _ _ _ _ _) fun _ => h w.drew G a w.drew G hr.drew ⟨⟨a, hr.drew⟩, SameC.refl _ _ _ _ _, fun _ _ => rfl, fun _ _ => rfl, Nat.le_refl _, Nat.le_refl _, fun i hi => (by cases hi), fun b h1 h2 => absurd h2 (Nat.not_lt.2 h1)⟩
theorem SV.drawCT {id : Nat} {l : List Oper} (wl : List Nat) (ps : Pl) (zs : List Nat) (hm : P.follows .mixedOrders = true) (hB : planB .any l.toArray ps zs = true) (h : DC E N τ wl [] τ fun ws Gs a w => wpPi P l.toArray Q (SC E τ wl ws Gs) zs ps a w) : SV E N τ ((Code.region id l.toArray true).wp P Q) :=
  fun a w G hr => region_plan (SC E τ wl w.drew G) ps zs hm hB (SameC.refl _ _ _ _ _) fun _ => h w.drew G a w.drew G hr.drew ⟨⟨a, hr.drew⟩, SameC.refl _ _ _ _ _, fun _ _ => rfl, fun _ _ => rfl, Nat.le_refl _, Nat.le_refl _, fun i hi => (by cases hi), fun b h1 h2 => absurd h2 (Nat.not_lt.2 h1)⟩
variable {l : List Oper} {zs : List Nat} {ps : Pl} {i d : Nat} {fr wl : List Nat}
theorem LinkC.put (h : LinkC E N τ wl ws Gs fr σ w G) {v : V} : LinkC E N τ wl ws Gs fr (σ.put d v) w G := ⟨h.start, h.same, h.vl, h.β, h.nx, h.bs, h.fresh, h.nb⟩
theorem LinkC.lite (h : LinkC E N τ wl ws Gs fr σ w G) {v : World} (s : SameC E τ wl Gs ws v) : Lite E 0 G w v :=
  ⟨fun b hb => (s.below.block b hb).trans (h.same.below.block b hb).symm, fun c hc => absurd hc (Nat.not_lt_zero c)⟩
/-- An operation that yields one value wherever it comes up. -/
theorem DC.q {V' : V} (ho : nthO l i = some o) (h : OpL P E N 0 σ o V') (hg : o.guard = none) (hd : o.dst = some d) (hdN : d < N) (hQ : ∀ c (a : Act) v w, Q (.panic c) (a.put o.dst v) w → Q (.panic c) a w) (k : DC E N τ wl fr (σ.put d V') fun ws Gs a w => wpPi P l.toArray Q (SC E τ wl ws Gs) zs ps a w) :
    DC E N τ wl fr σ fun ws Gs a w => wpPi P l.toArray Q (SC E τ wl ws Gs) zs (.q i ps) a w := fun ws Gs a w G hr hl => by
  obtain ⟨u, h1, h2⟩ := h a w G hr
  refine pi_take (v := u) ho (fun c a w => hQ c a u w) (by simp [Region.wanted, hg]) (fun v hv => h1 v (hl.lite hv)) ?_
  rw [hd]
  exact k ws Gs _ w G (hr.put hdN h2) hl.put
/-- The cells of an object that is as it was lie as they did. -/
theorem SameC.cell (h : Rel E N τ a ws Gs) {v : World} (s : SameC E τ wl Gs ws v) {j ver g k' n p : Nat} {ty : TypeId} {fs : List (List T)} {N' c : Nat} {e : List T} {u : Value} (hj : τ.ob j = some (ver, .seq ty fs)) (hv : Gs.vl j = .slice (some ⟨g, 0, none⟩) N' c) (he : fs[k']? = some e) (hen : e.length = n) (hp : p < n) (hcell : ws.cell? ⟨g, k' * n + p, none⟩ = some u) : v.cell? ⟨g, k' * n + p, none⟩ = some u := by
  have hroot : (Gs.vl j).ownBlock = some g := by rw [hv]; rfl
  have hft := root_ft h hj hroot
  rcases s.block g (lt_blk hcell) with h9 | ⟨c', -, hc', h9⟩ | ⟨i2, v2, ty2, es2, n2, cs, cs', f1, f2, f3, f4, f5, f6, f7⟩
  · exact (World.cell?_of_block h9).trans hcell
  · rw [h9] at hft
    exact absurd hft (h.boxft c' j hc' (by rw [hj]; simp))
  · have hji : j = i2 := by
      rcases Nat.decEq j i2 with hne | hne
      · exact absurd (root_ft h f1 f2) (h.disj j i2 g (by rw [hj]; simp) (by rw [f1]; simp) hne hft)
      · exact hne
    subst hji
    rw [hj] at f1
    cases f1
    obtain ⟨-, hown, -⟩ := h.objs j ver _ hj
    cases hown with
    | seq n3 hp3 hz3 hn3 xs hown3 Gs3 hr3 hone3 hF3 hG3 hne3 hd3 =>
      have hnn : n2 = n := (f3.eq hz3).trans ((hn3 e (get_mem he)).symm.trans hen)
      subst hnn
      have hlt : k' * n2 + p < fs.length * n2 := at_lt (get_lt he) hp
      rw [cell_of_row _ _ _ _ _ _ f4] at hcell
      rw [cell_of_row _ _ _ _ _ _ f5]
      have g1 : (cs'.toList.take (fs.length * n2))[k' * n2 + p]? = (cs.toList.take (fs.length * n2))[k' * n2 + p]? := by rw [f7]
      rw [List.getElem?_take, List.getElem?_take, if_pos hlt, if_pos hlt] at g1
      simpa using g1.trans (by simpa using hcell)
theorem SameC.cellB (h : Rel E N τ a ws Gs) {v : World} (s : SameC E τ wl Gs ws v) {j ver g k' n p : Nat} {ty : TypeId} {fs : List (List T)} {N' c : Nat} {e : List T} {u : Value} (hj : τ.ob j = some (ver, .seq ty fs)) (hv : Gs.vl j = .slice (some ⟨g, 0, none⟩) N' c) (he : fs[k']? = some e) (hen : e.length = n) (hp : p < n) (hcell : v.cell? ⟨g, k' * n + p, none⟩ = some u) : ws.cell? ⟨g, k' * n + p, none⟩ = some u := by
  obtain ⟨-, hown, -⟩ := h.objs j ver _ hj
  cases hown with
  | seq n3 hp3 hz3 hn3 xs hown3 Gs3 hr3 hone3 hF3 hG3 hne3 hd3 =>
    obtain ⟨a', c', e1, -, -, -, e5⟩ := own_slice hown3
    rw [hv] at e1
    injection e1 with e1 e2 e3
    obtain ⟨g', f1, f2, f3, f4, f5⟩ := e5 (Nat.lt_of_le_of_lt (Nat.zero_le _) (get_lt he))
    rw [f1] at e1
    injection e1 with e1
    injection e1 with e1
    have hn' : n3 = n := (hn3 e (get_mem he)).symm.trans hen
    subst hn' e1
    have hxl : xs.length = fs.length * n3 := hown3.1
    have hlt : k' * n3 + p < xs.length := by rw [hxl]; exact at_lt (get_lt he) hp
    have h6 := f4 (k' * n3 + p) xs[k' * n3 + p] (List.getElem?_eq_getElem hlt)
    have h7 := s.cell h hj hv he hen hp h6
    rw [hcell] at h7
    rw [h6, h7]
/-- A cell of an object is read that is as it was when the region began. -/
theorem DC.el {m : Nat} {ty : TypeId} {x : Operand} {j k' n o' : Nat} {ag : Bool} {es : List T} {ys : List Leaf} (hn : nthO l i = some o) (ho : o.op = .load ty x) (hx : σ.ev x = V.one (.ep j k' n o')) (hob : j < τ.nx ∧ σ.ob j = τ.ob j) (hc : σ.cells (.ep j k' n o') = some es) (hag : ∀ w, (isAgg ty).run Try.prog w = .ok ag w) (hm : Sz ty m) (h1 : ag = false → m = 1) (hml : m ≤ es.length)
    (hy : (List.range m).map (fun q => match es[q]? with | some t => σ.cellLeaf (.ep j k' n o') q t | none => .dead) = ys) (hg : o.guard = none) (hd : o.dst = some d) (hdN : d < N) (hQ : ∀ c (a : Act) v w, Q (.panic c) (a.put o.dst v) w → Q (.panic c) a w) (k : DC E N τ wl fr (σ.put d (V.flat ag ys)) fun ws Gs a w => wpPi Try.prog l.toArray Q (SC E τ wl ws Gs) zs ps a w) :
    DC E N τ wl fr σ fun ws Gs a w => wpPi Try.prog l.toArray Q (SC E τ wl ws Gs) zs (.q i ps) a w := fun ws Gs a w G hr hl => by
  obtain ⟨u, b, q, h2, h3, h4⟩ := load_el ho hx hc hag hm h1 hml hy hr
  refine pi_take (v := u) hn (fun c a w => hQ c a u w) (by simp [Region.wanted, hg]) (fun v hv => h3 v fun p y hp hcell => ?_) ?_
  · have h5 := hr.ev x
    rw [hx, vone] at h5
    obtain ⟨⟨-, g, M, c, h6, h7⟩, -⟩ := h5
    rw [h2] at h7
    injection h7 with h7
    injection h7 with h7
    injection h7 with h7 h8
    subst h7 h8
    obtain ⟨⟨ver, s⟩, e1, e2⟩ := Option.bind_eq_some_iff.1 hc
    obtain ⟨-, hown, ty', fs, hs⟩ := hr.objs j ver s e1
    have hs' : s = .seq ty' fs := hs
    subst hs'
    obtain ⟨e, he, e3⟩ := Option.bind_eq_some_iff.1 e2
    have hen : e.length = n := by
      cases hb : Nat.beq e.length n with
      | true => exact Nat.eq_of_beq_eq_true hb
      | false => simp only [hb] at e3; cases e3
    have hed : e.drop o' = es := by
      have hb : Nat.beq e.length n = true := by rw [hen]; exact Nat.beq_refl n
      simpa [hb] using e3
    have hlen : o' + p < n := by
      have : (e.drop o').length = es.length := by rw [hed]
      rw [List.length_drop, hen] at this
      omega
    obtain ⟨ar, hrs⟩ := hl.start
    have hj : τ.ob j = some (ver, .seq ty' fs) := by rw [← hob.2]; exact e1
    have hv0 : Gs.vl j = .slice (some ⟨b, 0, none⟩) M c := by rw [← hl.vl j hob.1]; exact h6
    have hcell' : w.cell? ⟨b, k' * n + (o' + p), none⟩ = some y := by rw [← Nat.add_assoc]; exact hcell
    have := hv.cell hrs hj hv0 he hen hlen (hl.same.cellB hrs hj hv0 he hen hlen hcell')
    rwa [← Nat.add_assoc] at this
  · rw [hd]
    exact k _ _ _ _ _ (hr.put hdN h4) hl.put
theorem ansS_bs : ∀ (ts : List T) (σ : VS), (ansS σ ts).bs = σ.bs
  | [], _ => rfl
  | .seq ty es :: ts, σ => ansS_bs ts (σ.new (.seq ty es))
  | .any :: ts, σ => ansS_bs ts σ
  | .lit u :: ts, σ => ansS_bs ts σ
theorem ansSs_bs : ∀ (qs : List (Bool × List T)) (σ : VS), (ansSs σ qs).bs = σ.bs
  | [], _ => rfl
  | (ag, ts) :: qs, σ => (ansSs_bs qs (ansS σ ts)).trans (ansS_bs ts σ)
theorem SameT.toC (wl : List Nat) {v : World} (h : SameT E τ G ws v) : SameC E τ wl G ws v := ⟨h.below, fun b hb => (h.block b hb).imp id .inr⟩
/-- An object's cell is read in a drawn region, wherever the object is as it was. -/
theorem DW.elm {m : Nat} {ty : TypeId} {x : Operand} {j k' n o' : Nat} {ag cl : Bool} {es : List T} {ys : List Leaf} (hn : nthO l i = some o) (ho : o.op = .load ty x) (hx : σ.ev x = V.one (.ep j k' n o')) (hob : j < τ.nx ∧ σ.ob j = τ.ob j) (hc : σ.cells (.ep j k' n o') = some es) (hag : ∀ w, (isAgg ty).run Try.prog w = .ok ag w) (hm : Sz ty m) (h1 : ag = false → m = 1) (hml : m ≤ es.length)
    (hy : (List.range m).map (fun q => match es[q]? with | some t => σ.cellLeaf (.ep j k' n o') q t | none => .dead) = ys) (hw : ∀ {a w G}, Rel E N σ a w G → Region.wanted o (yielded l.toArray a.tmps) = true) (hd : o.dst = some d) (hdN : d < N) (hQ : ∀ c (a : Act) v w, Q (.panic c) (a.put o.dst v) w → Q (.panic c) a w) (k : DW E N τ fr cl (σ.put d (V.flat ag ys)) fun ws Gs a w => wpPi Try.prog l.toArray Q (SW E τ ws Gs) zs ps a w) :
    DW E N τ fr cl σ fun ws Gs a w => wpPi Try.prog l.toArray Q (SW E τ ws Gs) zs (.q i ps) a w := fun ws Gs a w G hr hl => by
  obtain ⟨u, b, q, h2, h3, h4⟩ := load_el ho hx hc hag hm h1 hml hy hr
  refine pi_take (v := u) hn (fun c a w => hQ c a u w) (hw hr) (fun v hv => h3 v fun p y hp hcell => ?_) ?_
  · have h5 := hr.ev x
    rw [hx, vone] at h5
    obtain ⟨⟨-, g, M, c, h6, h7⟩, -⟩ := h5
    rw [h2] at h7
    injection h7 with h7
    injection h7 with h7
    injection h7 with h7 h8
    subst h7 h8
    obtain ⟨⟨ver, s⟩, e1, e2⟩ := Option.bind_eq_some_iff.1 hc
    obtain ⟨-, hown, ty', fs, hs⟩ := hr.objs j ver s e1
    have hs' : s = .seq ty' fs := hs
    subst hs'
    obtain ⟨e, he, e3⟩ := Option.bind_eq_some_iff.1 e2
    have hen : e.length = n := by
      cases hb : Nat.beq e.length n with
      | true => exact Nat.eq_of_beq_eq_true hb
      | false => simp only [hb] at e3; cases e3
    have hed : e.drop o' = es := by
      have hb : Nat.beq e.length n = true := by rw [hen]; exact Nat.beq_refl n
      simpa [hb] using e3
    have hlen : o' + p < n := by
      have : (e.drop o').length = es.length := by rw [hed]
      rw [List.length_drop, hen] at this
      omega
    obtain ⟨ar, hrs⟩ := hl.start
    have hj : τ.ob j = some (ver, .seq ty' fs) := by rw [← hob.2]; exact e1
    have hv0 : Gs.vl j = .slice (some ⟨b, 0, none⟩) M c := by rw [← hl.vl j hob.1]; exact h6
    have hcell' : w.cell? ⟨b, k' * n + (o' + p), none⟩ = some y := by rw [← Nat.add_assoc]; exact hcell
    have := (hv.toC []).cell hrs hj hv0 he hen hlen ((hl.same.toC []).cellB hrs hj hv0 he hen hlen hcell')
    rwa [← Nat.add_assoc] at this
  · rw [hd]
    exact k _ _ _ _ _ (hr.put hdN h4) hl.put
/-- A call that is handed the cursor. -/
theorem DC.mK {Y : Type} {Pr : Y → Prop} (hC : E.code ad len cap zs0) {b : Nat} {f : FuncId} {x0 : Operand} {xs : List Operand} {us : List Value} {ats : Array TypeId} {tup : Bool} {rs : Y → List (Bool × List T)} {p h0 : Int} (hn : nthO l i = some o) (ho : o.op = .call { callee := .value (.func f), args := (x0 :: xs).toArray, argTypes := ats }) (hb : ∃ fn c, P.funcs[f]? = some fn ∧ fn.body = some c ∧ fn.name ≠ "runtime.NumGoroutine")
    (hc : VK ad len cap zs0 Pr P f us tup rs) (hx0 : σ.ev x0 = V.one (.bp b 0)) (hx : σ.scs xs us) (hbx : σ.bs[b]? = some (49, curL ad len cap p h0)) (hbw : b ∈ wl) (hbt : b < τ.bs.length) (hp : 0 ≤ p ∧ p ≤ len) (hd : o.dst = some d) (hdN : d < N) (hg : o.guard = none)
    (k : ∀ (y : Y) (p' h' : Int), Pr y → 0 ≤ p' ∧ p' ≤ len → DC E N τ wl fr ((ansSs (σ.setb b 49 (curL ad len cap p' h')) (rs y)).put d ⟨tup, ansLs σ.nx (rs y)⟩) fun ws Gs a w => wpPi P l.toArray Q (SC E τ wl ws Gs) zs ps a w) : DC E N τ wl fr σ fun ws Gs a w => wpPi P l.toArray Q (SC E τ wl ws Gs) zs (.m i ps) a w := fun ws Gs a w G hr hl => by
  refine pi_step hn fun K hK => ?_
  rw [if_pos (by simp [Region.wanted, hg])]
  refine callK_core hC ho hb hc hx0 hx hbx hp hd hdN hr fun y p' h' a' w' G' hy hp' hr' hon hvl hβ hnx => ?_
  have hsame : SameC E τ wl Gs ws w' := by
    refine ⟨⟨hon.os.trans hl.same.below.os, hon.tape.trans hl.same.below.tape, hon.output.trans hl.same.below.output, Nat.le_trans hl.same.below.size hon.size, fun q hq => ?_⟩, fun q hq => ?_⟩
    · obtain ⟨ar, hrs⟩ := hl.start
      have hqw : q < ws.heap.size := Nat.lt_of_lt_of_le hq.1 hrs.low
      refine (hon.block q (Nat.lt_of_lt_of_le hqw hl.same.below.size) fun e => ?_).trans (hl.same.below.block q hq)
      have e' := Option.some.inj e
      obtain ⟨hB, -⟩ := hr.boxes b _ _ hbx
      rw [← e'] at hB
      exact hB.elim (fun h => Nat.lt_irrefl _ (Nat.lt_of_lt_of_le hq.1 h)) hq.2
    · by_cases hqb : q = G.β b
      · exact .inr (.inl ⟨b, hbw, hbt, hqb.trans (hl.β b hbt)⟩)
      · have h1 := hon.block q (Nat.lt_of_lt_of_le hq hl.same.below.size) fun e => hqb (Option.some.inj e)
        rcases hl.same.block q hq with h2 | h2 | ⟨i2, v2, ty2, es2, n2, ds, ds', f1, f2, f3, f4, f5, f6, f7⟩
        · exact .inl (h1.trans h2)
        · exact .inr (.inl h2)
        · exact .inr (.inr ⟨i2, v2, ty2, es2, n2, ds, ds', f1, f2, f3, f4, h1.trans f5, f6, f7⟩)
  refine hK.out a' w' hsame fun _ => k y p' h' hy hp' ws Gs a' w' G' hr' ⟨hl.start, hsame, fun j hj => (hvl j (Nat.lt_of_lt_of_le hj hl.nx)).trans (hl.vl j hj), fun c hc => by rw [hβ]; exact hl.β c hc, Nat.le_trans hl.nx hnx, ?_, fun j hj => ⟨Nat.lt_of_lt_of_le (hl.fresh j hj).1 hnx, fun c hc => (hl.fresh j hj).2 c (by rw [← hvl j (hl.fresh j hj).1]; exact hc)⟩, fun c h1 h2 => by
    rw [hβ]
    have h3 : c < (ansSs _ _).bs.length := h2
    rw [ansSs_bs] at h3
    exact hl.nb c h1 (by simpa [VS.setb] using h3)⟩
  show τ.bs.length ≤ (ansSs _ _).bs.length
  rw [ansSs_bs]
  simpa [VS.setb] using hl.bs
theorem DC.mKT {Y : Type} {Pr : Y → Prop} (hC : E.code ad len cap zs0) {b : Nat} {f : FuncId} {x0 : Operand} {xs : List Operand} {ins : List (Bool × List T)} {ats : Array TypeId} {tup : Bool} {rs : Y → List (Bool × List T)} {p h0 : Int} (hn : nthO l i = some o) (ho : o.op = .call { callee := .value (.func f), args := (x0 :: xs).toArray, argTypes := ats }) (hb : ∃ fn c, P.funcs[f]? = some fn ∧ fn.body = some c ∧ fn.name ≠ "runtime.NumGoroutine")
    (hc : VKT ad len cap zs0 Pr P f ins tup rs) (hx0 : σ.ev x0 = V.one (.bp b 0)) (hx : σ.argss xs ins) (hbx : σ.bs[b]? = some (49, curL ad len cap p h0)) (hbw : b ∈ wl) (hbt : b < τ.bs.length) (hp : 0 ≤ p ∧ p ≤ len) (hd : o.dst = some d) (hdN : d < N) (hg : o.guard = none)
    (k : ∀ (y : Y) (p' h' : Int), Pr y → 0 ≤ p' ∧ p' ≤ len → DC E N τ wl fr ((ansSs (σ.setb b 49 (curL ad len cap p' h')) (rs y)).put d ⟨tup, ansLs σ.nx (rs y)⟩) fun ws Gs a w => wpPi P l.toArray Q (SC E τ wl ws Gs) zs ps a w) : DC E N τ wl fr σ fun ws Gs a w => wpPi P l.toArray Q (SC E τ wl ws Gs) zs (.m i ps) a w := fun ws Gs a w G hr hl => by
  refine pi_step hn fun K hK => ?_
  rw [if_pos (by simp [Region.wanted, hg])]
  refine callKT_core hC ho hb hc hx0 hx hbx hp hd hdN hr fun y p' h' a' w' G' hy hp' hr' hon hvl hβ hnx => ?_
  have hsame : SameC E τ wl Gs ws w' := by
    refine ⟨⟨hon.os.trans hl.same.below.os, hon.tape.trans hl.same.below.tape, hon.output.trans hl.same.below.output, Nat.le_trans hl.same.below.size hon.size, fun q hq => ?_⟩, fun q hq => ?_⟩
    · obtain ⟨ar, hrs⟩ := hl.start
      have hqw : q < ws.heap.size := Nat.lt_of_lt_of_le hq.1 hrs.low
      refine (hon.block q (Nat.lt_of_lt_of_le hqw hl.same.below.size) fun e => ?_).trans (hl.same.below.block q hq)
      have e' := Option.some.inj e
      obtain ⟨hB, -⟩ := hr.boxes b _ _ hbx
      rw [← e'] at hB
      exact hB.elim (fun h => Nat.lt_irrefl _ (Nat.lt_of_lt_of_le hq.1 h)) hq.2
    · by_cases hqb : q = G.β b
      · exact .inr (.inl ⟨b, hbw, hbt, hqb.trans (hl.β b hbt)⟩)
      · have h1 := hon.block q (Nat.lt_of_lt_of_le hq hl.same.below.size) fun e => hqb (Option.some.inj e)
        rcases hl.same.block q hq with h2 | h2 | ⟨i2, v2, ty2, es2, n2, ds, ds', f1, f2, f3, f4, f5, f6, f7⟩
        · exact .inl (h1.trans h2)
        · exact .inr (.inl h2)
        · exact .inr (.inr ⟨i2, v2, ty2, es2, n2, ds, ds', f1, f2, f3, f4, h1.trans f5, f6, f7⟩)
  refine hK.out a' w' hsame fun _ => k y p' h' hy hp' ws Gs a' w' G' hr' ⟨hl.start, hsame, fun j hj => (hvl j (Nat.lt_of_lt_of_le hj hl.nx)).trans (hl.vl j hj), fun c hc => by rw [hβ]; exact hl.β c hc, Nat.le_trans hl.nx hnx, ?_, fun j hj => ⟨Nat.lt_of_lt_of_le (hl.fresh j hj).1 hnx, fun c hc => (hl.fresh j hj).2 c (by rw [← hvl j (hl.fresh j hj).1]; exact hc)⟩, fun c h1 h2 => by
    rw [hβ]
    have h3 : c < (ansSs _ _).bs.length := h2
    rw [ansSs_bs] at h3
    exact hl.nb c h1 (by simpa [VS.setb] using h3)⟩
  show τ.bs.length ≤ (ansSs _ _).bs.length
  rw [ansSs_bs]
  simpa [VS.setb] using hl.bs
/-- An operation that makes memory. -/
theorem DC.m (ho : nthO l i = some o) (h : OpMk P E N none σ o σ') (hg : o.guard = none) (hbs : σ'.bs.length = σ.bs.length) (hnx : σ.nx ≤ σ'.nx)
    (k : DC E N τ wl fr σ' fun ws Gs a w => wpPi P l.toArray Q (SC E τ wl ws Gs) zs ps a w) : DC E N τ wl fr σ fun ws Gs a w => wpPi P l.toArray Q (SC E τ wl ws Gs) zs (.m i ps) a w := fun ws Gs a w G hr hl => by
  refine pi_step ho fun K hK => ?_
  rw [if_pos (by simp [Region.wanted, hg])]
  refine h a w G K Q hr fun a' w' G' hr' hm => ?_
  have hblk : ∀ b, b < w.heap.size → w'.heap[b]? = w.heap[b]? := fun b hb => by
    rcases hm.block b hb with h1 | ⟨j, v, ty, es, n, cs, cs', e1, -⟩
    · exact h1
    · cases e1
  have hsame : SameC E τ wl Gs ws w' := by
    refine ⟨hl.same.below.trans hm.below, fun b hb => ?_⟩
    have h1 := hblk b (Nat.lt_of_lt_of_le hb hl.same.below.size)
    rcases hl.same.block b hb with h2 | h2 | ⟨i2, v2, ty2, es2, n2, ds, ds', f1, f2, f3, f4, f5, f6, f7⟩
    · exact .inl (h1.trans h2)
    · exact .inr (.inl h2)
    · exact .inr (.inr ⟨i2, v2, ty2, es2, n2, ds, ds', f1, f2, f3, f4, h1.trans f5, f6, f7⟩)
  exact hK.out a' w' hsame fun _ => k ws Gs a' w' G' hr' ⟨hl.start, hsame, fun j hj => (hm.vl j (Nat.lt_of_lt_of_le hj hl.nx)).trans (hl.vl j hj), fun b hb => (hm.β b (Nat.lt_of_lt_of_le hb hl.bs)).trans (hl.β b hb), Nat.le_trans hl.nx hnx, by rw [hbs]; exact hl.bs, fun j hj => ⟨Nat.lt_of_lt_of_le (hl.fresh j hj).1 hnx, fun b hb => (hl.fresh j hj).2 b (by rw [← hm.vl j (hl.fresh j hj).1]; exact hb)⟩, fun b h1 h2 => by rw [hbs] at h2; rw [hm.β b h2]; exact hl.nb b h1 h2⟩
/-- A box that nothing in the region writes. -/
theorem LinkC.box (h : LinkC E N τ wl ws Gs fr σ w G) {v : World} (s : SameC E τ wl Gs ws v) {c : Nat} (hc : c < τ.bs.length) (hw : c ∉ wl) : v.heap[G.β c]? = w.heap[G.β c]? := by
  obtain ⟨ar, hrs⟩ := h.start
  have key : ∀ {u : World}, SameC E τ wl Gs ws u → u.heap[Gs.β c]? = ws.heap[Gs.β c]? := fun {u} t => by
    obtain ⟨-, us, h2, -⟩ := hrs.boxes c _ _ (List.getElem?_eq_getElem hc)
    rcases t.block (Gs.β c) (lt_of_block h2) with h1 | ⟨c', hc1, hc2, h1⟩ | ⟨i, ver, ty, es, n, cs, cs', e1, e2, -⟩
    · exact h1
    · exact absurd (hrs.inj c c' hc hc2 h1) (fun e => hw (e ▸ hc1))
    · exact absurd (root_ft hrs e1 e2) (hrs.boxft c i hc (by rw [e1]; simp))
  rw [h.β c hc]
  exact (key s).trans (key h.same).symm
/-- A variable that nothing in the region writes, or a part of it, is read. -/
theorem DC.lb {b i' m : Nat} {ty ty' : TypeId} {x : Operand} {ag : Bool} {xs ys : List Leaf} (ho : nthO l i = some o) (hop : o.op = .load ty x) (hx : σ.ev x = V.one (.bp b i')) (hb : σ.bs[b]? = some (ty', xs)) (hag : ∀ w, (isAgg ty).run P w = .ok ag w) (hm : ∃ inf, P.info? ty = some inf ∧ inf.size = m) (h1 : ag = false → m = 1)
    (hy : (xs.drop i').take m = ys) (hyl : ys.length = m) (hbt : b < τ.bs.length) (hw : b ∉ wl) (hg : o.guard = none) (hd : o.dst = some d) (hdN : d < N) (hQ : ∀ c (a : Act) v w, Q (.panic c) (a.put o.dst v) w → Q (.panic c) a w)
    (k : DC E N τ wl fr (σ.put d (V.flat ag ys)) fun ws Gs a w => wpPi P l.toArray Q (SC E τ wl ws Gs) zs ps a w) : DC E N τ wl fr σ fun ws Gs a w => wpPi P l.toArray Q (SC E τ wl ws Gs) zs (.q i ps) a w := fun ws Gs a w G h hl => by
  have h2 := h.ev x
  rw [hx, vone] at h2
  obtain ⟨⟨-, h3⟩, -⟩ := h2
  obtain ⟨-, us, h4, h5, h6⟩ := h.boxes b ty' xs hb
  have h7 : ((us.drop i').take m).length = m := by
    have : ((xs.drop i').take m).length = m := by rw [hy]; exact hyl
    simp only [List.length_take, List.length_drop] at this ⊢
    omega
  refine pi_take (v := cval ag ((us.drop i').take m)) ho (fun c a w => hQ c a _ w) (by simp [Region.wanted, hg]) (fun v hv => ?_) ?_
  · have hr := load_run (P := P) (w := v) (b := G.β b) (i := i') (us := (us.drop i').take m) hag hm h1 h7 fun j u hj => by
      rw [cell_of_row v _ _ _ _ _ ((hl.box hv hbt hw).trans h4)]
      simpa using cut_get hj
    simp [execOp, hop, h3, Instr.loadAt, Instr.sureAddr, hr, Result.andThen]
  · rw [hd]
    exact k ws Gs _ w G (h.put hdN (vflat.2 ⟨_, rfl, by rw [h7, hyl], fun j y u hj hu => (h6 (i' + j) y u (cut_get (by rw [hy]; exact hj)) (cut_get hu)).1⟩)) hl.put
/-- A variable, or a part of it, is written. -/
theorem DC.store {b i' m : Nat} {ty ty' : TypeId} {x y : Operand} {ag : Bool} {xs zs1 : List Leaf} (ho : o.op = .store ty x y) (hx : σ.ev x = V.one (.bp b i')) (hy : σ.ev y = V.flat ag zs1) (hb : σ.bs[b]? = some (ty', xs)) (hm : ∃ inf, P.info? ty = some inf ∧ inf.size = m) (h1 : ag = false → m = 1)
    (hzl : zs1.length = m) (hi : i' + m ≤ xs.length) (hlv' : zs1.all Leaf.live = true) (hd : o.dst = none) {ys : List Leaf} (hk : xs.take i' ++ zs1 ++ xs.drop (i' + zs1.length) = ys) (hn : nthO l i = some o) (hbw : b ∈ wl) (hbt : b < τ.bs.length) (hg : o.guard = none) (k : DC E N τ wl fr (σ.setb b ty' ys) fun ws Gs a w => wpPi P l.toArray Q (SC E τ wl ws Gs) zs ps a w) : DC E N τ wl fr σ fun ws Gs a w => wpPi P l.toArray Q (SC E τ wl ws Gs) zs (.m i ps) a w := fun ws Gs a w G h hl => by
  refine pi_step hn fun K hK => ?_
  rw [if_pos (by simp [Region.wanted, hg])]
  subst hk
  have h2 := h.ev x
  rw [hx, vone] at h2
  obtain ⟨⟨-, h3⟩, -⟩ := h2
  have hlv : ∀ x ∈ zs1, x.live = true := List.all_eq_true.1 hlv'
  have h4 := h.ev y
  rw [hy, vflat] at h4
  obtain ⟨vs, h5, h6, h7⟩ := h4
  obtain ⟨hB, us, h8, h9, h10⟩ := h.boxes b ty' xs hb
  have hone : ∀ (j : Nat) (x : Leaf) (u : Value), zs1[j]? = some x → vs[j]? = some u → Holds G σ E w x u ∧ u.oneCell' = true := fun j x u hj hu => ⟨h7 j x u hj hu, (h7 j x u hj hu).one (hlv x (get_mem hj))⟩
  have hr := store_run (P := P) (w := w) (b := G.β b) (i := i') (us := vs) (ag := ag) hm h1 (h6.trans hzl) (fun u hu => by
    obtain ⟨j, hj, rfl⟩ := List.getElem_of_mem hu
    exact (hone j zs1[j] vs[j] (by simp [show j < zs1.length by omega]) (by simp [hj])).2) (fun k hk => by
    rw [cell_of_row w _ _ _ _ _ h8]
    simp [show i' + k < us.length by omega]) fun k hk => by simp [World.frozen?, h8]
  have hsm : SameC E τ wl Gs ws (w.setCells (G.β b) i' vs) := by
    refine ⟨⟨(setCells_below _ _ _ _ _ (Nat.le_refl (G.β b))).os.trans hl.same.below.os, (setCells_below _ _ _ _ _ (Nat.le_refl (G.β b))).tape.trans hl.same.below.tape, (setCells_below _ _ _ _ _ (Nat.le_refl (G.β b))).output.trans hl.same.below.output, Nat.le_trans hl.same.below.size (setCells_below _ _ _ _ _ (Nat.le_refl (G.β b))).size, fun q hq => (setCells_far _ _ _ _ q fun e => by subst e; exact hB.elim (fun h1 => Nat.lt_irrefl _ (Nat.lt_of_lt_of_le hq.1 h1)) hq.2).trans (hl.same.below.block q hq)⟩, fun q hq => ?_⟩
    by_cases hqb : q = G.β b
    · exact .inr (.inl ⟨b, hbw, hbt, hqb.trans (hl.β b hbt)⟩)
    · have h1 := setCells_far (G.β b) vs i' w q hqb
      rcases hl.same.block q hq with h2 | h2 | ⟨i2, v2, ty2, es2, n2, ds, ds', f1, f2, f3, f4, f5, f6, f7⟩
      · exact .inl (h1.trans h2)
      · exact .inr (.inl h2)
      · exact .inr (.inr ⟨i2, v2, ty2, es2, n2, ds, ds', f1, f2, f3, f4, h1.trans f5, f6, f7⟩)
  have hrel := h.setbox hb ⟨(setCells_below _ _ _ _ _ (Nat.le_refl (G.β b))).os, (setCells_below _ _ _ _ _ (Nat.le_refl (G.β b))).tape, (setCells_below _ _ _ _ _ (Nat.le_refl (G.β b))).output, (setCells_below _ _ _ _ _ (Nat.le_refl (G.β b))).size, fun k hk => setCells_far (G.β b) vs i' w k fun e => by subst e; exact hB.elim (fun h1 => Nat.lt_irrefl _ (Nat.lt_of_lt_of_le hk.1 h1)) hk.2⟩ (fun k hk => setCells_far (G.β b) vs i' w k hk) (setCells_heap _ _ _ _ us ty' h8 (by omega)) (by simp; omega)
        (cat_get (R := fun x u => Holds G σ E w x u ∧ u.oneCell' = true) h9 h6 (by omega) h10 hone)
  refine wp_skipped (w' := w.setCells (G.β b) i' vs) ?_ (by
    rw [hd]
    exact hK.out _ _ hsm fun _ => k ws Gs _ _ G hrel ⟨hl.start, hsm, hl.vl, hl.β, hl.nx, by simpa [VS.setb] using hl.bs, hl.fresh, fun c h1 h2 => hl.nb c h1 (by simpa [VS.setb] using h2)⟩)
  simp [execOp, ho, h3, h5, Instr.storeAt, Instr.sureAddr, hr, Result.andThen]
/-- The same, of a variable that the region has made. -/
theorem DC.storeN {b i' m : Nat} {ty ty' : TypeId} {x y : Operand} {ag : Bool} {xs zs1 : List Leaf} (ho : o.op = .store ty x y) (hx : σ.ev x = V.one (.bp b i')) (hy : σ.ev y = V.flat ag zs1) (hb : σ.bs[b]? = some (ty', xs)) (hm : ∃ inf, P.info? ty = some inf ∧ inf.size = m) (h1 : ag = false → m = 1)
    (hzl : zs1.length = m) (hi : i' + m ≤ xs.length) (hlv' : zs1.all Leaf.live = true) (hd : o.dst = none) {ys : List Leaf} (hk : xs.take i' ++ zs1 ++ xs.drop (i' + zs1.length) = ys) (hn : nthO l i = some o) (hbt : τ.bs.length ≤ b) (hg : o.guard = none) (k : DC E N τ wl fr (σ.setb b ty' ys) fun ws Gs a w => wpPi P l.toArray Q (SC E τ wl ws Gs) zs ps a w) : DC E N τ wl fr σ fun ws Gs a w => wpPi P l.toArray Q (SC E τ wl ws Gs) zs (.m i ps) a w := fun ws Gs a w G h hl => by
  refine pi_step hn fun K hK => ?_
  rw [if_pos (by simp [Region.wanted, hg])]
  subst hk
  have h2 := h.ev x
  rw [hx, vone] at h2
  obtain ⟨⟨-, h3⟩, -⟩ := h2
  have hlv : ∀ x ∈ zs1, x.live = true := List.all_eq_true.1 hlv'
  have h4 := h.ev y
  rw [hy, vflat] at h4
  obtain ⟨vs, h5, h6, h7⟩ := h4
  obtain ⟨hB, us, h8, h9, h10⟩ := h.boxes b ty' xs hb
  have hone : ∀ (j : Nat) (x : Leaf) (u : Value), zs1[j]? = some x → vs[j]? = some u → Holds G σ E w x u ∧ u.oneCell' = true := fun j x u hj hu => ⟨h7 j x u hj hu, (h7 j x u hj hu).one (hlv x (get_mem hj))⟩
  have hr := store_run (P := P) (w := w) (b := G.β b) (i := i') (us := vs) (ag := ag) hm h1 (h6.trans hzl) (fun u hu => by
    obtain ⟨j, hj, rfl⟩ := List.getElem_of_mem hu
    exact (hone j zs1[j] vs[j] (by simp [show j < zs1.length by omega]) (by simp [hj])).2) (fun k hk => by
    rw [cell_of_row w _ _ _ _ _ h8]
    simp [show i' + k < us.length by omega]) fun k hk => by simp [World.frozen?, h8]
  have hsm : SameC E τ wl Gs ws (w.setCells (G.β b) i' vs) := by
    refine ⟨⟨(setCells_below _ _ _ _ _ (Nat.le_refl (G.β b))).os.trans hl.same.below.os, (setCells_below _ _ _ _ _ (Nat.le_refl (G.β b))).tape.trans hl.same.below.tape, (setCells_below _ _ _ _ _ (Nat.le_refl (G.β b))).output.trans hl.same.below.output, Nat.le_trans hl.same.below.size (setCells_below _ _ _ _ _ (Nat.le_refl (G.β b))).size, fun q hq => (setCells_far _ _ _ _ q fun e => by subst e; exact hB.elim (fun h1 => Nat.lt_irrefl _ (Nat.lt_of_lt_of_le hq.1 h1)) hq.2).trans (hl.same.below.block q hq)⟩, fun q hq => ?_⟩
    by_cases hqb : q = G.β b
    · exact absurd (hl.nb b hbt (get_lt hb)) (Nat.not_le.2 (hqb ▸ hq))
    · have h1 := setCells_far (G.β b) vs i' w q hqb
      rcases hl.same.block q hq with h2 | h2 | ⟨i2, v2, ty2, es2, n2, ds, ds', f1, f2, f3, f4, f5, f6, f7⟩
      · exact .inl (h1.trans h2)
      · exact .inr (.inl h2)
      · exact .inr (.inr ⟨i2, v2, ty2, es2, n2, ds, ds', f1, f2, f3, f4, h1.trans f5, f6, f7⟩)
  have hrel := h.setbox hb ⟨(setCells_below _ _ _ _ _ (Nat.le_refl (G.β b))).os, (setCells_below _ _ _ _ _ (Nat.le_refl (G.β b))).tape, (setCells_below _ _ _ _ _ (Nat.le_refl (G.β b))).output, (setCells_below _ _ _ _ _ (Nat.le_refl (G.β b))).size, fun k hk => setCells_far (G.β b) vs i' w k fun e => by subst e; exact hB.elim (fun h1 => Nat.lt_irrefl _ (Nat.lt_of_lt_of_le hk.1 h1)) hk.2⟩ (fun k hk => setCells_far (G.β b) vs i' w k hk) (setCells_heap _ _ _ _ us ty' h8 (by omega)) (by simp; omega)
        (cat_get (R := fun x u => Holds G σ E w x u ∧ u.oneCell' = true) h9 h6 (by omega) h10 hone)
  refine wp_skipped (w' := w.setCells (G.β b) i' vs) ?_ (by
    rw [hd]
    exact hK.out _ _ hsm fun _ => k ws Gs _ _ G hrel ⟨hl.start, hsm, hl.vl, hl.β, hl.nx, by simpa [VS.setb] using hl.bs, hl.fresh, fun c h1 h2 => hl.nb c h1 (by simpa [VS.setb] using h2)⟩)
  simp [execOp, ho, h3, h5, Instr.storeAt, Instr.sureAddr, hr, Result.andThen]
/-- A variable is made. -/
theorem DC.alloc {ty : TypeId} {z : Value} {xs : List Leaf} {kk : Nat} (hn : nthO l i = some o) (hk : σ.bs.length = kk) (ho : o.op = .alloc ty) (hz : ∀ w, (zeroValue ty).run P w = .ok z w) (hxs : ZL xs z.cells.toList) (hd : o.dst = some d) (hdN : d < N) (hg : o.guard = none)
    (k : DC E N τ wl fr ((σ.box ty xs).put d (V.one (.bp kk 0))) fun ws Gs a w => wpPi P l.toArray Q (SC E τ wl ws Gs) zs ps a w) : DC E N τ wl fr σ fun ws Gs a w => wpPi P l.toArray Q (SC E τ wl ws Gs) zs (.m i ps) a w := fun ws Gs a w G hr hl => by
  refine pi_step hn fun K hK => ?_
  rw [if_pos (by simp [Region.wanted, hg])]
  subst hk
  obtain ⟨G', h1, h2, h3, h4⟩ := hr.alloc (ty := ty) hxs.len hxs.holds
  have hb : Below w.heap.size w (w.alloc (.cells z.cells.toList.toArray ty)) := (Below.refl _ _).alloc (Nat.le_refl _) _
  have hsame : SameC E τ wl Gs ws (w.alloc (.cells z.cells.toList.toArray ty)) := by
    refine ⟨hl.same.below.trans (.of_below (hb.mono hr.low)), fun b hb' => ?_⟩
    have h5 := hb.block b (Nat.lt_of_lt_of_le hb' hl.same.below.size)
    rcases hl.same.block b hb' with e2 | e2 | ⟨i2, v2, ty2, es2, n2, ds, ds', f1, f2, f3, f4, f5, f6, f7⟩
    · exact .inl (h5.trans e2)
    · exact .inr (.inl e2)
    · exact .inr (.inr ⟨i2, v2, ty2, es2, n2, ds, ds', f1, f2, f3, f4, h5.trans f5, f6, f7⟩)
  refine wp_value (v := .pointer (some ⟨w.heap.size, 0, none⟩)) (w' := w.alloc (.cells z.cells.toList.toArray ty)) ?_ ?_
  · simp [execOp, ho, Instr.alloc, hz, newVar, newRow, Result.andThen]
  rw [hd]
  refine hK.out _ _ hsame fun _ => k ws Gs _ _ G' (h1.put hdN (vone.2 ⟨⟨by simp, by rw [h2]⟩, .inr rfl⟩)) ⟨hl.start, hsame, fun j hj => by rw [h3]; exact hl.vl j hj, fun b hb' => (h4 b (Nat.lt_of_lt_of_le hb' hl.bs)).trans (hl.β b hb'), hl.nx, ?_, fun j hj => ⟨(hl.fresh j hj).1, fun b hb' => (hl.fresh j hj).2 b (by rw [← h3]; exact hb')⟩, fun b h5 h6 => ?_⟩
  · show τ.bs.length ≤ (σ.bs ++ [(ty, xs)]).length
    rw [List.length_append]
    have := hl.bs
    omega
  · have h6' : b < (σ.bs ++ [(ty, xs)]).length := h6
    rw [List.length_append, List.length_singleton] at h6'
    rcases Nat.lt_or_ge b σ.bs.length with h7 | h7
    · rw [h4 b h7]; exact hl.nb b h5 h7
    · rw [show b = σ.bs.length by omega, h2]
      exact hl.same.below.size
/-- Either of two operations comes up first. -/
theorem DC.alt {ps1 ps2 : Pl} {j : Nat} (h1 : DC E N τ wl fr σ fun ws Gs a w => wpPi P l.toArray Q (SC E τ wl ws Gs) zs (.m i ps1) a w) (h2 : DC E N τ wl fr σ fun ws Gs a w => wpPi P l.toArray Q (SC E τ wl ws Gs) zs (.m j ps2) a w) :
    DC E N τ wl fr σ fun ws Gs a w => wpPi P l.toArray Q (SC E τ wl ws Gs) zs (.alt i ps1 j ps2) a w := fun ws Gs a w G hr hl => ⟨h1 ws Gs a w G hr hl, h2 ws Gs a w G hr hl⟩
/-- The stores at the end. -/
theorem DC.stores (h : SV E N σ (wpZ P l.toArray Q zs)) : DC E N τ wl fr σ fun ws Gs a w => wpPi P l.toArray Q (SC E τ wl ws Gs) zs .nil a w := fun ws Gs a w G hr hl => pi_end (h a w G hr)
end Go.Proofs.Ytjdjceohlcimaaa.V
/- Accounts as plain mathematics: valid ones, and what charges, releases and changes of the grant make of them; no function of program or reference is walked here. -/
namespace Go.Proofs.Ytjdjceohlcimaaa
open Go.RowKit
set_option linter.unusedVariables false
namespace AccountD
def ok (a : AccountD) : Bool := decide (8 ≤ a.fGrant ∧ a.fGrant ≤ 60 ∧ 0 ≤ a.fUsed ∧ a.fUsed ≤ a.fPeak ∧ a.fPeak ≤ 60 ∧ 0 ≤ a.fOvercommits ∧ a.fOvercommits ≤ 1000)
def isGrant (g : Int) : Bool := decide (8 ≤ g ∧ g ≤ 60)
def new (g : Int) : AccountD := if isGrant g = true then ⟨0, g, 0, 0⟩ else ⟨0, 0, 0, 0⟩
def canCharge (a : AccountD) (n : Int) : Bool := decide (ok a = true ∧ 0 ≤ n ∧ n ≤ 60 ∧ a.fUsed + n ≤ a.fGrant)
def charge (a : AccountD) (n : Int) : AccountD := if canCharge a n = true then ⟨a.fUsed + n, a.fGrant, max a.fPeak (a.fUsed + n), a.fOvercommits⟩ else a
def canRelease (a : AccountD) (n : Int) : Bool := decide (ok a = true ∧ 0 ≤ n ∧ n ≤ a.fUsed)
def release (a : AccountD) (n : Int) : AccountD := if canRelease a n = true then ⟨a.fUsed - n, a.fGrant, a.fPeak, a.fOvercommits⟩ else a
def canSet (a : AccountD) (g : Int) : Bool := decide (ok a = true ∧ 8 ≤ g ∧ g ≤ 60 ∧ a.fOvercommits ≠ 1000)
def setGrant (a : AccountD) (g : Int) : AccountD := if canSet a g = true then ⟨a.fUsed, g, a.fPeak, if g < a.fUsed then a.fOvercommits + 1 else a.fOvercommits⟩ else a
def excess (a : AccountD) : Int := if ok a = true then max 0 (a.fUsed - a.fGrant) else 0
theorem ok_iff (a : AccountD) : ok a = true ↔ (8 ≤ a.fGrant ∧ a.fGrant ≤ 60 ∧ 0 ≤ a.fUsed ∧ a.fUsed ≤ a.fPeak ∧ a.fPeak ≤ 60 ∧ 0 ≤ a.fOvercommits ∧ a.fOvercommits ≤ 1000) := by unfold ok; exact decide_eq_true_iff
theorem new_yes {n : Int} (h : isGrant n = true) : new n = ⟨0, n, 0, 0⟩ := by unfold new; rw [if_pos h]
theorem new_no {n : Int} (h : isGrant n = false) : new n = ⟨0, 0, 0, 0⟩ := by unfold new; rw [if_neg (by rw [h]; decide)]
theorem charge_yes {a : AccountD} {n : Int} (h : canCharge a n = true) : charge a n = ⟨a.fUsed + n, a.fGrant, max a.fPeak (a.fUsed + n), a.fOvercommits⟩ := by unfold charge; rw [if_pos h]
theorem charge_no {a : AccountD} {n : Int} (h : canCharge a n = false) : charge a n = a := by unfold charge; rw [if_neg (by rw [h]; decide)]
theorem release_yes {a : AccountD} {n : Int} (h : canRelease a n = true) : release a n = ⟨a.fUsed - n, a.fGrant, a.fPeak, a.fOvercommits⟩ := by unfold release; rw [if_pos h]
theorem release_no {a : AccountD} {n : Int} (h : canRelease a n = false) : release a n = a := by unfold release; rw [if_neg (by rw [h]; decide)]
theorem setGrant_up {a : AccountD} {n : Int} (h : canSet a n = true) (hl : n < a.fUsed) : setGrant a n = ⟨a.fUsed, n, a.fPeak, a.fOvercommits + 1⟩ := by unfold setGrant; rw [if_pos h, if_pos hl]
theorem setGrant_keep {a : AccountD} {n : Int} (h : canSet a n = true) (hl : ¬ n < a.fUsed) : setGrant a n = ⟨a.fUsed, n, a.fPeak, a.fOvercommits⟩ := by unfold setGrant; rw [if_pos h, if_neg hl]
theorem setGrant_no {a : AccountD} {n : Int} (h : canSet a n = false) : setGrant a n = a := by unfold setGrant; rw [if_neg (by rw [h]; decide)]
theorem excess_yes {a : AccountD} (h : ok a = true) : excess a = max 0 (a.fUsed - a.fGrant) := by unfold excess; rw [if_pos h]
theorem excess_no {a : AccountD} (h : ok a = false) : excess a = 0 := by unfold excess; rw [if_neg (by rw [h]; decide)]
theorem canCharge_iff (a : AccountD) (n : Int) : canCharge a n = true ↔ (ok a = true ∧ 0 ≤ n ∧ n ≤ 60 ∧ a.fUsed + n ≤ a.fGrant) := by unfold canCharge; exact decide_eq_true_iff
theorem canRelease_iff (a : AccountD) (n : Int) : canRelease a n = true ↔ (ok a = true ∧ 0 ≤ n ∧ n ≤ a.fUsed) := by unfold canRelease; exact decide_eq_true_iff
theorem canSet_iff (a : AccountD) (n : Int) : canSet a n = true ↔ (ok a = true ∧ 8 ≤ n ∧ n ≤ 60 ∧ a.fOvercommits ≠ 1000) := by unfold canSet; exact decide_eq_true_iff
theorem isGrant_iff (n : Int) : isGrant n = true ↔ (8 ≤ n ∧ n ≤ 60) := by unfold isGrant; exact decide_eq_true_iff
end AccountD
end Go.Proofs.Ytjdjceohlcimaaa
/- Numbers within bounds: told by trees. -/
namespace Go.Proofs.Ytjdjceohlcimaaa
open Go Go.RowKit V
set_option linter.unusedVariables false
set_option maxRecDepth 100000 in
set_option maxHeartbeats 2000000 in
theorem vin_s' (x lo hi : Int) : VC Try.prog 34 [(false, [.lit (.int .i64 (x))]), (false, [.lit (.int .i64 (lo))]), (false, [.lit (.int .i64 (hi))])] false [(false, [.lit (.bool (decide (lo ≤ x ∧ x ≤ hi)))])] := by
  refine VC.enter Try.func34 rfl Try.ntmps34 (Nat.le_of_ble_eq_true rfl) fun E hE => ?_
  refine SV.seq' ?_
  refine SV.region ?_
  refine SV.op (OpL.ok (nb := 0) (ok_move (v := V.one (.sc _)) (.inr rfl) rfl) rfl (Nat.le_of_ble_eq_true rfl)) rfl ?_
  refine SV.nil ?_
  refine SV.tn ?_
  refine SV.seq' ?_
  refine SV.region ?_
  refine SV.op (OpL.ok (nb := 0) (ok_move (v := V.one (.sc _)) (.inl rfl) rfl) rfl (Nat.le_of_ble_eq_true rfl)) rfl ?_
  refine SV.op (OpL.ok (nb := 0) (ok_move (v := V.one (.sc _)) (.inl rfl) rfl) rfl (Nat.le_of_ble_eq_true rfl)) rfl ?_
  refine SV.op (OpL.ok (nb := 0) (ok_s2 (x := .tmp 7) (x' := .tmp 8) (VScal.one rfl) (VScal.one rfl) (fun ρ h1 h2 w => by go_simp; (try go_bits); with_reducible rfl) rfl) rfl (Nat.le_of_ble_eq_true rfl)) rfl ?_
  refine SV.op (OpL.ok (nb := 0) (ok_move (v := V.one (.sc _)) (.inl rfl) rfl) rfl (Nat.le_of_ble_eq_true rfl)) rfl ?_
  refine SV.split (d := 10) rfl (fun hg0 => ?_) (fun hg0 => ?_)
  · skip   -- g0.T
    have h0 := hg0
    refine SV.opY (OpL.ok (nb := 0) (ok_move (v := V.one (.sc _)) (.inl rfl) rfl) rfl (Nat.le_of_ble_eq_true rfl)) rfl rfl rfl (Nat.le_of_ble_eq_true rfl) rfl rfl ?_
    refine SV.opY (OpL.ok (nb := 0) (ok_move (v := V.one (.sc _)) (.inl rfl) rfl) rfl (Nat.le_of_ble_eq_true rfl)) rfl rfl rfl (Nat.le_of_ble_eq_true rfl) rfl rfl ?_
    refine SV.opY (OpL.ok (nb := 0) (ok_s2 (x := .tmp 11) (x' := .tmp 12) (VScal.one rfl) (VScal.one rfl) (fun ρ h1 h2 w => by go_simp; (try go_bits); with_reducible rfl) rfl) rfl (Nat.le_of_ble_eq_true rfl)) rfl rfl rfl (Nat.le_of_ble_eq_true rfl) rfl rfl ?_
    refine SV.op (OpL.ok (nb := 0) (ok_pickT (v := V.one (.sc _)) rfl rfl rfl) rfl (Nat.le_of_ble_eq_true rfl)) rfl ?_
    refine SV.op (OpL.ok (nb := 0) (ok_move (v := V.one (.sc _)) (.inr rfl) rfl) rfl (Nat.le_of_ble_eq_true rfl)) rfl ?_
    refine SV.nil ?_
    refine SV.tn ?_
    refine SV.ret ?_
    apply SV.done (hf := Try.results34) (ht := rfl) (he := .inl rfl)
    case hr => exact (ResAll.cons (ResOk.tmp (ag := false) (xs := [.sc _]) rfl) ResAll.nil')
    case h2 => simp [two]
    refine ⟨rfl, ⟨?_, trivial⟩, trivial⟩ <;> (show some (T.lit (Value.bool _)) = some (T.lit (Value.bool _)); refine congrArg (fun z => some (T.lit (Value.bool z))) ?_; (simp at hg0; simp; omega))
  · skip   -- g0.F
    have h0 := hg0
    refine SV.opN rfl rfl rfl (Nat.le_of_ble_eq_true rfl) rfl rfl rfl (Nat.le_of_ble_eq_true rfl) ?_
    refine SV.opN rfl rfl rfl (Nat.le_of_ble_eq_true rfl) rfl rfl rfl (Nat.le_of_ble_eq_true rfl) ?_
    refine SV.opN rfl rfl rfl (Nat.le_of_ble_eq_true rfl) rfl rfl rfl (Nat.le_of_ble_eq_true rfl) ?_
    refine SV.op (OpL.ok (nb := 0) (ok_pickF (v := V.one (.sc _)) rfl rfl rfl) rfl (Nat.le_of_ble_eq_true rfl)) rfl ?_
    refine SV.op (OpL.ok (nb := 0) (ok_move (v := V.one (.sc _)) (.inr rfl) rfl) rfl (Nat.le_of_ble_eq_true rfl)) rfl ?_
    refine SV.nil ?_
    refine SV.tn ?_
    refine SV.ret ?_
    apply SV.done (hf := Try.results34) (ht := rfl) (he := .inl rfl)
    case hr => exact (ResAll.cons (ResOk.tmp (ag := false) (xs := [.sc _]) rfl) ResAll.nil')
    case h2 => simp [two]
    refine ⟨rfl, ⟨?_, trivial⟩, trivial⟩ <;> (show some (T.lit (Value.bool _)) = some (T.lit (Value.bool _)); refine congrArg (fun z => some (T.lit (Value.bool z))) ?_; (simp at hg0; simp; omega))
set_option maxRecDepth 100000 in
set_option maxHeartbeats 2000000 in
theorem vupto_i (x hi : Int) : VC Try.prog 33 [(false, [.lit (.int .i64 (x))]), (false, [.lit (.int .i64 (hi))])] false [(false, [.lit (.bool (decide (0 ≤ x ∧ x ≤ hi)))])] := by
  refine VC.enter Try.func33 rfl Try.ntmps33 (Nat.le_of_ble_eq_true rfl) fun E hE => ?_
  refine SV.seq' ?_
  refine SV.region ?_
  refine SV.op (OpL.ok (nb := 0) (ok_move (v := V.one (.sc _)) (.inr rfl) rfl) rfl (Nat.le_of_ble_eq_true rfl)) rfl ?_
  refine SV.nil ?_
  refine SV.tn ?_
  refine SV.seq' ?_
  refine SV.region ?_
  refine SV.op (OpL.ok (nb := 0) (ok_move (v := V.one (.sc _)) (.inl rfl) rfl) rfl (Nat.le_of_ble_eq_true rfl)) rfl ?_
  refine SV.op (OpL.ok (nb := 0) (ok_s2 (x := .tmp 5) (x' := .const ((Value.int IntKind.i64 0))) (VScal.one rfl) (VScal.one rfl) (fun ρ h1 h2 w => by go_simp; (try go_bits); with_reducible rfl) rfl) rfl (Nat.le_of_ble_eq_true rfl)) rfl ?_
  refine SV.op (OpL.ok (nb := 0) (ok_move (v := V.one (.sc _)) (.inl rfl) rfl) rfl (Nat.le_of_ble_eq_true rfl)) rfl ?_
  refine SV.split (d := 7) rfl (fun hg0 => ?_) (fun hg0 => ?_)
  · skip   -- g0.T
    have h0 := hg0
    refine SV.opY (OpL.ok (nb := 0) (ok_move (v := V.one (.sc _)) (.inl rfl) rfl) rfl (Nat.le_of_ble_eq_true rfl)) rfl rfl rfl (Nat.le_of_ble_eq_true rfl) rfl rfl ?_
    refine SV.opY (OpL.ok (nb := 0) (ok_move (v := V.one (.sc _)) (.inl rfl) rfl) rfl (Nat.le_of_ble_eq_true rfl)) rfl rfl rfl (Nat.le_of_ble_eq_true rfl) rfl rfl ?_
    refine SV.opY (OpL.ok (nb := 0) (ok_s2 (x := .tmp 8) (x' := .tmp 9) (VScal.one rfl) (VScal.one rfl) (fun ρ h1 h2 w => by go_simp; (try go_bits); with_reducible rfl) rfl) rfl (Nat.le_of_ble_eq_true rfl)) rfl rfl rfl (Nat.le_of_ble_eq_true rfl) rfl rfl ?_
    refine SV.op (OpL.ok (nb := 0) (ok_pickT (v := V.one (.sc _)) rfl rfl rfl) rfl (Nat.le_of_ble_eq_true rfl)) rfl ?_
    refine SV.op (OpL.ok (nb := 0) (ok_move (v := V.one (.sc _)) (.inr rfl) rfl) rfl (Nat.le_of_ble_eq_true rfl)) rfl ?_
    refine SV.nil ?_
    refine SV.tn ?_
    refine SV.ret ?_
    apply SV.done (hf := Try.results33) (ht := rfl) (he := .inl rfl)
    case hr => exact (ResAll.cons (ResOk.tmp (ag := false) (xs := [.sc _]) rfl) ResAll.nil')
    case h2 => simp [two]
    refine ⟨rfl, ⟨?_, trivial⟩, trivial⟩ <;> (show some (T.lit (Value.bool _)) = some (T.lit (Value.bool _)); refine congrArg (fun z => some (T.lit (Value.bool z))) ?_; (simp at hg0; simp; omega))
  · skip   -- g0.F
    have h0 := hg0
    refine SV.opN rfl rfl rfl (Nat.le_of_ble_eq_true rfl) rfl rfl rfl (Nat.le_of_ble_eq_true rfl) ?_
    refine SV.opN rfl rfl rfl (Nat.le_of_ble_eq_true rfl) rfl rfl rfl (Nat.le_of_ble_eq_true rfl) ?_
    refine SV.opN rfl rfl rfl (Nat.le_of_ble_eq_true rfl) rfl rfl rfl (Nat.le_of_ble_eq_true rfl) ?_
    refine SV.op (OpL.ok (nb := 0) (ok_pickF (v := V.one (.sc _)) rfl rfl rfl) rfl (Nat.le_of_ble_eq_true rfl)) rfl ?_
    refine SV.op (OpL.ok (nb := 0) (ok_move (v := V.one (.sc _)) (.inr rfl) rfl) rfl (Nat.le_of_ble_eq_true rfl)) rfl ?_
    refine SV.nil ?_
    refine SV.tn ?_
    refine SV.ret ?_
    apply SV.done (hf := Try.results33) (ht := rfl) (he := .inl rfl)
    case hr => exact (ResAll.cons (ResOk.tmp (ag := false) (xs := [.sc _]) rfl) ResAll.nil')
    case h2 => simp [two]
    refine ⟨rfl, ⟨?_, trivial⟩, trivial⟩ <;> (show some (T.lit (Value.bool _)) = some (T.lit (Value.bool _)); refine congrArg (fun z => some (T.lit (Value.bool z))) ?_; (simp at hg0; simp; omega))
end Go.Proofs.Ytjdjceohlcimaaa
/- Valid accounts: told by trees. -/
namespace Go.Proofs.Ytjdjceohlcimaaa
open Go Go.RowKit V
set_option linter.unusedVariables false
set_option maxRecDepth 100000 in
set_option maxHeartbeats 2000000 in
theorem visgrant_i (x : Int) : VC Try.prog 35 [(false, [.lit (.int .i64 (x))])] false [(false, [.lit (.bool (AccountD.isGrant x))])] := by
  refine VC.enter Try.func35 rfl Try.ntmps35 (Nat.le_of_ble_eq_true rfl) fun E hE => ?_
  refine SV.seq' ?_
  refine SV.region ?_
  refine SV.op (OpL.ok (nb := 0) (ok_move (v := V.one (.sc _)) (.inr rfl) rfl) rfl (Nat.le_of_ble_eq_true rfl)) rfl ?_
  refine SV.nil ?_
  refine SV.tn ?_
  refine SV.seq' ?_
  refine SV.region ?_
  refine SV.op (OpL.ok (nb := 0) (ok_move (v := V.one (.sc _)) (.inl rfl) rfl) rfl (Nat.le_of_ble_eq_true rfl)) rfl ?_
  refine SV.op (OpL.ok (nb := 0) (ok_s2 (x := .tmp 3) (x' := .const ((Value.int IntKind.i64 8))) (VScal.one rfl) (VScal.one rfl) (fun ρ h1 h2 w => by go_simp; (try go_bits); with_reducible rfl) rfl) rfl (Nat.le_of_ble_eq_true rfl)) rfl ?_
  refine SV.op (OpL.ok (nb := 0) (ok_move (v := V.one (.sc _)) (.inl rfl) rfl) rfl (Nat.le_of_ble_eq_true rfl)) rfl ?_
  refine SV.split (d := 5) rfl (fun hg0 => ?_) (fun hg0 => ?_)
  · skip   -- g0.T
    refine SV.opY (OpL.ok (nb := 0) (ok_move (v := V.one (.sc _)) (.inl rfl) rfl) rfl (Nat.le_of_ble_eq_true rfl)) rfl rfl rfl (Nat.le_of_ble_eq_true rfl) rfl rfl ?_
    refine SV.opY (OpL.ok (nb := 0) (ok_s2 (x := .tmp 6) (x' := .const ((Value.int IntKind.i64 60))) (VScal.one rfl) (VScal.one rfl) (fun ρ h1 h2 w => by go_simp; (try go_bits); with_reducible rfl) rfl) rfl (Nat.le_of_ble_eq_true rfl)) rfl rfl rfl (Nat.le_of_ble_eq_true rfl) rfl rfl ?_
    refine SV.op (OpL.ok (nb := 0) (ok_pickT (v := V.one (.sc _)) rfl rfl rfl) rfl (Nat.le_of_ble_eq_true rfl)) rfl ?_
    refine SV.op (OpL.ok (nb := 0) (ok_move (v := V.one (.sc _)) (.inr rfl) rfl) rfl (Nat.le_of_ble_eq_true rfl)) rfl ?_
    refine SV.nil ?_
    refine SV.tn ?_
    refine SV.ret ?_
    apply SV.done (hf := Try.results35) (ht := rfl) (he := .inl rfl)
    case hr => exact (ResAll.cons (ResOk.tmp (ag := false) (xs := [.sc _]) rfl) ResAll.nil')
    case h2 => simp [two]
    refine ⟨rfl, ⟨?_, trivial⟩, trivial⟩ <;> (show some (T.lit (Value.bool _)) = some (T.lit (Value.bool _)); refine congrArg (fun z => some (T.lit (Value.bool z))) ?_; (unfold AccountD.isGrant; simp at hg0; simp; omega))
  · skip   -- g0.F
    refine SV.opN rfl rfl rfl (Nat.le_of_ble_eq_true rfl) rfl rfl rfl (Nat.le_of_ble_eq_true rfl) ?_
    refine SV.opN rfl rfl rfl (Nat.le_of_ble_eq_true rfl) rfl rfl rfl (Nat.le_of_ble_eq_true rfl) ?_
    refine SV.op (OpL.ok (nb := 0) (ok_pickF (v := V.one (.sc _)) rfl rfl rfl) rfl (Nat.le_of_ble_eq_true rfl)) rfl ?_
    refine SV.op (OpL.ok (nb := 0) (ok_move (v := V.one (.sc _)) (.inr rfl) rfl) rfl (Nat.le_of_ble_eq_true rfl)) rfl ?_
    refine SV.nil ?_
    refine SV.tn ?_
    refine SV.ret ?_
    apply SV.done (hf := Try.results35) (ht := rfl) (he := .inl rfl)
    case hr => exact (ResAll.cons (ResOk.tmp (ag := false) (xs := [.sc _]) rfl) ResAll.nil')
    case h2 => simp [two]
    refine ⟨rfl, ⟨?_, trivial⟩, trivial⟩ <;> (show some (T.lit (Value.bool _)) = some (T.lit (Value.bool _)); refine congrArg (fun z => some (T.lit (Value.bool z))) ?_; (unfold AccountD.isGrant; simp at hg0; simp; omega))
set_option maxRecDepth 100000 in
set_option maxHeartbeats 2000000 in
theorem vok_s (a : AccountD) : VC Try.prog 15 [(true, tAccount a)] false [(false, [.lit (.bool (AccountD.ok a))])] := by
  refine VC.enter Try.func15 rfl Try.ntmps15 (Nat.le_of_ble_eq_true rfl) fun E hE => ?_
  refine SV.seq' ?_
  refine SV.region ?_
  refine SV.op (OpMk.ok (ok_box (kk := 0) (ag := true) (xs := [.sc _, .sc _, .sc _, .sc _]) rfl rfl rfl (fun h => by cases h) rfl rfl (Nat.le_of_ble_eq_true rfl))) rfl ?_
  refine SV.op (OpL.ok (nb := 1) (ok_move (v := V.one (.sc _)) (.inr rfl) rfl) rfl (Nat.le_of_ble_eq_true rfl)) rfl ?_
  refine SV.nil ?_
  refine SV.tn ?_
  refine SV.seq' ?_
  refine SV.region ?_
  refine SV.op (OpL.ok (nb := 1) (ok_field_bp (b := 0) (o' := 0) (off := 1) rfl rfl fld_impl_Account_1) rfl (Nat.le_of_ble_eq_true rfl)) rfl ?_
  refine SV.op (OpL.ok (nb := 1) (ok_load_bp (b := 0) (i := 1) (ag := false) (m := 1) (ys := [.sc _]) rfl rfl rfl agg_int sz_int (fun _ => rfl) rfl rfl (Nat.le_of_ble_eq_true rfl)) rfl (Nat.le_of_ble_eq_true rfl)) rfl ?_
  refine SV.op (OpMk.ok (ok_call (ls := [(false, [.sc _])]) rfl rfl ⟨_, _, Try.func34, rfl, by decide⟩ (vin_s' a.fGrant 8 60) ⟨⟨[.sc _], rfl, ⟨rfl, trivial⟩⟩, ⟨[.sc _], rfl, ⟨rfl, trivial⟩⟩, ⟨[.sc _], rfl, ⟨rfl, trivial⟩⟩, trivial⟩ rfl (Nat.le_of_ble_eq_true rfl))) rfl ?_
  refine SV.op (OpL.ok (nb := 1) (ok_move (v := V.one (.sc _)) (.inl rfl) rfl) rfl (Nat.le_of_ble_eq_true rfl)) rfl ?_
  refine SV.split (d := 6) rfl (fun hg0 => ?_) (fun hg0 => ?_)
  · skip   -- g0.T
    refine SV.opY (OpL.ok (nb := 1) (ok_field_bp (b := 0) (o' := 0) (off := 0) rfl rfl fld_impl_Account_0) rfl (Nat.le_of_ble_eq_true rfl)) rfl rfl rfl (Nat.le_of_ble_eq_true rfl) rfl rfl ?_
    refine SV.opY (OpL.ok (nb := 1) (ok_load_bp (b := 0) (i := 0) (ag := false) (m := 1) (ys := [.sc _]) rfl rfl rfl agg_int sz_int (fun _ => rfl) rfl rfl (Nat.le_of_ble_eq_true rfl)) rfl (Nat.le_of_ble_eq_true rfl)) rfl rfl rfl (Nat.le_of_ble_eq_true rfl) rfl rfl ?_
    refine SV.opY (OpL.ok (nb := 1) (ok_field_bp (b := 0) (o' := 0) (off := 2) rfl rfl fld_impl_Account_2) rfl (Nat.le_of_ble_eq_true rfl)) rfl rfl rfl (Nat.le_of_ble_eq_true rfl) rfl rfl ?_
    refine SV.opY (OpL.ok (nb := 1) (ok_load_bp (b := 0) (i := 2) (ag := false) (m := 1) (ys := [.sc _]) rfl rfl rfl agg_int sz_int (fun _ => rfl) rfl rfl (Nat.le_of_ble_eq_true rfl)) rfl (Nat.le_of_ble_eq_true rfl)) rfl rfl rfl (Nat.le_of_ble_eq_true rfl) rfl rfl ?_
    refine SV.opY (OpMk.ok (ok_call (ls := [(false, [.sc _])]) rfl rfl ⟨_, _, Try.func34, rfl, by decide⟩ (vin_s' a.fUsed 0 a.fPeak) ⟨⟨[.sc _], rfl, ⟨rfl, trivial⟩⟩, ⟨[.sc _], rfl, ⟨rfl, trivial⟩⟩, ⟨[.sc _], rfl, ⟨rfl, trivial⟩⟩, trivial⟩ rfl (Nat.le_of_ble_eq_true rfl))) rfl rfl rfl (Nat.le_of_ble_eq_true rfl) rfl rfl ?_
    refine SV.op (OpL.ok (nb := 1) (ok_pickT (v := V.one (.sc _)) rfl rfl rfl) rfl (Nat.le_of_ble_eq_true rfl)) rfl ?_
    refine SV.op (OpL.ok (nb := 1) (ok_move (v := V.one (.sc _)) (.inl rfl) rfl) rfl (Nat.le_of_ble_eq_true rfl)) rfl ?_
    refine SV.split (d := 13) rfl (fun hg1 => ?_) (fun hg1 => ?_)
    · skip   -- g1.T
      refine SV.opY (OpL.ok (nb := 1) (ok_field_bp (b := 0) (o' := 0) (off := 2) rfl rfl fld_impl_Account_2) rfl (Nat.le_of_ble_eq_true rfl)) rfl rfl rfl (Nat.le_of_ble_eq_true rfl) rfl rfl ?_
      refine SV.opY (OpL.ok (nb := 1) (ok_load_bp (b := 0) (i := 2) (ag := false) (m := 1) (ys := [.sc _]) rfl rfl rfl agg_int sz_int (fun _ => rfl) rfl rfl (Nat.le_of_ble_eq_true rfl)) rfl (Nat.le_of_ble_eq_true rfl)) rfl rfl rfl (Nat.le_of_ble_eq_true rfl) rfl rfl ?_
      refine SV.opY (OpMk.ok (ok_call (ls := [(false, [.sc _])]) rfl rfl ⟨_, _, Try.func34, rfl, by decide⟩ (vin_s' a.fPeak 0 60) ⟨⟨[.sc _], rfl, ⟨rfl, trivial⟩⟩, ⟨[.sc _], rfl, ⟨rfl, trivial⟩⟩, ⟨[.sc _], rfl, ⟨rfl, trivial⟩⟩, trivial⟩ rfl (Nat.le_of_ble_eq_true rfl))) rfl rfl rfl (Nat.le_of_ble_eq_true rfl) rfl rfl ?_
      refine SV.op (OpL.ok (nb := 1) (ok_pickT (v := V.one (.sc _)) rfl rfl rfl) rfl (Nat.le_of_ble_eq_true rfl)) rfl ?_
      refine SV.op (OpL.ok (nb := 1) (ok_move (v := V.one (.sc _)) (.inl rfl) rfl) rfl (Nat.le_of_ble_eq_true rfl)) rfl ?_
      refine SV.split (d := 18) rfl (fun hg2 => ?_) (fun hg2 => ?_)
      · skip   -- g2.T
        refine SV.opY (OpL.ok (nb := 1) (ok_field_bp (b := 0) (o' := 0) (off := 3) rfl rfl fld_impl_Account_3) rfl (Nat.le_of_ble_eq_true rfl)) rfl rfl rfl (Nat.le_of_ble_eq_true rfl) rfl rfl ?_
        refine SV.opY (OpL.ok (nb := 1) (ok_load_bp (b := 0) (i := 3) (ag := false) (m := 1) (ys := [.sc _]) rfl rfl rfl agg_int sz_int (fun _ => rfl) rfl rfl (Nat.le_of_ble_eq_true rfl)) rfl (Nat.le_of_ble_eq_true rfl)) rfl rfl rfl (Nat.le_of_ble_eq_true rfl) rfl rfl ?_
        refine SV.opY (OpMk.ok (ok_call (ls := [(false, [.sc _])]) rfl rfl ⟨_, _, Try.func34, rfl, by decide⟩ (vin_s' a.fOvercommits 0 1000) ⟨⟨[.sc _], rfl, ⟨rfl, trivial⟩⟩, ⟨[.sc _], rfl, ⟨rfl, trivial⟩⟩, ⟨[.sc _], rfl, ⟨rfl, trivial⟩⟩, trivial⟩ rfl (Nat.le_of_ble_eq_true rfl))) rfl rfl rfl (Nat.le_of_ble_eq_true rfl) rfl rfl ?_
        refine SV.op (OpL.ok (nb := 1) (ok_pickT (v := V.one (.sc _)) rfl rfl rfl) rfl (Nat.le_of_ble_eq_true rfl)) rfl ?_
        refine SV.op (OpL.ok (nb := 1) (ok_move (v := V.one (.sc _)) (.inr rfl) rfl) rfl (Nat.le_of_ble_eq_true rfl)) rfl ?_
        refine SV.nil ?_
        refine SV.tn ?_
        refine SV.ret ?_
        apply SV.done (hf := Try.results15) (ht := rfl) (he := .inl rfl)
        case hr => exact (ResAll.cons (ResOk.tmp (ag := false) (xs := [.sc _]) rfl) ResAll.nil')
        case h2 => simp [two]
        refine ⟨rfl, ⟨?_, trivial⟩, trivial⟩ <;> (show some (T.lit (Value.bool _)) = some (T.lit (Value.bool _)); refine congrArg (fun z => some (T.lit (Value.bool z))) ?_; unfold AccountD.ok; (try unfold AccountD.isGrant at *); rw [Bool.eq_iff_iff]; simp at * <;> omega)
      · skip   -- g2.F
        refine SV.opN rfl rfl rfl (Nat.le_of_ble_eq_true rfl) rfl rfl rfl (Nat.le_of_ble_eq_true rfl) ?_
        refine SV.opN rfl rfl rfl (Nat.le_of_ble_eq_true rfl) rfl rfl rfl (Nat.le_of_ble_eq_true rfl) ?_
        refine SV.opN rfl rfl rfl (Nat.le_of_ble_eq_true rfl) rfl rfl rfl (Nat.le_of_ble_eq_true rfl) ?_
        refine SV.op (OpL.ok (nb := 1) (ok_pickF (v := V.one (.sc _)) rfl rfl rfl) rfl (Nat.le_of_ble_eq_true rfl)) rfl ?_
        refine SV.op (OpL.ok (nb := 1) (ok_move (v := V.one (.sc _)) (.inr rfl) rfl) rfl (Nat.le_of_ble_eq_true rfl)) rfl ?_
        refine SV.nil ?_
        refine SV.tn ?_
        refine SV.ret ?_
        apply SV.done (hf := Try.results15) (ht := rfl) (he := .inl rfl)
        case hr => exact (ResAll.cons (ResOk.tmp (ag := false) (xs := [.sc _]) rfl) ResAll.nil')
        case h2 => simp [two]
        refine ⟨rfl, ⟨?_, trivial⟩, trivial⟩ <;> (show some (T.lit (Value.bool _)) = some (T.lit (Value.bool _)); refine congrArg (fun z => some (T.lit (Value.bool z))) ?_; unfold AccountD.ok; (try unfold AccountD.isGrant at *); rw [Bool.eq_iff_iff]; simp at * <;> omega)
    · skip   -- g1.F
      refine SV.opN rfl rfl rfl (Nat.le_of_ble_eq_true rfl) rfl rfl rfl (Nat.le_of_ble_eq_true rfl) ?_
      refine SV.opN rfl rfl rfl (Nat.le_of_ble_eq_true rfl) rfl rfl rfl (Nat.le_of_ble_eq_true rfl) ?_
      refine SV.opN rfl rfl rfl (Nat.le_of_ble_eq_true rfl) rfl rfl rfl (Nat.le_of_ble_eq_true rfl) ?_
      refine SV.op (OpL.ok (nb := 1) (ok_pickF (v := V.one (.sc _)) rfl rfl rfl) rfl (Nat.le_of_ble_eq_true rfl)) rfl ?_
      refine SV.op (OpL.ok (nb := 1) (ok_move (v := V.one (.sc _)) (.inl rfl) rfl) rfl (Nat.le_of_ble_eq_true rfl)) rfl ?_
      refine SV.split (d := 18) rfl (fun hg3 => ?_) (fun hg3 => ?_)
      · skip   -- g3.T
        refine SV.opY (OpL.ok (nb := 1) (ok_field_bp (b := 0) (o' := 0) (off := 3) rfl rfl fld_impl_Account_3) rfl (Nat.le_of_ble_eq_true rfl)) rfl rfl rfl (Nat.le_of_ble_eq_true rfl) rfl rfl ?_
        refine SV.opY (OpL.ok (nb := 1) (ok_load_bp (b := 0) (i := 3) (ag := false) (m := 1) (ys := [.sc _]) rfl rfl rfl agg_int sz_int (fun _ => rfl) rfl rfl (Nat.le_of_ble_eq_true rfl)) rfl (Nat.le_of_ble_eq_true rfl)) rfl rfl rfl (Nat.le_of_ble_eq_true rfl) rfl rfl ?_
        refine SV.opY (OpMk.ok (ok_call (ls := [(false, [.sc _])]) rfl rfl ⟨_, _, Try.func34, rfl, by decide⟩ (vin_s' a.fOvercommits 0 1000) ⟨⟨[.sc _], rfl, ⟨rfl, trivial⟩⟩, ⟨[.sc _], rfl, ⟨rfl, trivial⟩⟩, ⟨[.sc _], rfl, ⟨rfl, trivial⟩⟩, trivial⟩ rfl (Nat.le_of_ble_eq_true rfl))) rfl rfl rfl (Nat.le_of_ble_eq_true rfl) rfl rfl ?_
        refine SV.op (OpL.ok (nb := 1) (ok_pickT (v := V.one (.sc _)) rfl rfl rfl) rfl (Nat.le_of_ble_eq_true rfl)) rfl ?_
        refine SV.op (OpL.ok (nb := 1) (ok_move (v := V.one (.sc _)) (.inr rfl) rfl) rfl (Nat.le_of_ble_eq_true rfl)) rfl ?_
        refine SV.nil ?_
        refine SV.tn ?_
        refine SV.ret ?_
        apply SV.done (hf := Try.results15) (ht := rfl) (he := .inl rfl)
        case hr => exact (ResAll.cons (ResOk.tmp (ag := false) (xs := [.sc _]) rfl) ResAll.nil')
        case h2 => simp [two]
        refine ⟨rfl, ⟨?_, trivial⟩, trivial⟩ <;> (show some (T.lit (Value.bool _)) = some (T.lit (Value.bool _)); refine congrArg (fun z => some (T.lit (Value.bool z))) ?_; unfold AccountD.ok; (try unfold AccountD.isGrant at *); rw [Bool.eq_iff_iff]; simp at * <;> omega)
      · skip   -- g3.F
        refine SV.opN rfl rfl rfl (Nat.le_of_ble_eq_true rfl) rfl rfl rfl (Nat.le_of_ble_eq_true rfl) ?_
        refine SV.opN rfl rfl rfl (Nat.le_of_ble_eq_true rfl) rfl rfl rfl (Nat.le_of_ble_eq_true rfl) ?_
        refine SV.opN rfl rfl rfl (Nat.le_of_ble_eq_true rfl) rfl rfl rfl (Nat.le_of_ble_eq_true rfl) ?_
        refine SV.op (OpL.ok (nb := 1) (ok_pickF (v := V.one (.sc _)) rfl rfl rfl) rfl (Nat.le_of_ble_eq_true rfl)) rfl ?_
        refine SV.op (OpL.ok (nb := 1) (ok_move (v := V.one (.sc _)) (.inr rfl) rfl) rfl (Nat.le_of_ble_eq_true rfl)) rfl ?_
        refine SV.nil ?_
        refine SV.tn ?_
        refine SV.ret ?_
        apply SV.done (hf := Try.results15) (ht := rfl) (he := .inl rfl)
        case hr => exact (ResAll.cons (ResOk.tmp (ag := false) (xs := [.sc _]) rfl) ResAll.nil')
        case h2 => simp [two]
        refine ⟨rfl, ⟨?_, trivial⟩, trivial⟩ <;> (show some (T.lit (Value.bool _)) = some (T.lit (Value.bool _)); refine congrArg (fun z => some (T.lit (Value.bool z))) ?_; unfold AccountD.ok; (try unfold AccountD.isGrant at *); rw [Bool.eq_iff_iff]; simp at * <;> omega)
  · skip   -- g0.F
    refine SV.opN rfl rfl rfl (Nat.le_of_ble_eq_true rfl) rfl rfl rfl (Nat.le_of_ble_eq_true rfl) ?_
    refine SV.opN rfl rfl rfl (Nat.le_of_ble_eq_true rfl) rfl rfl rfl (Nat.le_of_ble_eq_true rfl) ?_
    refine SV.opN rfl rfl rfl (Nat.le_of_ble_eq_true rfl) rfl rfl rfl (Nat.le_of_ble_eq_true rfl) ?_
    refine SV.opN rfl rfl rfl (Nat.le_of_ble_eq_true rfl) rfl rfl rfl (Nat.le_of_ble_eq_true rfl) ?_
    refine SV.opN rfl rfl rfl (Nat.le_of_ble_eq_true rfl) rfl rfl rfl (Nat.le_of_ble_eq_true rfl) ?_
    refine SV.op (OpL.ok (nb := 1) (ok_pickF (v := V.one (.sc _)) rfl rfl rfl) rfl (Nat.le_of_ble_eq_true rfl)) rfl ?_
    refine SV.op (OpL.ok (nb := 1) (ok_move (v := V.one (.sc _)) (.inl rfl) rfl) rfl (Nat.le_of_ble_eq_true rfl)) rfl ?_
    refine SV.split (d := 13) rfl (fun hg4 => ?_) (fun hg4 => ?_)
    · skip   -- g4.T
      refine SV.opY (OpL.ok (nb := 1) (ok_field_bp (b := 0) (o' := 0) (off := 2) rfl rfl fld_impl_Account_2) rfl (Nat.le_of_ble_eq_true rfl)) rfl rfl rfl (Nat.le_of_ble_eq_true rfl) rfl rfl ?_
      refine SV.opY (OpL.ok (nb := 1) (ok_load_bp (b := 0) (i := 2) (ag := false) (m := 1) (ys := [.sc _]) rfl rfl rfl agg_int sz_int (fun _ => rfl) rfl rfl (Nat.le_of_ble_eq_true rfl)) rfl (Nat.le_of_ble_eq_true rfl)) rfl rfl rfl (Nat.le_of_ble_eq_true rfl) rfl rfl ?_
      refine SV.opY (OpMk.ok (ok_call (ls := [(false, [.sc _])]) rfl rfl ⟨_, _, Try.func34, rfl, by decide⟩ (vin_s' a.fPeak 0 60) ⟨⟨[.sc _], rfl, ⟨rfl, trivial⟩⟩, ⟨[.sc _], rfl, ⟨rfl, trivial⟩⟩, ⟨[.sc _], rfl, ⟨rfl, trivial⟩⟩, trivial⟩ rfl (Nat.le_of_ble_eq_true rfl))) rfl rfl rfl (Nat.le_of_ble_eq_true rfl) rfl rfl ?_
      refine SV.op (OpL.ok (nb := 1) (ok_pickT (v := V.one (.sc _)) rfl rfl rfl) rfl (Nat.le_of_ble_eq_true rfl)) rfl ?_
      refine SV.op (OpL.ok (nb := 1) (ok_move (v := V.one (.sc _)) (.inl rfl) rfl) rfl (Nat.le_of_ble_eq_true rfl)) rfl ?_
      refine SV.split (d := 18) rfl (fun hg5 => ?_) (fun hg5 => ?_)
      · skip   -- g5.T
        refine SV.opY (OpL.ok (nb := 1) (ok_field_bp (b := 0) (o' := 0) (off := 3) rfl rfl fld_impl_Account_3) rfl (Nat.le_of_ble_eq_true rfl)) rfl rfl rfl (Nat.le_of_ble_eq_true rfl) rfl rfl ?_
        refine SV.opY (OpL.ok (nb := 1) (ok_load_bp (b := 0) (i := 3) (ag := false) (m := 1) (ys := [.sc _]) rfl rfl rfl agg_int sz_int (fun _ => rfl) rfl rfl (Nat.le_of_ble_eq_true rfl)) rfl (Nat.le_of_ble_eq_true rfl)) rfl rfl rfl (Nat.le_of_ble_eq_true rfl) rfl rfl ?_
        refine SV.opY (OpMk.ok (ok_call (ls := [(false, [.sc _])]) rfl rfl ⟨_, _, Try.func34, rfl, by decide⟩ (vin_s' a.fOvercommits 0 1000) ⟨⟨[.sc _], rfl, ⟨rfl, trivial⟩⟩, ⟨[.sc _], rfl, ⟨rfl, trivial⟩⟩, ⟨[.sc _], rfl, ⟨rfl, trivial⟩⟩, trivial⟩ rfl (Nat.le_of_ble_eq_true rfl))) rfl rfl rfl (Nat.le_of_ble_eq_true rfl) rfl rfl ?_
        refine SV.op (OpL.ok (nb := 1) (ok_pickT (v := V.one (.sc _)) rfl rfl rfl) rfl (Nat.le_of_ble_eq_true rfl)) rfl ?_
        refine SV.op (OpL.ok (nb := 1) (ok_move (v := V.one (.sc _)) (.inr rfl) rfl) rfl (Nat.le_of_ble_eq_true rfl)) rfl ?_
        refine SV.nil ?_
        refine SV.tn ?_
        refine SV.ret ?_
        apply SV.done (hf := Try.results15) (ht := rfl) (he := .inl rfl)
        case hr => exact (ResAll.cons (ResOk.tmp (ag := false) (xs := [.sc _]) rfl) ResAll.nil')
        case h2 => simp [two]
        refine ⟨rfl, ⟨?_, trivial⟩, trivial⟩ <;> (show some (T.lit (Value.bool _)) = some (T.lit (Value.bool _)); refine congrArg (fun z => some (T.lit (Value.bool z))) ?_; unfold AccountD.ok; (try unfold AccountD.isGrant at *); rw [Bool.eq_iff_iff]; simp at * <;> omega)
      · skip   -- g5.F
        refine SV.opN rfl rfl rfl (Nat.le_of_ble_eq_true rfl) rfl rfl rfl (Nat.le_of_ble_eq_true rfl) ?_
        refine SV.opN rfl rfl rfl (Nat.le_of_ble_eq_true rfl) rfl rfl rfl (Nat.le_of_ble_eq_true rfl) ?_
        refine SV.opN rfl rfl rfl (Nat.le_of_ble_eq_true rfl) rfl rfl rfl (Nat.le_of_ble_eq_true rfl) ?_
        refine SV.op (OpL.ok (nb := 1) (ok_pickF (v := V.one (.sc _)) rfl rfl rfl) rfl (Nat.le_of_ble_eq_true rfl)) rfl ?_
        refine SV.op (OpL.ok (nb := 1) (ok_move (v := V.one (.sc _)) (.inr rfl) rfl) rfl (Nat.le_of_ble_eq_true rfl)) rfl ?_
        refine SV.nil ?_
        refine SV.tn ?_
        refine SV.ret ?_
        apply SV.done (hf := Try.results15) (ht := rfl) (he := .inl rfl)
        case hr => exact (ResAll.cons (ResOk.tmp (ag := false) (xs := [.sc _]) rfl) ResAll.nil')
        case h2 => simp [two]
        refine ⟨rfl, ⟨?_, trivial⟩, trivial⟩ <;> (show some (T.lit (Value.bool _)) = some (T.lit (Value.bool _)); refine congrArg (fun z => some (T.lit (Value.bool z))) ?_; unfold AccountD.ok; (try unfold AccountD.isGrant at *); rw [Bool.eq_iff_iff]; simp at * <;> omega)
    · skip   -- g4.F
      refine SV.opN rfl rfl rfl (Nat.le_of_ble_eq_true rfl) rfl rfl rfl (Nat.le_of_ble_eq_true rfl) ?_
      refine SV.opN rfl rfl rfl (Nat.le_of_ble_eq_true rfl) rfl rfl rfl (Nat.le_of_ble_eq_true rfl) ?_
      refine SV.opN rfl rfl rfl (Nat.le_of_ble_eq_true rfl) rfl rfl rfl (Nat.le_of_ble_eq_true rfl) ?_
      refine SV.op (OpL.ok (nb := 1) (ok_pickF (v := V.one (.sc _)) rfl rfl rfl) rfl (Nat.le_of_ble_eq_true rfl)) rfl ?_
      refine SV.op (OpL.ok (nb := 1) (ok_move (v := V.one (.sc _)) (.inl rfl) rfl) rfl (Nat.le_of_ble_eq_true rfl)) rfl ?_
      refine SV.split (d := 18) rfl (fun hg6 => ?_) (fun hg6 => ?_)
      · skip   -- g6.T
        refine SV.opY (OpL.ok (nb := 1) (ok_field_bp (b := 0) (o' := 0) (off := 3) rfl rfl fld_impl_Account_3) rfl (Nat.le_of_ble_eq_true rfl)) rfl rfl rfl (Nat.le_of_ble_eq_true rfl) rfl rfl ?_
        refine SV.opY (OpL.ok (nb := 1) (ok_load_bp (b := 0) (i := 3) (ag := false) (m := 1) (ys := [.sc _]) rfl rfl rfl agg_int sz_int (fun _ => rfl) rfl rfl (Nat.le_of_ble_eq_true rfl)) rfl (Nat.le_of_ble_eq_true rfl)) rfl rfl rfl (Nat.le_of_ble_eq_true rfl) rfl rfl ?_
        refine SV.opY (OpMk.ok (ok_call (ls := [(false, [.sc _])]) rfl rfl ⟨_, _, Try.func34, rfl, by decide⟩ (vin_s' a.fOvercommits 0 1000) ⟨⟨[.sc _], rfl, ⟨rfl, trivial⟩⟩, ⟨[.sc _], rfl, ⟨rfl, trivial⟩⟩, ⟨[.sc _], rfl, ⟨rfl, trivial⟩⟩, trivial⟩ rfl (Nat.le_of_ble_eq_true rfl))) rfl rfl rfl (Nat.le_of_ble_eq_true rfl) rfl rfl ?_
        refine SV.op (OpL.ok (nb := 1) (ok_pickT (v := V.one (.sc _)) rfl rfl rfl) rfl (Nat.le_of_ble_eq_true rfl)) rfl ?_
        refine SV.op (OpL.ok (nb := 1) (ok_move (v := V.one (.sc _)) (.inr rfl) rfl) rfl (Nat.le_of_ble_eq_true rfl)) rfl ?_
        refine SV.nil ?_
        refine SV.tn ?_
        refine SV.ret ?_
        apply SV.done (hf := Try.results15) (ht := rfl) (he := .inl rfl)
        case hr => exact (ResAll.cons (ResOk.tmp (ag := false) (xs := [.sc _]) rfl) ResAll.nil')
        case h2 => simp [two]
        refine ⟨rfl, ⟨?_, trivial⟩, trivial⟩ <;> (show some (T.lit (Value.bool _)) = some (T.lit (Value.bool _)); refine congrArg (fun z => some (T.lit (Value.bool z))) ?_; unfold AccountD.ok; (try unfold AccountD.isGrant at *); rw [Bool.eq_iff_iff]; simp at * <;> omega)
      · skip   -- g6.F
        refine SV.opN rfl rfl rfl (Nat.le_of_ble_eq_true rfl) rfl rfl rfl (Nat.le_of_ble_eq_true rfl) ?_
        refine SV.opN rfl rfl rfl (Nat.le_of_ble_eq_true rfl) rfl rfl rfl (Nat.le_of_ble_eq_true rfl) ?_
        refine SV.opN rfl rfl rfl (Nat.le_of_ble_eq_true rfl) rfl rfl rfl (Nat.le_of_ble_eq_true rfl) ?_
        refine SV.op (OpL.ok (nb := 1) (ok_pickF (v := V.one (.sc _)) rfl rfl rfl) rfl (Nat.le_of_ble_eq_true rfl)) rfl ?_
        refine SV.op (OpL.ok (nb := 1) (ok_move (v := V.one (.sc _)) (.inr rfl) rfl) rfl (Nat.le_of_ble_eq_true rfl)) rfl ?_
        refine SV.nil ?_
        refine SV.tn ?_
        refine SV.ret ?_
        apply SV.done (hf := Try.results15) (ht := rfl) (he := .inl rfl)
        case hr => exact (ResAll.cons (ResOk.tmp (ag := false) (xs := [.sc _]) rfl) ResAll.nil')
        case h2 => simp [two]
        refine ⟨rfl, ⟨?_, trivial⟩, trivial⟩ <;> (show some (T.lit (Value.bool _)) = some (T.lit (Value.bool _)); refine congrArg (fun z => some (T.lit (Value.bool z))) ?_; unfold AccountD.ok; (try unfold AccountD.isGrant at *); rw [Bool.eq_iff_iff]; simp at * <;> omega)
set_option maxRecDepth 100000 in
set_option maxHeartbeats 2000000 in
theorem vok_i (a : AccountD) : VC Try.prog 14 [(true, tAccount a)] false [(false, [.lit (.bool (AccountD.ok a))])] := by
  refine VC.enter Try.func14 rfl Try.ntmps14 (Nat.le_of_ble_eq_true rfl) fun E hE => ?_
  refine SV.seq' ?_
  refine SV.region ?_
  refine SV.op (OpMk.ok (ok_box (kk := 0) (ag := true) (xs := [.sc _, .sc _, .sc _, .sc _]) rfl rfl rfl (fun h => by cases h) rfl rfl (Nat.le_of_ble_eq_true rfl))) rfl ?_
  refine SV.op (OpL.ok (nb := 1) (ok_move (v := V.one (.sc _)) (.inr rfl) rfl) rfl (Nat.le_of_ble_eq_true rfl)) rfl ?_
  refine SV.nil ?_
  refine SV.tn ?_
  refine SV.seq' ?_
  refine SV.region ?_
  refine SV.op (OpL.ok (nb := 1) (ok_field_bp (b := 0) (o' := 0) (off := 1) rfl rfl fld_impl_Account_1) rfl (Nat.le_of_ble_eq_true rfl)) rfl ?_
  refine SV.op (OpL.ok (nb := 1) (ok_load_bp (b := 0) (i := 1) (ag := false) (m := 1) (ys := [.sc _]) rfl rfl rfl agg_int sz_int (fun _ => rfl) rfl rfl (Nat.le_of_ble_eq_true rfl)) rfl (Nat.le_of_ble_eq_true rfl)) rfl ?_
  refine SV.op (OpMk.ok (ok_call (ls := [(false, [.sc _])]) rfl rfl ⟨_, _, Try.func35, rfl, by decide⟩ (visgrant_i a.fGrant) ⟨⟨[.sc _], rfl, ⟨rfl, trivial⟩⟩, trivial⟩ rfl (Nat.le_of_ble_eq_true rfl))) rfl ?_
  refine SV.op (OpL.ok (nb := 1) (ok_move (v := V.one (.sc _)) (.inl rfl) rfl) rfl (Nat.le_of_ble_eq_true rfl)) rfl ?_
  refine SV.split (d := 6) rfl (fun hg0 => ?_) (fun hg0 => ?_)
  · skip   -- g0.T
    refine SV.opY (OpL.ok (nb := 1) (ok_field_bp (b := 0) (o' := 0) (off := 0) rfl rfl fld_impl_Account_0) rfl (Nat.le_of_ble_eq_true rfl)) rfl rfl rfl (Nat.le_of_ble_eq_true rfl) rfl rfl ?_
    refine SV.opY (OpL.ok (nb := 1) (ok_load_bp (b := 0) (i := 0) (ag := false) (m := 1) (ys := [.sc _]) rfl rfl rfl agg_int sz_int (fun _ => rfl) rfl rfl (Nat.le_of_ble_eq_true rfl)) rfl (Nat.le_of_ble_eq_true rfl)) rfl rfl rfl (Nat.le_of_ble_eq_true rfl) rfl rfl ?_
    refine SV.opY (OpL.ok (nb := 1) (ok_field_bp (b := 0) (o' := 0) (off := 2) rfl rfl fld_impl_Account_2) rfl (Nat.le_of_ble_eq_true rfl)) rfl rfl rfl (Nat.le_of_ble_eq_true rfl) rfl rfl ?_
    refine SV.opY (OpL.ok (nb := 1) (ok_load_bp (b := 0) (i := 2) (ag := false) (m := 1) (ys := [.sc _]) rfl rfl rfl agg_int sz_int (fun _ => rfl) rfl rfl (Nat.le_of_ble_eq_true rfl)) rfl (Nat.le_of_ble_eq_true rfl)) rfl rfl rfl (Nat.le_of_ble_eq_true rfl) rfl rfl ?_
    refine SV.opY (OpMk.ok (ok_call (ls := [(false, [.sc _])]) rfl rfl ⟨_, _, Try.func33, rfl, by decide⟩ (vupto_i a.fUsed a.fPeak) ⟨⟨[.sc _], rfl, ⟨rfl, trivial⟩⟩, ⟨[.sc _], rfl, ⟨rfl, trivial⟩⟩, trivial⟩ rfl (Nat.le_of_ble_eq_true rfl))) rfl rfl rfl (Nat.le_of_ble_eq_true rfl) rfl rfl ?_
    refine SV.op (OpL.ok (nb := 1) (ok_pickT (v := V.one (.sc _)) rfl rfl rfl) rfl (Nat.le_of_ble_eq_true rfl)) rfl ?_
    refine SV.op (OpL.ok (nb := 1) (ok_move (v := V.one (.sc _)) (.inl rfl) rfl) rfl (Nat.le_of_ble_eq_true rfl)) rfl ?_
    refine SV.split (d := 13) rfl (fun hg1 => ?_) (fun hg1 => ?_)
    · skip   -- g1.T
      refine SV.opY (OpL.ok (nb := 1) (ok_field_bp (b := 0) (o' := 0) (off := 2) rfl rfl fld_impl_Account_2) rfl (Nat.le_of_ble_eq_true rfl)) rfl rfl rfl (Nat.le_of_ble_eq_true rfl) rfl rfl ?_
      refine SV.opY (OpL.ok (nb := 1) (ok_load_bp (b := 0) (i := 2) (ag := false) (m := 1) (ys := [.sc _]) rfl rfl rfl agg_int sz_int (fun _ => rfl) rfl rfl (Nat.le_of_ble_eq_true rfl)) rfl (Nat.le_of_ble_eq_true rfl)) rfl rfl rfl (Nat.le_of_ble_eq_true rfl) rfl rfl ?_
      refine SV.opY (OpL.ok (nb := 1) (ok_s2 (x := .tmp 15) (x' := .const ((Value.int IntKind.i64 60))) (VScal.one rfl) (VScal.one rfl) (fun ρ h1 h2 w => by go_simp; (try go_bits); with_reducible rfl) rfl) rfl (Nat.le_of_ble_eq_true rfl)) rfl rfl rfl (Nat.le_of_ble_eq_true rfl) rfl rfl ?_
      refine SV.op (OpL.ok (nb := 1) (ok_pickT (v := V.one (.sc _)) rfl rfl rfl) rfl (Nat.le_of_ble_eq_true rfl)) rfl ?_
      refine SV.op (OpL.ok (nb := 1) (ok_move (v := V.one (.sc _)) (.inl rfl) rfl) rfl (Nat.le_of_ble_eq_true rfl)) rfl ?_
      refine SV.split (d := 18) rfl (fun hg2 => ?_) (fun hg2 => ?_)
      · skip   -- g2.T
        refine SV.opY (OpL.ok (nb := 1) (ok_field_bp (b := 0) (o' := 0) (off := 3) rfl rfl fld_impl_Account_3) rfl (Nat.le_of_ble_eq_true rfl)) rfl rfl rfl (Nat.le_of_ble_eq_true rfl) rfl rfl ?_
        refine SV.opY (OpL.ok (nb := 1) (ok_load_bp (b := 0) (i := 3) (ag := false) (m := 1) (ys := [.sc _]) rfl rfl rfl agg_int sz_int (fun _ => rfl) rfl rfl (Nat.le_of_ble_eq_true rfl)) rfl (Nat.le_of_ble_eq_true rfl)) rfl rfl rfl (Nat.le_of_ble_eq_true rfl) rfl rfl ?_
        refine SV.opY (OpMk.ok (ok_call (ls := [(false, [.sc _])]) rfl rfl ⟨_, _, Try.func33, rfl, by decide⟩ (vupto_i a.fOvercommits 1000) ⟨⟨[.sc _], rfl, ⟨rfl, trivial⟩⟩, ⟨[.sc _], rfl, ⟨rfl, trivial⟩⟩, trivial⟩ rfl (Nat.le_of_ble_eq_true rfl))) rfl rfl rfl (Nat.le_of_ble_eq_true rfl) rfl rfl ?_
        refine SV.op (OpL.ok (nb := 1) (ok_pickT (v := V.one (.sc _)) rfl rfl rfl) rfl (Nat.le_of_ble_eq_true rfl)) rfl ?_
        refine SV.op (OpL.ok (nb := 1) (ok_move (v := V.one (.sc _)) (.inr rfl) rfl) rfl (Nat.le_of_ble_eq_true rfl)) rfl ?_
        refine SV.nil ?_
        refine SV.tn ?_
        refine SV.ret ?_
        apply SV.done (hf := Try.results14) (ht := rfl) (he := .inl rfl)
        case hr => exact (ResAll.cons (ResOk.tmp (ag := false) (xs := [.sc _]) rfl) ResAll.nil')
        case h2 => simp [two]
        refine ⟨rfl, ⟨?_, trivial⟩, trivial⟩ <;> (show some (T.lit (Value.bool _)) = some (T.lit (Value.bool _)); refine congrArg (fun z => some (T.lit (Value.bool z))) ?_; unfold AccountD.ok; (try unfold AccountD.isGrant at *); rw [Bool.eq_iff_iff]; simp at * <;> omega)
      · skip   -- g2.F
        refine SV.opN rfl rfl rfl (Nat.le_of_ble_eq_true rfl) rfl rfl rfl (Nat.le_of_ble_eq_true rfl) ?_
        refine SV.opN rfl rfl rfl (Nat.le_of_ble_eq_true rfl) rfl rfl rfl (Nat.le_of_ble_eq_true rfl) ?_
        refine SV.opN rfl rfl rfl (Nat.le_of_ble_eq_true rfl) rfl rfl rfl (Nat.le_of_ble_eq_true rfl) ?_
        refine SV.op (OpL.ok (nb := 1) (ok_pickF (v := V.one (.sc _)) rfl rfl rfl) rfl (Nat.le_of_ble_eq_true rfl)) rfl ?_
        refine SV.op (OpL.ok (nb := 1) (ok_move (v := V.one (.sc _)) (.inr rfl) rfl) rfl (Nat.le_of_ble_eq_true rfl)) rfl ?_
        refine SV.nil ?_
        refine SV.tn ?_
        refine SV.ret ?_
        apply SV.done (hf := Try.results14) (ht := rfl) (he := .inl rfl)
        case hr => exact (ResAll.cons (ResOk.tmp (ag := false) (xs := [.sc _]) rfl) ResAll.nil')
        case h2 => simp [two]
        refine ⟨rfl, ⟨?_, trivial⟩, trivial⟩ <;> (show some (T.lit (Value.bool _)) = some (T.lit (Value.bool _)); refine congrArg (fun z => some (T.lit (Value.bool z))) ?_; unfold AccountD.ok; (try unfold AccountD.isGrant at *); rw [Bool.eq_iff_iff]; simp at * <;> omega)
    · skip   -- g1.F
      refine SV.opN rfl rfl rfl (Nat.le_of_ble_eq_true rfl) rfl rfl rfl (Nat.le_of_ble_eq_true rfl) ?_
      refine SV.opN rfl rfl rfl (Nat.le_of_ble_eq_true rfl) rfl rfl rfl (Nat.le_of_ble_eq_true rfl) ?_
      refine SV.opN rfl rfl rfl (Nat.le_of_ble_eq_true rfl) rfl rfl rfl (Nat.le_of_ble_eq_true rfl) ?_
      refine SV.op (OpL.ok (nb := 1) (ok_pickF (v := V.one (.sc _)) rfl rfl rfl) rfl (Nat.le_of_ble_eq_true rfl)) rfl ?_
      refine SV.op (OpL.ok (nb := 1) (ok_move (v := V.one (.sc _)) (.inl rfl) rfl) rfl (Nat.le_of_ble_eq_true rfl)) rfl ?_
      refine SV.split (d := 18) rfl (fun hg3 => ?_) (fun hg3 => ?_)
      · skip   -- g3.T
        refine SV.opY (OpL.ok (nb := 1) (ok_field_bp (b := 0) (o' := 0) (off := 3) rfl rfl fld_impl_Account_3) rfl (Nat.le_of_ble_eq_true rfl)) rfl rfl rfl (Nat.le_of_ble_eq_true rfl) rfl rfl ?_
        refine SV.opY (OpL.ok (nb := 1) (ok_load_bp (b := 0) (i := 3) (ag := false) (m := 1) (ys := [.sc _]) rfl rfl rfl agg_int sz_int (fun _ => rfl) rfl rfl (Nat.le_of_ble_eq_true rfl)) rfl (Nat.le_of_ble_eq_true rfl)) rfl rfl rfl (Nat.le_of_ble_eq_true rfl) rfl rfl ?_
        refine SV.opY (OpMk.ok (ok_call (ls := [(false, [.sc _])]) rfl rfl ⟨_, _, Try.func33, rfl, by decide⟩ (vupto_i a.fOvercommits 1000) ⟨⟨[.sc _], rfl, ⟨rfl, trivial⟩⟩, ⟨[.sc _], rfl, ⟨rfl, trivial⟩⟩, trivial⟩ rfl (Nat.le_of_ble_eq_true rfl))) rfl rfl rfl (Nat.le_of_ble_eq_true rfl) rfl rfl ?_
        refine SV.op (OpL.ok (nb := 1) (ok_pickT (v := V.one (.sc _)) rfl rfl rfl) rfl (Nat.le_of_ble_eq_true rfl)) rfl ?_
        refine SV.op (OpL.ok (nb := 1) (ok_move (v := V.one (.sc _)) (.inr rfl) rfl) rfl (Nat.le_of_ble_eq_true rfl)) rfl ?_
        refine SV.nil ?_
        refine SV.tn ?_
        refine SV.ret ?_
        apply SV.done (hf := Try.results14) (ht := rfl) (he := .inl rfl)
        case hr => exact (ResAll.cons (ResOk.tmp (ag := false) (xs := [.sc _]) rfl) ResAll.nil')
        case h2 => simp [two]
        refine ⟨rfl, ⟨?_, trivial⟩, trivial⟩ <;> (show some (T.lit (Value.bool _)) = some (T.lit (Value.bool _)); refine congrArg (fun z => some (T.lit (Value.bool z))) ?_; unfold AccountD.ok; (try unfold AccountD.isGrant at *); rw [Bool.eq_iff_iff]; simp at * <;> omega)
      · skip   -- g3.F
        refine SV.opN rfl rfl rfl (Nat.le_of_ble_eq_true rfl) rfl rfl rfl (Nat.le_of_ble_eq_true rfl) ?_
        refine SV.opN rfl rfl rfl (Nat.le_of_ble_eq_true rfl) rfl rfl rfl (Nat.le_of_ble_eq_true rfl) ?_
        refine SV.opN rfl rfl rfl (Nat.le_of_ble_eq_true rfl) rfl rfl rfl (Nat.le_of_ble_eq_true rfl) ?_
        refine SV.op (OpL.ok (nb := 1) (ok_pickF (v := V.one (.sc _)) rfl rfl rfl) rfl (Nat.le_of_ble_eq_true rfl)) rfl ?_
        refine SV.op (OpL.ok (nb := 1) (ok_move (v := V.one (.sc _)) (.inr rfl) rfl) rfl (Nat.le_of_ble_eq_true rfl)) rfl ?_
        refine SV.nil ?_
        refine SV.tn ?_
        refine SV.ret ?_
        apply SV.done (hf := Try.results14) (ht := rfl) (he := .inl rfl)
        case hr => exact (ResAll.cons (ResOk.tmp (ag := false) (xs := [.sc _]) rfl) ResAll.nil')
        case h2 => simp [two]
        refine ⟨rfl, ⟨?_, trivial⟩, trivial⟩ <;> (show some (T.lit (Value.bool _)) = some (T.lit (Value.bool _)); refine congrArg (fun z => some (T.lit (Value.bool z))) ?_; unfold AccountD.ok; (try unfold AccountD.isGrant at *); rw [Bool.eq_iff_iff]; simp at * <;> omega)
  · skip   -- g0.F
    refine SV.opN rfl rfl rfl (Nat.le_of_ble_eq_true rfl) rfl rfl rfl (Nat.le_of_ble_eq_true rfl) ?_
    refine SV.opN rfl rfl rfl (Nat.le_of_ble_eq_true rfl) rfl rfl rfl (Nat.le_of_ble_eq_true rfl) ?_
    refine SV.opN rfl rfl rfl (Nat.le_of_ble_eq_true rfl) rfl rfl rfl (Nat.le_of_ble_eq_true rfl) ?_
    refine SV.opN rfl rfl rfl (Nat.le_of_ble_eq_true rfl) rfl rfl rfl (Nat.le_of_ble_eq_true rfl) ?_
    refine SV.opN rfl rfl rfl (Nat.le_of_ble_eq_true rfl) rfl rfl rfl (Nat.le_of_ble_eq_true rfl) ?_
    refine SV.op (OpL.ok (nb := 1) (ok_pickF (v := V.one (.sc _)) rfl rfl rfl) rfl (Nat.le_of_ble_eq_true rfl)) rfl ?_
    refine SV.op (OpL.ok (nb := 1) (ok_move (v := V.one (.sc _)) (.inl rfl) rfl) rfl (Nat.le_of_ble_eq_true rfl)) rfl ?_
    refine SV.split (d := 13) rfl (fun hg4 => ?_) (fun hg4 => ?_)
    · skip   -- g4.T
      refine SV.opY (OpL.ok (nb := 1) (ok_field_bp (b := 0) (o' := 0) (off := 2) rfl rfl fld_impl_Account_2) rfl (Nat.le_of_ble_eq_true rfl)) rfl rfl rfl (Nat.le_of_ble_eq_true rfl) rfl rfl ?_
      refine SV.opY (OpL.ok (nb := 1) (ok_load_bp (b := 0) (i := 2) (ag := false) (m := 1) (ys := [.sc _]) rfl rfl rfl agg_int sz_int (fun _ => rfl) rfl rfl (Nat.le_of_ble_eq_true rfl)) rfl (Nat.le_of_ble_eq_true rfl)) rfl rfl rfl (Nat.le_of_ble_eq_true rfl) rfl rfl ?_
      refine SV.opY (OpL.ok (nb := 1) (ok_s2 (x := .tmp 15) (x' := .const ((Value.int IntKind.i64 60))) (VScal.one rfl) (VScal.one rfl) (fun ρ h1 h2 w => by go_simp; (try go_bits); with_reducible rfl) rfl) rfl (Nat.le_of_ble_eq_true rfl)) rfl rfl rfl (Nat.le_of_ble_eq_true rfl) rfl rfl ?_
      refine SV.op (OpL.ok (nb := 1) (ok_pickT (v := V.one (.sc _)) rfl rfl rfl) rfl (Nat.le_of_ble_eq_true rfl)) rfl ?_
      refine SV.op (OpL.ok (nb := 1) (ok_move (v := V.one (.sc _)) (.inl rfl) rfl) rfl (Nat.le_of_ble_eq_true rfl)) rfl ?_
      refine SV.split (d := 18) rfl (fun hg5 => ?_) (fun hg5 => ?_)
      · skip   -- g5.T
        refine SV.opY (OpL.ok (nb := 1) (ok_field_bp (b := 0) (o' := 0) (off := 3) rfl rfl fld_impl_Account_3) rfl (Nat.le_of_ble_eq_true rfl)) rfl rfl rfl (Nat.le_of_ble_eq_true rfl) rfl rfl ?_
        refine SV.opY (OpL.ok (nb := 1) (ok_load_bp (b := 0) (i := 3) (ag := false) (m := 1) (ys := [.sc _]) rfl rfl rfl agg_int sz_int (fun _ => rfl) rfl rfl (Nat.le_of_ble_eq_true rfl)) rfl (Nat.le_of_ble_eq_true rfl)) rfl rfl rfl (Nat.le_of_ble_eq_true rfl) rfl rfl ?_
        refine SV.opY (OpMk.ok (ok_call (ls := [(false, [.sc _])]) rfl rfl ⟨_, _, Try.func33, rfl, by decide⟩ (vupto_i a.fOvercommits 1000) ⟨⟨[.sc _], rfl, ⟨rfl, trivial⟩⟩, ⟨[.sc _], rfl, ⟨rfl, trivial⟩⟩, trivial⟩ rfl (Nat.le_of_ble_eq_true rfl))) rfl rfl rfl (Nat.le_of_ble_eq_true rfl) rfl rfl ?_
        refine SV.op (OpL.ok (nb := 1) (ok_pickT (v := V.one (.sc _)) rfl rfl rfl) rfl (Nat.le_of_ble_eq_true rfl)) rfl ?_
        refine SV.op (OpL.ok (nb := 1) (ok_move (v := V.one (.sc _)) (.inr rfl) rfl) rfl (Nat.le_of_ble_eq_true rfl)) rfl ?_
        refine SV.nil ?_
        refine SV.tn ?_
        refine SV.ret ?_
        apply SV.done (hf := Try.results14) (ht := rfl) (he := .inl rfl)
        case hr => exact (ResAll.cons (ResOk.tmp (ag := false) (xs := [.sc _]) rfl) ResAll.nil')
        case h2 => simp [two]
        refine ⟨rfl, ⟨?_, trivial⟩, trivial⟩ <;> (show some (T.lit (Value.bool _)) = some (T.lit (Value.bool _)); refine congrArg (fun z => some (T.lit (Value.bool z))) ?_; unfold AccountD.ok; (try unfold AccountD.isGrant at *); rw [Bool.eq_iff_iff]; simp at * <;> omega)
      · skip   -- g5.F
        refine SV.opN rfl rfl rfl (Nat.le_of_ble_eq_true rfl) rfl rfl rfl (Nat.le_of_ble_eq_true rfl) ?_
        refine SV.opN rfl rfl rfl (Nat.le_of_ble_eq_true rfl) rfl rfl rfl (Nat.le_of_ble_eq_true rfl) ?_
        refine SV.opN rfl rfl rfl (Nat.le_of_ble_eq_true rfl) rfl rfl rfl (Nat.le_of_ble_eq_true rfl) ?_
        refine SV.op (OpL.ok (nb := 1) (ok_pickF (v := V.one (.sc _)) rfl rfl rfl) rfl (Nat.le_of_ble_eq_true rfl)) rfl ?_
        refine SV.op (OpL.ok (nb := 1) (ok_move (v := V.one (.sc _)) (.inr rfl) rfl) rfl (Nat.le_of_ble_eq_true rfl)) rfl ?_
        refine SV.nil ?_
        refine SV.tn ?_
        refine SV.ret ?_
        apply SV.done (hf := Try.results14) (ht := rfl) (he := .inl rfl)
        case hr => exact (ResAll.cons (ResOk.tmp (ag := false) (xs := [.sc _]) rfl) ResAll.nil')
        case h2 => simp [two]
        refine ⟨rfl, ⟨?_, trivial⟩, trivial⟩ <;> (show some (T.lit (Value.bool _)) = some (T.lit (Value.bool _)); refine congrArg (fun z => some (T.lit (Value.bool z))) ?_; unfold AccountD.ok; (try unfold AccountD.isGrant at *); rw [Bool.eq_iff_iff]; simp at * <;> omega)
    · skip   -- g4.F
      refine SV.opN rfl rfl rfl (Nat.le_of_ble_eq_true rfl) rfl rfl rfl (Nat.le_of_ble_eq_true rfl) ?_
      refine SV.opN rfl rfl rfl (Nat.le_of_ble_eq_true rfl) rfl rfl rfl (Nat.le_of_ble_eq_true rfl) ?_
      refine SV.opN rfl rfl rfl (Nat.le_of_ble_eq_true rfl) rfl rfl rfl (Nat.le_of_ble_eq_true rfl) ?_
      refine SV.op (OpL.ok (nb := 1) (ok_pickF (v := V.one (.sc _)) rfl rfl rfl) rfl (Nat.le_of_ble_eq_true rfl)) rfl ?_
      refine SV.op (OpL.ok (nb := 1) (ok_move (v := V.one (.sc _)) (.inl rfl) rfl) rfl (Nat.le_of_ble_eq_true rfl)) rfl ?_
      refine SV.split (d := 18) rfl (fun hg6 => ?_) (fun hg6 => ?_)
      · skip   -- g6.T
        refine SV.opY (OpL.ok (nb := 1) (ok_field_bp (b := 0) (o' := 0) (off := 3) rfl rfl fld_impl_Account_3) rfl (Nat.le_of_ble_eq_true rfl)) rfl rfl rfl (Nat.le_of_ble_eq_true rfl) rfl rfl ?_
        refine SV.opY (OpL.ok (nb := 1) (ok_load_bp (b := 0) (i := 3) (ag := false) (m := 1) (ys := [.sc _]) rfl rfl rfl agg_int sz_int (fun _ => rfl) rfl rfl (Nat.le_of_ble_eq_true rfl)) rfl (Nat.le_of_ble_eq_true rfl)) rfl rfl rfl (Nat.le_of_ble_eq_true rfl) rfl rfl ?_
        refine SV.opY (OpMk.ok (ok_call (ls := [(false, [.sc _])]) rfl rfl ⟨_, _, Try.func33, rfl, by decide⟩ (vupto_i a.fOvercommits 1000) ⟨⟨[.sc _], rfl, ⟨rfl, trivial⟩⟩, ⟨[.sc _], rfl, ⟨rfl, trivial⟩⟩, trivial⟩ rfl (Nat.le_of_ble_eq_true rfl))) rfl rfl rfl (Nat.le_of_ble_eq_true rfl) rfl rfl ?_
        refine SV.op (OpL.ok (nb := 1) (ok_pickT (v := V.one (.sc _)) rfl rfl rfl) rfl (Nat.le_of_ble_eq_true rfl)) rfl ?_
        refine SV.op (OpL.ok (nb := 1) (ok_move (v := V.one (.sc _)) (.inr rfl) rfl) rfl (Nat.le_of_ble_eq_true rfl)) rfl ?_
        refine SV.nil ?_
        refine SV.tn ?_
        refine SV.ret ?_
        apply SV.done (hf := Try.results14) (ht := rfl) (he := .inl rfl)
        case hr => exact (ResAll.cons (ResOk.tmp (ag := false) (xs := [.sc _]) rfl) ResAll.nil')
        case h2 => simp [two]
        refine ⟨rfl, ⟨?_, trivial⟩, trivial⟩ <;> (show some (T.lit (Value.bool _)) = some (T.lit (Value.bool _)); refine congrArg (fun z => some (T.lit (Value.bool z))) ?_; unfold AccountD.ok; (try unfold AccountD.isGrant at *); rw [Bool.eq_iff_iff]; simp at * <;> omega)
      · skip   -- g6.F
        refine SV.opN rfl rfl rfl (Nat.le_of_ble_eq_true rfl) rfl rfl rfl (Nat.le_of_ble_eq_true rfl) ?_
        refine SV.opN rfl rfl rfl (Nat.le_of_ble_eq_true rfl) rfl rfl rfl (Nat.le_of_ble_eq_true rfl) ?_
        refine SV.opN rfl rfl rfl (Nat.le_of_ble_eq_true rfl) rfl rfl rfl (Nat.le_of_ble_eq_true rfl) ?_
        refine SV.op (OpL.ok (nb := 1) (ok_pickF (v := V.one (.sc _)) rfl rfl rfl) rfl (Nat.le_of_ble_eq_true rfl)) rfl ?_
        refine SV.op (OpL.ok (nb := 1) (ok_move (v := V.one (.sc _)) (.inr rfl) rfl) rfl (Nat.le_of_ble_eq_true rfl)) rfl ?_
        refine SV.nil ?_
        refine SV.tn ?_
        refine SV.ret ?_
        apply SV.done (hf := Try.results14) (ht := rfl) (he := .inl rfl)
        case hr => exact (ResAll.cons (ResOk.tmp (ag := false) (xs := [.sc _]) rfl) ResAll.nil')
        case h2 => simp [two]
        refine ⟨rfl, ⟨?_, trivial⟩, trivial⟩ <;> (show some (T.lit (Value.bool _)) = some (T.lit (Value.bool _)); refine congrArg (fun z => some (T.lit (Value.bool z))) ?_; unfold AccountD.ok; (try unfold AccountD.isGrant at *); rw [Bool.eq_iff_iff]; simp at * <;> omega)
end Go.Proofs.Ytjdjceohlcimaaa
