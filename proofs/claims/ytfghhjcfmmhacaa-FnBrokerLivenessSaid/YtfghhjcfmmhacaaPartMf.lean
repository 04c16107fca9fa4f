/- Texts joined: BriP BriDel BriQ GrO BriGr BriFor VGrantL VOp BrokerX CutAt AtV VLive BriF BriS BriB BriIns BriInsG BriInsV. -/
import Derived.Test.YtfghhjcfmmhacaaPartMe
import Derived.Deep.RegionLaw
import Derived.Deep.CutRange
import Derived.Lib.Overlaps
import Derived.Lib.AppendZerosOnto
import Derived.Deep.AppendLies
set_option linter.unusedSimpArgs false
set_option linter.unusedVariables false
/- The library's slices.SortStableFunc at few numbers, and the program's order of service: told by trees. -/
namespace Go.Proofs.Ytfghhjcfmmhacaa
open Go Go.RowKit V Go.Sort
set_option linter.unusedVariables false
def Sorted (L : List ClientD) (g : Nat) (w : World) (e : Ending) (w' : World) : Prop := e = .returned (.tuple #[]) ∧ w.grownBy w' (some g) ∧ ∃ f', w'.rowIs g 3 L.length f' ∧ ∀ j v, (ordOf L)[j]? = some v → f' j = .int .i64 (v : Nat)
set_option maxRecDepth 100000 in
theorem iinssort' (a : Option Addr) (c nb g : Nat) (L : List ClientD) (f : Nat → Value) (w : World) (hn : L.length ≤ 1000000000) (hs : Seen w g L a c nb) (hrow : w.rowIs g 3 L.length f) (hf : ∀ j, j < L.length → f j = .int .i64 (j : Nat)) :
    Calls Try.prog 96 #[.slice (some ⟨g, 0, none⟩) L.length L.length, .int .i64 0, .int .i64 (L.length : Nat), .func (.func 80) #[] #[.pointer (some ⟨nb, 0, none⟩)]] w (Sorted L g w) := by
  rcases Nat.eq_zero_or_pos L.length with h0 | h0
  · have hL : L = [] := List.eq_nil_of_length_eq_zero h0
    subst hL
    have HR := Lib.hid hrow
    clear hrow hs hf
    go_enter Try.func96, Try.ntmps96
    go_wp2_with fail
    go_loopw [8] (fun i wr => i = .int .i64 1 ∧ wr = w) (fun _ _ => 0)
    case atStart => exact ⟨rfl, rfl⟩
    case round =>
      obtain ⟨rfl, rfl⟩ := hrel
      go_wp2_with fail
      go_end0
      exact ⟨rfl, ⟨rfl, rfl, rfl, Nat.le_refl _, fun _ _ _ => rfl⟩, f, HR.out, fun j v hv => by have := V.get_lt hv; rw [ordOf_length] at this; simp at this⟩
  · exact iinssort a c nb g L f w h0 hn hs hrow hf
set_option maxRecDepth 100000 in
theorem istable (a : Option Addr) (c nb g : Nat) (L : List ClientD) (f : Nat → Value) (w : World) (hn : L.length ≤ 19) (hs : Seen w g L a c nb) (hrow : w.rowIs g 3 L.length f) (hf : ∀ j, j < L.length → f j = .int .i64 (j : Nat)) :
    Calls Try.prog 92 #[.slice (some ⟨g, 0, none⟩) L.length L.length, .int .i64 (L.length : Nat), .func (.func 80) #[] #[.pointer (some ⟨nb, 0, none⟩)]] w (Sorted L g w) := by
  have HI := Lib.hid (iinssort' a c nb g L f w (by omega) hs hrow hf)
  obtain ⟨n, hnl⟩ : ∃ n, n = L.length := ⟨_, rfl⟩
  rw [← hnl] at HI hn ⊢
  have z1 : ¬ (20 : Int) ≤ (n : Int) := by omega
  have z2 : ¬ (20 : Int) < (n : Int) := by omega
  clear hs hrow hf hnl
  go_enter Try.func92, Try.ntmps92
  go_wp2_with fail
  go_loopw [7, 8] (fun x y wr => x = .int .i64 0 ∧ y = .int .i64 20 ∧ wr = w) (fun _ _ _ => 0)
  case atStart => exact ⟨rfl, rfl, rfl⟩
  case round =>
    obtain ⟨rfl, rfl, rfl⟩ := hrel
    go_wp2_with fail
    refine HI.out.mono ?_
    rintro e w1 hS
    obtain ⟨rfl, -⟩ := id hS
    have HS := Lib.hid hS
    clear hS
    go_wp2_with fail
    go_loopw [6] (fun x wr => x = .int .i64 20 ∧ wr = w1) (fun _ _ => 0)
    case atStart => exact ⟨rfl, rfl⟩
    case round =>
      obtain ⟨rfl, rfl⟩ := hrel
      go_wp2_with fail
      go_end0
      exact HS.out
theorem isortst (a : Option Addr) (c nb g : Nat) (L : List ClientD) (f : Nat → Value) (w : World) (hn : L.length ≤ 19) (hs : Seen w g L a c nb) (hrow : w.rowIs g 3 L.length f) (hf : ∀ j, j < L.length → f j = .int .i64 (j : Nat)) :
    Calls Try.prog 79 #[.slice (some ⟨g, 0, none⟩) L.length L.length, .func (.func 80) #[] #[.pointer (some ⟨nb, 0, none⟩)]] w (Sorted L g w) := by
  have HI := Lib.hid (istable a c nb g L f w hn hs hrow hf)
  obtain ⟨n, hnl⟩ : ∃ n, n = L.length := ⟨_, rfl⟩
  rw [← hnl] at HI hn ⊢
  clear hs hrow hf hnl
  go_enter Try.func79, Try.ntmps79
  go_wp2_with fail
  refine HI.out.mono ?_
  rintro e w1 hS
  obtain ⟨rfl, -⟩ := id hS
  have HS := Lib.hid hS
  clear hS
  go_wp2_with fail
  go_end0
  exact HS.out
end Go.Proofs.Ytfghhjcfmmhacaa
/- The library's slices.Delete of one client, by contract: the row is the call's own. -/
namespace Go.Proofs.Ytfghhjcfmmhacaa
open Go Go.RowKit V
set_option linter.unusedVariables false
def zeroC : List Value := [.int .i64 0, .int .i64 0, .int .i64 0]
theorem run_clear_client (w : World) (ty : TypeId) (g o c : Nat) (h : ∀ j, j < 3 → (w.cell? ⟨g, o + j, none⟩).isSome = true) (hf : ∀ j, w.frozen? ⟨g, j, none⟩ = false) :
    (Builtin.clear_ #[24] ty #[.slice (some ⟨g, o, none⟩) 1 c]).run Try.prog w = .ok (.tuple #[]) (w.setCells g o zeroC) := by
  have hz : ∀ w, (zeroValue 35).run Try.prog w = .ok (.agg #[.int .i64 0, .int .i64 0, .int .i64 0]) w := fun w => by kernel_rfl
  have hzc : (Builtin.zeroCells (Value.agg #[.int .i64 0, .int .i64 0, .int .i64 0]).cells 1).toList = [.int .i64 0, .int .i64 0, .int .i64 0] := by kernel_rfl
  have hst := run_storeCells_cells (P := Try.prog) g o [.int .i64 0, .int .i64 0, .int .i64 0] 0 w (fun j hj => by simpa using h j (by simpa using hj)) (fun j hj => hf _) (fun v hv => by
    simp only [List.mem_cons, List.not_mem_nil, or_false] at hv
    rcases hv with rfl | rfl | rfl <;> rfl)
  simp only [Nat.add_zero] at hst
  simp [Builtin.clear_, run_underlying Try.underlying24, hz, hzc, hst]
  rfl
theorem grown_cells {w : World} {g : Nat} : ∀ (vs : List Value) (o : Nat) (w' : World), w.grownBy w' (some g) → w.grownBy (w'.setCells g o vs) (some g)
  | [], _, _, h => h
  | v :: r, o, w', h => grown_cells r (o + 1) _ ⟨h.os, h.tape, h.output, by simpa [World.setCell] using h.size, fun z hz hn => (Below.heap_setCell w' ⟨g, o, none⟩ v z (fun e => hn (by rw [show z = g from e]))).trans (h.block z hz hn)⟩
set_option maxRecDepth 100000 in
set_option maxHeartbeats 2000000 in
theorem idel0 (g cap m k : Nat) (f : Nat → Value) (w : World) (hk : k ≤ m) (hc : m + 1 ≤ cap) (hm : cap ≤ maxLen) (hrow : w.rowIs g 35 (cap * 3) f) (h1 : ∀ j, j < (m + 1) * 3 → (f j).oneCell' = true) :
    Calls Try.prog 66 #[.slice (some ⟨g, 0, none⟩) (m + 1) cap, .int .i64 k, .int .i64 ((k : Int) + 1)] w fun e w' =>
      e = .returned (.slice (some ⟨g, 0, none⟩) m cap) ∧ w.grownBy w' (some g) ∧ ∃ f', w'.rowIs g 35 (cap * 3) f' ∧ ∀ j, j < m * 3 → f' j = if j < k * 3 then f j else f (j + 3) := by
  unfold maxLen at hm
  have HR := Lib.hid hrow
  have H1 := Lib.hid h1
  have b1 : (0 : Int) ≤ (k : Int) := by omega
  have b2 : (k : Int) ≤ ((k : Int) + 1) := by omega
  have b3 : ((k : Int) + 1) ≤ ((m + 1 : Nat) : Int) := by omega
  have b4 : ((m + 1 : Nat) : Int) ≤ (cap : Int) := by omega
  have b5 : (k : Int) ≤ (cap : Int) := by omega
  have b6 : (0 : Int) ≤ (k : Int) + 1 := by omega
  have t1 : ((k : Int) + 1).toNat = k + 1 := by omega
  obtain ⟨I0, hI, hI3⟩ := sz_impl_Client
  obtain ⟨news, hnews⟩ : ∃ news, news = (List.range ((m + 1 - (k + 1)) * 3)).map fun j => f ((k + 1) * 3 + j) := ⟨_, rfl⟩
  have hnl : news.length = (m + 1 - (k + 1)) * 3 := by rw [hnews]; simp
  have hn1 : ∀ u ∈ news, u.oneCell' = true := fun u hu => by
    rw [hnews] at hu
    obtain ⟨j, hj, rfl⟩ := List.mem_map.1 hu
    have := List.mem_range.1 hj
    exact h1 _ (by omega)
  have hnc : ∀ j u, news[j]? = some u → w.cell? ⟨g, (k + 1) * 3 + j, none⟩ = some u := fun j u hj => by
    have hjl := V.get_lt hj
    rw [hnews, List.getElem?_map, List.getElem?_range (by omega)] at hj
    rw [← Option.some.inj hj]
    exact hrow.cell (by omega)
  have hsp : ∀ j, j < news.length → (w.cell? ⟨g, 0 + k * 3 + j, none⟩).isSome = true ∧ w.frozen? ⟨g, 0 + k * 3 + j, none⟩ = false := fun j hj => ⟨by rw [hrow.cell (by omega)]; rfl, hrow.frozen _⟩
  have HN := Lib.hid hnews
  have HL := Lib.hid hnl
  have H2 := Lib.hid hn1
  have HC : Hid (∀ j u, news[j]? = some u → w.cell? ((if cap = k + 1 then (⟨g, 0, none⟩ : Addr) else ⟨g, (k + 1) * 3, none⟩).add j) = some u) := Lib.hid fun j u hj => by
    have hjl := V.get_lt hj
    have hne : ¬ cap = k + 1 := by omega
    rw [if_neg hne, Addr.add_lit]
    exact hnc j u hj
  have H4 := Lib.hid hsp
  clear hrow h1 hnews hnl hn1 hnc hsp
  go_enter Try.func66, Try.ntmps66
  go_wp2_with fail
  go_region_law (refine step_append_room rfl _ _ 24 rfl 35 I0 3 Try.underlying24 hI hI3 g 0 k cap (by simp [Act.eval, Act.put]) (if cap = k + 1 then ⟨g, 0, none⟩ else ⟨g, (k + 1) * 3, none⟩) (m + 1 - (k + 1)) (cap - (k + 1)) news (by simp [Act.eval, Act.put]; split <;> rfl) HL.out HC.out H2.out (by omega) H4.out ?_)
  obtain ⟨W1, hW1⟩ : ∃ W, W = w.drew.setCells g (k * 3) news := ⟨_, rfl⟩
  rw [← hW1]
  have r1 := rowIs_setCells news (k * 3) w.drew f HR.out.drew
  have g1 : w.grownBy W1 (some g) := by rw [hW1]; exact grown_cells news _ _ ⟨rfl, rfl, rfl, Nat.le_refl _, fun _ _ _ => rfl⟩
  rw [← hW1] at r1
  have hcl : ∀ ty c', (Builtin.clear_ #[24] ty #[.slice (some ⟨g, m * 3, none⟩) 1 c']).run Try.prog W1 = .ok (.tuple #[]) (W1.setCells g (m * 3) zeroC) := fun ty c' => run_clear_client W1 ty g (m * 3) c' (fun j hj => by rw [r1.cell (by omega)]; rfl) fun j => r1.frozen j
  have R1 := Lib.hid r1
  have G1 := Lib.hid g1
  have c1 : ¬ cap = m := by omega
  have c2 : (0 : Int) ≤ (m : Int) := by omega
  have c3 : (m : Int) ≤ (m : Int) + 1 := by omega
  have c4 : (m : Int) + 1 ≤ (cap : Int) := by omega
  have c5 : (m : Int) ≤ (cap : Int) := by omega
  clear r1 g1 hW1
  have fin : ∀ j, j < m * 3 → (if m * 3 ≤ j ∧ j < m * 3 + zeroC.length then zeroC.getD (j - m * 3) undef else if k * 3 ≤ j ∧ j < k * 3 + news.length then news.getD (j - k * 3) undef else f j) = if j < k * 3 then f j else f (j + 3) := fun j hj => by
    have hz : ¬ (m * 3 ≤ j ∧ j < m * 3 + zeroC.length) := by omega
    rw [if_neg hz]
    by_cases hjk : j < k * 3
    · rw [if_neg (by omega), if_pos hjk]
    · have hin : k * 3 ≤ j ∧ j < k * 3 + news.length := by have := HL.out; omega
      rw [if_pos hin, if_neg hjk, HN.out, List.getD_eq_getElem?_getD, List.getElem?_map, List.getElem?_range (by omega)]
      show f ((k + 1) * 3 + (j - (k * 3))) = f (j + 3)
      congr 1
      omega
  have FIN := Lib.hid fin
  clear fin
  go_wp2_with (simp only [hcl])
  all_goals try rw [← ‹cap = k + 1›]
  all_goals go_ret
  all_goals refine ⟨rfl, grown_cells _ _ _ G1.out, _, rowIs_setCells zeroC (m * 3) W1 _ R1.out, fun j hj => FIN.out j hj⟩
theorem gives_row {w w' : World} {lv : Nat → Value} {F : Nat → Nat → Prop} {n : Nat} {hF : ∀ i b, i < n → F i b → b < w.heap.size} {g g0 i0 cap : Nat} {f : Nat → Value} {L : List ClientD} (h0 : i0 < n ∧ F i0 g0) (hgr : w.grownBy w' (some g0)) (hg : g = g0 ∨ w.heap.size ≤ g) (hrow : w'.rowIs g 35 (cap * 3) f) (hf : ClF f L) (hc : L.length ≤ cap) (hm : cap ≤ maxLen) :
    V.Gives (Env.lend w lv F n hF) false [(false, [.seq 35 (L.map tClient)])] (.returned (.slice (some ⟨g, 0, none⟩) L.length cap)) w' := by
  refine ⟨[[.slice (some ⟨g, 0, none⟩) L.length cap]], fun c j b => c = 0 ∧ j = 0 ∧ b = g, rfl, rfl, fun c ag ts us hc' hu => ?_, fun c j c' j' b e1 e2 => ?_, fun c j b hb => ?_, ⟨hgr.os, hgr.tape, hgr.output, hgr.size, fun b hb => hgr.block b hb.1 fun e => hb.2 ⟨i0, h0.1, by rw [Option.some.inj e]; exact h0.2⟩⟩⟩
  · cases c with
    | zero =>
      cases hc'; cases hu
      refine ⟨rfl, fun j t u hj hu => ?_⟩
      cases j with
      | zero => cases hj; cases hu; exact row_own ⟨rfl, rfl, rfl⟩ hc hm hrow hf
      | succ j => simp at hj
    | succ c => simp at hc'
  · exact ⟨e1.1.trans e2.1.symm, e1.2.1.trans e2.2.1.symm⟩
  · obtain ⟨-, -, rfl⟩ := hb
    refine ⟨?_, hrow.lt⟩
    rcases hg with rfl | hg
    · exact .inr ⟨i0, h0.1, h0.2⟩
    · exact .inl hg
theorem vx_args1 {E : Env} {ns : List Int} {vs : List Value} (hv : ArgsM E ((false, [AC.ln 0]) :: ns.map fun x => (false, [AC.rd (.lit (.int .i64 x))])) vs) : vs = E.lv 0 :: ns.map fun x => Value.int .i64 x := by
  obtain ⟨hl, ha⟩ := hv
  cases vs with
  | nil => simp at hl
  | cons v us =>
    obtain ⟨ws, e1, e2, e3⟩ := ha 0 false _ v rfl rfl
    match ws, e2 with
    | [x], _ =>
      have hx : x = E.lv 0 := (e3 0 (.ln 0) x rfl rfl).2
      congr 1
      · rw [e1, ← hx]; rfl
      · apply List.ext_getElem?
        intro j
        have hlu : us.length = ns.length := by simpa using hl
        rcases Nat.lt_or_ge j ns.length with hj | hj
        · have hj' : j < us.length := by omega
          obtain ⟨ws, f1, f2, f3⟩ := ha (j + 1) false [.rd (.lit (.int .i64 ns[j]))] us[j] (by simp [hj]) (by simp [hj'])
          match ws, f2 with
          | [y], _ =>
            have f4 : Inn _ _ (.lit (.int .i64 ns[j])) y := f3 0 (.rd (.lit (.int .i64 ns[j]))) y rfl rfl
            rw [List.getElem?_eq_getElem hj', f1, inn_lit f4, List.getElem?_map, List.getElem?_eq_getElem hj]
            rfl
        · rw [List.getElem?_eq_none (by omega), List.getElem?_eq_none (by simpa using hj)]
theorem erase_get {L : List ClientD} {k t : Nat} {c : ClientD} (h : (L.eraseIdx k)[t]? = some c) : L[if t < k then t else t + 1]? = some c := by
  rw [List.getElem?_eraseIdx] at h
  split <;> rename_i hk <;> simp [hk] at h <;> exact h
theorem vdel (L : List ClientD) (k : Nat) (hk : k < L.length) : VX Try.prog 66 [(false, [.ln 0]), (false, [.rd (.lit (.int .i64 (k : Int)))]), (false, [.rd (.lit (.int .i64 ((k : Int) + 1)))])] [.seq 35 (L.map tClient)] false [(false, [.seq 35 ((L.eraseIdx k).map tClient)])] := fun w lv F hF vs h1 h2 hv => by
  have hvs := vx_args1 (ns := [(k : Int), (k : Int) + 1]) hv
  rcases own_row (h1 0 _ rfl).1 with ⟨-, h0⟩ | ⟨g, cap, f, hl, hFg, hc, hm, hrow, hf⟩
  · subst h0; simp at hk
  · obtain ⟨m, hmL⟩ : ∃ m, L.length = m + 1 := ⟨L.length - 1, by omega⟩
    have hcall := idel0 g cap m k f w (by omega) (by omega) hm hrow (fun j hj => hf.one (by omega))
    have he : (L.eraseIdx k).length = m := by rw [List.length_eraseIdx_of_lt hk]; omega
    have hvs2 : vs = [.slice (some ⟨g, 0, none⟩) (m + 1) cap, .int .i64 (k : Int), .int .i64 ((k : Int) + 1)] := by
      rw [hvs]
      show lv 0 :: _ = _
      rw [hl, hmL]; rfl
    rw [hvs2]
    refine hcall.mono fun e w' ⟨h3, h4, f', h5, h6⟩ => ?_
    rw [h3, ← he]
    refine gives_row (i0 := 0) (g0 := g) ⟨Nat.one_pos, hFg⟩ h4 (.inl rfl) h5 (fun t c ht => ?_) (by omega) hm
    have htl := V.get_lt ht
    rw [he] at htl
    have h7 := hf _ c (erase_get ht)
    rw [h6 _ (by omega), h6 _ (by omega), h6 _ (by omega)]
    by_cases hkt : t < k
    · rw [if_pos hkt] at h7
      rw [if_pos (by omega), if_pos (by omega), if_pos (by omega)]
      exact h7
    · rw [if_neg hkt] at h7
      rw [if_neg (by omega), if_neg (by omega), if_neg (by omega)]
      rw [show t * 3 + 3 = (t + 1) * 3 by omega, show t * 3 + 1 + 3 = (t + 1) * 3 + 1 by omega, show t * 3 + 2 + 3 = (t + 1) * 3 + 2 by omega]
      exact h7
end Go.Proofs.Ytfghhjcfmmhacaa
/- The program's order in which clients are served: told by trees. -/
namespace Go.Proofs.Ytfghhjcfmmhacaa
open Go Go.RowKit V Go.Sort
set_option linter.unusedVariables false
theorem seen_of {w wr : World} {a : Option Addr} {c nb g : Nat} {L : List ClientD} (hin : ClIn w a L) (hb : Below w.heap.size w wr) (hbox : wr.heap[nb]? = some (.cells #[.slice a L.length c] 24 (0, 0))) (hg : w.heap.size ≤ g) (hne : nb ≠ g) : Seen wr g L a c nb := fun W ⟨h1, h2⟩ => by
  refine ⟨box_cell ((h2 nb (lt_of_block hbox) hne).trans hbox) 0 _ rfl, fun t x hx => ?_⟩
  obtain ⟨b, o, e1, e2, e3, e4, e5⟩ := hin t x hx
  have e6 : W.heap[b]? = w.heap[b]? := (h2 b (Nat.lt_of_lt_of_le e2 hb.size) (by omega)).trans (hb.block b e2)
  exact ⟨b, o, e1, Nat.lt_of_lt_of_le (Nat.lt_of_lt_of_le e2 hb.size) h1, (World.cell?_of_block e6).trans e3, (World.cell?_of_block e6).trans e4, (World.cell?_of_block e6).trans e5⟩
set_option maxRecDepth 100000 in
set_option maxHeartbeats 1000000 in
theorem iorderfn (a : Option Addr) (c : Nat) (L : List ClientD) (w : World) (hn : L.length ≤ 19) (hin : ClIn w a L) :
    Calls Try.prog 50 #[.slice a L.length c] w fun e w' => ∃ (g : Nat) (f' : Nat → Value), e = .returned (.slice (some ⟨g, 0, none⟩) L.length L.length) ∧ w.heap.size ≤ g ∧ Below w.heap.size w w' ∧ w'.rowIs g 3 L.length f' ∧ ∀ j v, (ordOf L)[j]? = some v → f' j = .int .i64 (v : Nat) := by
  obtain ⟨I0, hI, hz0, hz1, hz2⟩ := info_parts elt_int.inf
  obtain ⟨W0, hW0⟩ : ∃ W, W = w.alloc (.cells #[.slice a L.length c] 24) := ⟨_, rfl⟩
  have b0 : Below w.heap.size w W0 := by rw [hW0]; exact (Below.refl _ _).alloc (Nat.le_refl _) _
  have k0 : W0.heap[w.heap.size]? = some (.cells #[.slice a L.length c] 24 (0, 0)) := by rw [hW0]; exact heap_alloc_new _ _
  obtain ⟨W1, hW1⟩ : ∃ W, W = W0.alloc (.cells (madeCells #[.int .i64 0] (L.length * 1)) 3) := ⟨_, rfl⟩
  obtain ⟨g, hg⟩ : ∃ g, g = W0.heap.size := ⟨_, rfl⟩
  obtain ⟨nb, hnb⟩ : ∃ x, x = w.heap.size := ⟨_, rfl⟩
  have hmk : (Instr.makeSlice 28 (.int .i64 (L.length : Nat)) (.int .i64 (L.length : Nat))).run Try.prog W0 = .ok (.slice (some ⟨g, 0, none⟩) L.length L.length) W1 := by
    have hrun := run_make (P := Try.prog) W0 28 3 I0 _ elt_int.und hI hz0 .i64 .i64 L.length L.length (by omega) (Int.le_refl _) (by rw [hz2]; omega) (by omega)
    simp only [Int.toNat_natCast, hz1] at hrun
    rw [hW1, hg]
    exact hrun
  have b1 : Below w.heap.size w W1 := by rw [hW1]; exact b0.alloc b0.size _
  have k1 : W1.heap[nb]? = some (.cells #[.slice a L.length c] 24 (0, 0)) := by rw [hW1, hnb]; exact (Below.heap_alloc W0 _ _ (lt_of_block k0)).trans k0
  have r1 : W1.rowIs g 3 L.length (fun j => if j < 0 then .int .i64 (j : Nat) else .int .i64 0) := by
    refine ⟨madeCells #[.int .i64 0] (L.length * 1), by rw [hW1, hg]; exact heap_alloc_new _ _, by simp [madeCells], fun j hj => ?_⟩
    show _ = some (if j < 0 then Value.int .i64 (j : Nat) else .int .i64 0)
    rw [if_neg (Nat.not_lt_zero j)]
    have h2 : (madeCells #[.int .i64 0] (L.length * 1))[j]? = some (madeCells #[.int .i64 0] (L.length * 1))[j]! := by
      have : j < (madeCells #[Value.int .i64 0] (L.length * 1)).size := by simp [madeCells]; omega
      rw [getElem!_pos _ j this, Array.getElem?_eq_getElem this]
    have h3 := made_get (z := #[Value.int .i64 0]) (by decide) (show (madeCells #[Value.int .i64 0] (L.length * 1)).toList[j]? = some _ by rw [Array.getElem?_toList]; exact h2)
    rw [h2]
    have h4 : j % 1 = 0 := Nat.mod_one j
    simp [h4] at h3
    rw [Nat.mul_one, ← h3]
  have hne : nb ≠ g := by have := lt_of_block k0; omega
  have hgs : w.heap.size ≤ g := by rw [hg]; exact b0.size
  have SE : Hid (∀ wr, Below w.heap.size w wr → wr.heap[nb]? = some (.cells #[.slice a L.length c] 24 (0, 0)) → Seen wr g L a c nb) := Lib.hid fun wr h1 h2 => seen_of hin h1 h2 hgs hne
  have HN := Lib.hid hn
  have HG := Lib.hid hgs
  have B1 := Lib.hid b1
  have K1 := Lib.hid k1
  have R1 := Lib.hid r1
  obtain ⟨n, hnl⟩ : ∃ n, n = L.length := ⟨_, rfl⟩
  have HL := Lib.hid hnl
  rw [← hnl] at hn hmk hW0 ⊢
  rw [← hnl] at K1 R1
  rw [hW0] at hmk
  clear hin b0 k0 b1 k1 r1 hgs hW1 hg hI hz0 hz1 hz2 hnl hW0
  go_enter Try.func50, Try.ntmps50
  go_wp2_with (simp only [hmk])
  rw [← hnb]
  clear hnb
  go_loopw [10] (fun i wr => ∃ t : Nat, i = .int .i64 t ∧ t ≤ n ∧ Hid (Below w.heap.size w wr) ∧ Hid (wr.heap[nb]? = some (.cells #[.slice a n c] 24 (0, 0))) ∧ Hid (wr.rowIs g 3 n (fun j => if j < t then .int .i64 (j : Nat) else .int .i64 0))) (fun i _ => n - (intOf i).toNat)
  case atStart => exact ⟨0, rfl, Nat.zero_le _, B1, K1, R1⟩
  case round =>
    obtain ⟨t, rfl, ht, hb, hk, hr⟩ := hrel
    by_cases hlt : t < n
    · have c0 : wr.cell? ⟨g, t, none⟩ = some (.int .i64 0) := by
        have h := hr.out.cell hlt
        rw [if_neg (Nat.lt_irrefl t)] at h
        exact h
      have c1 := hr.out.frozen t
      have z1 : (t : Int) < (n : Int) := by omega
      have g1 : wr.grownBy (wr.setCell ⟨g, t, none⟩ (.int .i64 (t : Nat))) (some g) := grown_cells [.int .i64 (t : Nat)] t wr ⟨rfl, rfl, rfl, Nat.le_refl _, fun _ _ _ => rfl⟩
      have B5 := Lib.hid (hb.out.grown g1 hb.out.size fun k hk => by rw [← Option.some.inj hk]; exact HG.out)
      have K5 := Lib.hid ((Below.heap_setCell wr ⟨g, t, none⟩ (.int .i64 (t : Nat)) nb hne).trans hk.out)
      have R5 := Lib.hid ((hr.out.set t (.int .i64 (t : Nat))).congr (g := fun j => if j < t + 1 then .int .i64 (j : Nat) else .int .i64 0) fun j hj => by
        by_cases h1 : j = t
        · subst h1
          rw [if_pos rfl, if_pos (Nat.lt_succ_self j)]
        · rw [if_neg h1]
          by_cases h2 : j < t
          · rw [if_pos h2, if_pos (by omega)]
          · rw [if_neg h2, if_neg (by omega)])
      clear g1
      go_wp2_with fail
      go_roundw
      case rel => exact ⟨t + 1, by go_num, by omega, B5, K5, R5⟩
      case measure => simp [intOf]; omega
    · have hcall := isortst a c nb g L _ wr HN.out (SE.out wr hb.out (by rw [← HL.out]; exact hk.out)) (by rw [← HL.out]; exact hr.out) fun j hj => by
        have hl := HL.out
        exact if_pos (by omega)
      rw [← HL.out] at hcall
      have HC := Lib.hid hcall
      have z1 : ¬ (t : Int) < (n : Int) := by omega
      have k2 : wr.cell? ⟨nb, 0, none⟩ = some (.slice a n c) := box_cell hk.out 0 _ rfl
      clear hcall
      go_wp2_with fail
      refine HC.out.mono ?_
      rintro e w5 ⟨rfl, hgr, f', hr5, hf5⟩
      have B5 := Lib.hid (hb.out.grown hgr hb.out.size fun k hk => by rw [← Option.some.inj hk]; exact HG.out)
      have R5 := Lib.hid hr5
      have F5 := Lib.hid hf5
      clear hgr hr5 hf5 k2
      go_wp2_with fail
      go_ret
      exact ⟨g, f', rfl, HG.out, B5.out, by rw [HL.out]; exact R5.out, F5.out⟩
def ordI (L : List ClientD) : List Int := (ordOf L).map fun i : Nat => (i : Int)
theorem vord_i (L : List ClientD) (hL : L.length ≤ 19) : VC Try.prog 50 [(false, [.seq 35 (L.map tClient)])] false [(false, [.seq 3 ((ordI L).map tInt)])] :=
  VC.clients (ns := []) fun w a c h1 h2 h3 => (iorderfn a c L w hL h3).mono fun e w' ⟨g, f', q1, q2, q3, q4, q5⟩ => by
    obtain ⟨cur, r1, r2, r3⟩ := q4
    have hlen : (ordI L).length = L.length := by unfold ordI; rw [List.length_map, ordOf_length]
    have htl : cur.toList = (ordI L).map fun x => Value.int .i64 x := by
      apply List.ext_getElem?
      intro j
      rw [Array.getElem?_toList]
      rcases Nat.lt_or_ge j L.length with hj | hj
      · have hj' : j < (ordOf L).length := by rw [ordOf_length]; exact hj
        rw [r3 j hj, q5 j (ordOf L)[j] (List.getElem?_eq_getElem hj')]
        unfold ordI
        simp [hj']
      · rw [Array.getElem?_eq_none (by omega), List.getElem?_eq_none (by rw [List.length_map, hlen]; exact hj)]
    have hown : Own w' 0 (.seq 3 ((ordI L).map tInt)) (.slice (some ⟨g, 0, none⟩) L.length L.length) (fun b => b = g) := by
      refine .seq 1 (by decide) sz_int (fun e he => by obtain ⟨x, -, rfl⟩ := List.mem_map.1 he; rfl) ((ordI L).map fun x => Value.int .i64 x) ⟨by simp, .inr ⟨g, L.length, cur, by rw [List.length_map, hlen], Nat.zero_le _, r1, by rw [List.length_map, hlen]; exact Nat.le_refl _, by unfold maxLen; omega, by rw [r2, Nat.mul_one], by rw [List.length_map, hlen, Nat.mul_one, htl]; exact List.take_of_length_le (by rw [List.length_map, hlen]; exact Nat.le_refl _)⟩⟩ (fun _ _ => False) (fun k e j t u e1 e2 e3 => ?_) (fun u hu => by obtain ⟨x, -, rfl⟩ := List.mem_map.1 hu; rfl) (fun b hb => by cases hb; rfl) (fun q b hb => hb.elim) (fun q b hb => hb.elim) fun q q' b hb => hb.elim
      rw [List.getElem?_map] at e1
      obtain ⟨x, hx, rfl⟩ := Option.map_eq_some_iff.1 e1
      have hj : j = 0 := by have := V.get_lt e2; simpa [tInt] using this
      subst hj
      cases e2
      rw [Nat.mul_one, Nat.add_zero, List.getElem?_map, hx] at e3
      rw [← Option.some.inj e3]
      exact .lit rfl
    refine ⟨[[.slice (some ⟨g, 0, none⟩) L.length L.length]], fun c j b => c = 0 ∧ j = 0 ∧ b = g, rfl, q1, fun c ag ts us hc' hu => ?_, fun c j c' j' b e1 e2 => ⟨e1.1.trans e2.1.symm, e1.2.1.trans e2.2.1.symm⟩, fun c j b hb => ?_, .of_below q3⟩
    · cases c with
      | zero =>
        cases hc'; cases hu
        refine ⟨rfl, fun j t u hj hu => ?_⟩
        cases j with
        | zero => cases hj; cases hu; exact hown.mono fun b hb => ⟨rfl, rfl, hb⟩
        | succ j => simp at hj
      | succ c => simp at hc'
    · obtain ⟨-, -, rfl⟩ := hb
      exact ⟨.inl q2, lt_of_block r1⟩
end Go.Proofs.Ytfghhjcfmmhacaa
/- Grants given out in the order of service, as mathematics. -/
namespace Go.Proofs.Ytfghhjcfmmhacaa
open Go Go.RowKit
set_option linter.unusedVariables false
open BrokerD in
theorem sumTo_list (f : Nat → Int) : ∀ n : Nat, sumTo f n = ((List.range n).map f).sum
  | 0 => rfl
  | n + 1 => by
    rw [List.range_succ, List.map_append, List.sum_append, ← sumTo_list f n]
    simp [sumTo]
theorem sum_perm {l m : List Int} (h : l.Perm m) : l.sum = m.sum := by
  induction h with
  | nil => rfl
  | cons x _ ih => rw [List.sum_cons, List.sum_cons, ih]
  | swap x y l => rw [List.sum_cons, List.sum_cons, List.sum_cons, List.sum_cons]; omega
  | trans _ _ h1 h2 => exact h1.trans h2
theorem sum_zero : ∀ {l : List Int}, (∀ x ∈ l, x = 0) → l.sum = 0
  | [], _ => rfl
  | x :: l, h => by rw [List.sum_cons, h x (List.mem_cons_self ..), sum_zero fun y hy => h y (List.mem_cons_of_mem _ hy)]; rfl
def sumN (A : List ClientD) (l : List Nat) : Int := (l.map (BrokerD.need A)).sum
def leftO (A : List ClientD) (R : Int) (s : Nat) : Int := max 0 (R - sumN A ((ordOf A).take s))
def grantsO (A : List ClientD) (R : Int) (s : Nat) : List Int := (List.range A.length).map fun i => if i ∈ (ordOf A).take s then BrokerD.grantAt R A i else 8
theorem ord_nodup (A : List ClientD) : (ordOf A).Nodup := (ordOf_perm A).nodup_iff.2 List.nodup_range
theorem ord_lt {A : List ClientD} {s x : Nat} (h : (ordOf A)[s]? = some x) : x < A.length := List.mem_range.1 ((ordOf_perm A).mem_iff.1 (List.mem_of_getElem? h))
theorem ord_split {A : List ClientD} {s x : Nat} (h : (ordOf A)[s]? = some x) : ordOf A = (ordOf A).take s ++ x :: (ordOf A).drop (s + 1) := by
  have hl := V.get_lt h
  have e : (ordOf A)[s] = x := by rw [List.getElem?_eq_getElem hl] at h; exact Option.some.inj h
  conv => lhs; rw [← List.take_append_drop s (ordOf A), List.drop_eq_getElem_cons hl, e]
theorem ord_take {A : List ClientD} {s x : Nat} (h : (ordOf A)[s]? = some x) : (ordOf A).take (s + 1) = (ordOf A).take s ++ [x] := by
  have hl := V.get_lt h
  have e : (ordOf A)[s] = x := by rw [List.getElem?_eq_getElem hl] at h; exact Option.some.inj h
  rw [List.take_succ_eq_append_getElem hl, e]
theorem ord_fresh {A : List ClientD} {s x : Nat} (h : (ordOf A)[s]? = some x) : x ∉ (ordOf A).take s := fun hm => by
  have hn := ord_nodup A
  rw [ord_split h, List.nodup_append] at hn
  exact hn.2.2 x hm x (List.mem_cons_self ..) rfl
theorem ord_before {A : List ClientD} {s x : Nat} (h : (ordOf A)[s]? = some x) : (∀ j ∈ (ordOf A).take s, BrokerD.prio A x < BrokerD.prio A j ∨ (BrokerD.prio A j = BrokerD.prio A x ∧ j < x)) ∧ ∀ j ∈ (ordOf A).drop (s + 1), ¬ (BrokerD.prio A x < BrokerD.prio A j ∨ (BrokerD.prio A j = BrokerD.prio A x ∧ j < x)) := by
  have ha := Ord.sort_asc (isOrd_cmpOrd A) (List.range A.length)
  have hn := ord_nodup A
  change (ordOf A).Pairwise _ at ha
  rw [ord_split h] at ha hn
  rw [List.pairwise_append] at ha
  rw [List.nodup_append] at hn
  obtain ⟨-, h2, h3⟩ := ha
  have h4 := (List.pairwise_cons.1 h2).1
  refine ⟨fun j hj => ?_, fun j hj => ?_⟩
  · have h5 := Ord.leb_iff.1 (h3 j hj x (List.mem_cons_self ..))
    have hne : j ≠ x := hn.2.2 j hj x (List.mem_cons_self ..)
    unfold cmpOrd at h5
    repeat' split at h5 <;> omega
  · have h5 := Ord.leb_iff.1 (h4 j hj)
    unfold cmpOrd at h5
    repeat' split at h5 <;> omega
theorem upTo_ord {A : List ClientD} {s x : Nat} (h : (ordOf A)[s]? = some x) : BrokerD.upTo A (BrokerD.prio A x) x = sumN A ((ordOf A).take s) := by
  unfold BrokerD.upTo
  rw [sumTo_list, ← sum_perm ((ordOf_perm A).map _), ord_split h, List.map_append, List.sum_append, List.map_cons, List.sum_cons]
  obtain ⟨h1, h2⟩ := ord_before h
  have e1 : ((ordOf A).take s).map (fun j => if BrokerD.prio A x < BrokerD.prio A j ∨ (BrokerD.prio A j = BrokerD.prio A x ∧ j < x) then BrokerD.need A j else 0) = ((ordOf A).take s).map (BrokerD.need A) := List.map_congr_left fun j hj => if_pos (h1 j hj)
  have e2 : (((ordOf A).drop (s + 1)).map (fun j => if BrokerD.prio A x < BrokerD.prio A j ∨ (BrokerD.prio A j = BrokerD.prio A x ∧ j < x) then BrokerD.need A j else 0)).sum = 0 := sum_zero fun y hy => by
    obtain ⟨j, hj, rfl⟩ := List.mem_map.1 hy
    exact if_neg (h2 j hj)
  rw [← ord_split h, e1, e2, if_neg (by omega)]
  unfold sumN
  omega
theorem leftO_zero {A : List ClientD} {R : Int} (hR : 0 ≤ R) : leftO A R 0 = R := by
  unfold leftO sumN
  simp
  omega
theorem leftO_succ {A : List ClientD} {R : Int} {s x : Nat} (h : (ordOf A)[s]? = some x) (hn : 0 ≤ BrokerD.need A x) : leftO A R (s + 1) = leftO A R s - min (BrokerD.need A x) (leftO A R s) := by
  unfold leftO
  rw [ord_take h]
  have e : sumN A ((ordOf A).take s ++ [x]) = sumN A ((ordOf A).take s) + BrokerD.need A x := by unfold sumN; rw [List.map_append, List.sum_append]; simp
  rw [e]
  omega
theorem leftO_range {A : List ClientD} {R : Int} (hR : 0 ≤ R) (hn : ∀ j, 0 ≤ BrokerD.need A j) (s : Nat) : 0 ≤ leftO A R s ∧ leftO A R s ≤ R := by
  have h : ∀ l : List Nat, 0 ≤ sumN A l := fun l => by
    induction l with
    | nil => exact Int.le_refl 0
    | cons x l ih =>
      have := hn x
      unfold sumN at *
      rw [List.map_cons, List.sum_cons]
      omega
  have := h ((ordOf A).take s)
  unfold leftO
  omega
theorem grantsO_length {A : List ClientD} {R : Int} {s : Nat} : (grantsO A R s).length = A.length := by simp [grantsO]
theorem grantsO_zero {A : List ClientD} {R : Int} : grantsO A R 0 = List.replicate A.length 8 := by
  apply List.ext_getElem?
  intro i
  unfold grantsO
  by_cases hi : i < A.length
  · simp [hi, List.getElem?_replicate]
  · simp [hi, List.getElem?_replicate]
theorem grantsO_at {A : List ClientD} {R : Int} {s x : Nat} (h : (ordOf A)[s]? = some x) : (grantsO A R s)[x]? = some 8 := by
  unfold grantsO
  rw [List.getElem?_map, List.getElem?_range (ord_lt h)]
  simp [ord_fresh h]
theorem grantsO_succ {A : List ClientD} {R : Int} {s x : Nat} (h : (ordOf A)[s]? = some x) (hn : 0 ≤ BrokerD.need A x) : grantsO A R (s + 1) = (grantsO A R s).set x (8 + min (BrokerD.need A x) (leftO A R s)) := by
  have hx := ord_lt h
  apply List.ext_getElem?
  intro i
  by_cases hi : i < A.length
  · by_cases hix : x = i
    · subst hix
      rw [List.getElem?_set_self (by rw [grantsO_length]; exact hx)]
      unfold grantsO
      rw [List.getElem?_map, List.getElem?_range hx, ord_take h]
      simp only [Option.map_some, List.mem_append, List.mem_singleton, or_true, if_true]
      congr 1
      unfold BrokerD.grantAt BrokerD.give
      rw [upTo_ord h]
      unfold leftO
      omega
    · rw [List.getElem?_set_ne hix]
      unfold grantsO
      rw [List.getElem?_map, List.getElem?_map, List.getElem?_range hi, ord_take h]
      have : ¬ i = x := fun e => hix e.symm
      simp [this]
  · rw [List.getElem?_eq_none (by rw [grantsO_length]; omega), List.getElem?_eq_none (by rw [List.length_set, grantsO_length]; omega)]
theorem grantsO_end {A : List ClientD} {R : Int} : grantsO A R A.length = BrokerD.grantsOf R A := by
  unfold grantsO BrokerD.grantsOf
  refine List.map_congr_left fun i hi => if_pos ?_
  rw [List.take_of_length_le (by rw [ordOf_length]; exact Nat.le_refl _)]
  exact (ordOf_perm A).mem_iff.2 hi
end Go.Proofs.Ytfghhjcfmmhacaa
/- The program's ComputeGrants: told by trees. -/
namespace Go.Proofs.Ytfghhjcfmmhacaa
open Go Go.RowKit V
set_option linter.unusedVariables false
def fillG (n t : Nat) : List Int := (List.range n).map fun j => if j < t then 8 else 0
theorem fillG_length (n t : Nat) : (fillG n t).length = n := by simp [fillG]
theorem fillG_zero (n : Nat) : List.replicate n [T.lit (Value.int .i64 0)] = (fillG n 0).map tInt := by
  apply List.ext_getElem?
  intro i
  by_cases hi : i < n
  · simp [fillG, hi, List.getElem?_replicate, tInt]
  · simp [fillG, hi, List.getElem?_replicate]
theorem fillG_at {n t : Nat} (h : t < n) : (fillG n t)[t]? = some 0 := by simp [fillG, h]
theorem fillG_succ {n t : Nat} (h : t < n) : (fillG n t).set t 8 = fillG n (t + 1) := by
  apply List.ext_getElem?
  intro i
  by_cases hi : i < n
  · by_cases hit : t = i
    · subst hit
      rw [List.getElem?_set_self (by rw [fillG_length]; exact h)]
      simp [fillG, h]
    · rw [List.getElem?_set_ne hit]
      simp only [fillG, List.getElem?_map, List.getElem?_range hi, Option.map_some]
      congr 1
      by_cases h1 : i < t
      · rw [if_pos h1, if_pos (by omega)]
      · rw [if_neg h1, if_neg (by omega)]
  · rw [List.getElem?_eq_none (by rw [List.length_set, fillG_length]; omega), List.getElem?_eq_none (by rw [fillG_length]; omega)]
theorem fillG_end (n : Nat) : fillG n n = List.replicate n 8 := by
  apply List.ext_getElem?
  intro i
  by_cases hi : i < n
  · simp [fillG, hi, List.getElem?_replicate]
  · simp [fillG, hi, List.getElem?_replicate]
set_option maxRecDepth 100000 in
set_option maxHeartbeats 2000000 in
theorem vgrants_i (b : BrokerD) (hA : b.fActive.length ≤ 1000000000) (hW : b.fWaiting.length ≤ 1000000000) : VC Try.prog 16 [(true, tBroker b)] false [(false, [.seq 3 ((BrokerD.grants b).map tInt)])] := by
  refine VC.enter Try.func16 rfl Try.ntmps16 (gle rfl) fun E hE => ?_
  refine SV.seq' ?_
  refine SV.region ?_
  refine SV.op (OpMk.ok (ok_box (kk := 0) (ag := true) (xs := [.sc _, .sc _, .ro _, .ro _]) rfl rfl rfl (fun h => by cases h) rfl rfl (gle rfl))) rfl ?_
  refine SV.op (OpL.ok (nb := 1) (ok_move (v := V.one (.sc _)) (.inr rfl) rfl) rfl (gle rfl)) rfl ?_
  refine SV.nil ?_
  refine SV.tn ?_
  refine SV.seq' ?_
  refine SV.seq' ?_
  refine SV.region ?_
  refine SV.op (OpL.ok (nb := 1) (ok_load_bp (b := 0) (i := 0) (ag := true) (m := 4) (ys := [.sc _, .sc _, .ro _, .ro _]) rfl rfl rfl agg_impl_Broker sz_impl_Broker (fun h => by cases h) rfl rfl (gle rfl)) rfl (gle rfl)) rfl ?_
  refine SV.op (OpMk.ok (ok_call (ls := [(false, [.sc _])]) rfl rfl ⟨_, _, Try.func19, rfl, by decide⟩ (vokb_i b (by omega) (by omega)) ⟨⟨[.sc _, .sc _, .ro _, .ro _], rfl, ⟨rfl, rfl, rfl, rfl, trivial⟩⟩, trivial⟩ rfl (gle rfl))) rfl ?_
  refine SV.op (OpL.ok (nb := 1) (ok_s1 (x := .tmp 10) (VScal.one rfl) (fun ρ h1 w => by go_simp; (try go_bits); with_reducible rfl) rfl) rfl (gle rfl)) rfl ?_
  refine SV.nil ?_
  refine SV.tn ?_
  refine SV.cond rfl (fun hc0 => ?_) (fun hc0 => ?_)
  · skip   -- c0.T
    have hok : BrokerD.ok b = false := by simpa using hc0
    have ho := BrokerD.grants_bad hok
    refine SV.seq' ?_
    refine SV.region ?_
    refine SV.op (OpL.ok (nb := 1) (ok_move (v := V.one (.sc _)) (.inr rfl) rfl) rfl (gle rfl)) rfl ?_
    refine SV.nil ?_
    refine SV.tn ?_
    refine SV.ret ?_
    refine SV.tr ?_
    refine SV.nlsc (s := 2) (kk := 0) (n := 1) rfl rfl (by decide) sz_int (gle rfl) ?_
    apply SV.done (hf := Try.results16) (ht := rfl) (he := .inr rfl)
    case hr => exact (ResAll.cons (ResOk.tmp (ag := false) (xs := [.hd 0]) rfl) ResAll.nil')
    case h2 => simp [two]
    refine ⟨rfl, ⟨?_, trivial⟩, trivial⟩ <;> first | rfl | (rw [ho]; rfl) | ((show some (T.seq _ _) = some (T.seq _ _); refine congrArg (fun z => some (T.seq _ z)) ?_; rw [ho]; first | done | rfl | (simp [tClient]; done) | (simp [List.map_set, tClient]; done))) | ((show some (T.lit (Value.int .i64 _)) = some (T.lit (Value.int .i64 _)); refine congrArg (fun z => some (T.lit (Value.int .i64 z))) ?_; rw [ho]; first | done | rfl)) | ((show some (T.lit (Value.bool _)) = some (T.lit (Value.bool _)); refine congrArg (fun z => some (T.lit (Value.bool z))) ?_; rw [ho]; first | done | rfl | (simp; done)))
  · skip   -- c0.F
    have hok : BrokerD.ok b = true := by simpa using hc0
    have hO := BrokerD.Ok.of hok
    have hN := (BrokerD.okN_iff b).1 hO.num
    have hroom : BrokerD.room b.fPool ≤ 5 ∧ BrokerD.room b.fPool ≤ b.fPool / 8 := by unfold BrokerD.room; omega
    have hn5 : b.fActive.length ≤ 5 := by omega
    have hr1 : (BrokerD.rest b) ≤ b.fPool - 8 * (b.fActive.length : Int) := Int.le_refl _
    have hr2 : b.fPool - 8 * (b.fActive.length : Int) ≤ (BrokerD.rest b) := Int.le_refl _
    have hr0 : 0 ≤ (BrokerD.rest b) := by omega
    have hnd : ∀ j, 0 ≤ BrokerD.need b.fActive j ∧ BrokerD.need b.fActive j ≤ 52 := fun j => by
      unfold BrokerD.need
      split
      · rename_i c hc
        have := (BrokerD.okC_iff _ c).1 (hO.act.each c (List.mem_of_getElem? hc))
        omega
      · omega
    refine SV.skip ?_
    refine SV.tn ?_
    refine SV.seq' ?_
    refine SV.region ?_
    refine SV.op (OpL.ok (nb := 1) (ok_field_bp (b := 0) (o' := 0) (off := 2) rfl rfl fld_impl_Broker_2) rfl (gle rfl)) rfl ?_
    refine SV.op (OpL.ok (nb := 1) (ok_load_bp (b := 0) (i := 2) (ag := false) (m := 1) (ys := [.ro _]) rfl rfl rfl agg_s_impl_Client sz_s_impl_Client (fun _ => rfl) rfl rfl (gle rfl)) rfl (gle rfl)) rfl ?_
    refine SV.op (OpL.ok (nb := 1) (ok_len (lf := .ro _) rfl elt_impl_Client.und rfl rfl) rfl (gle rfl)) rfl ?_
    refine SV.op (OpMk.ok (ok_make (kk := 0) (zs := [.sc _]) elt_int rfl rfl rfl rfl ⟨rfl, rfl, trivial⟩ rfl (by first | omega | (simp only [List.length_map]; omega) | (simp; done) | (simp; omega)) rfl (gle rfl))) rfl ?_
    refine SV.op (OpL.ok (nb := 1) (ok_move (v := V.one (.hd 0)) (.inr rfl) rfl) rfl (gle rfl)) rfl ?_
    refine SV.nil ?_
    refine SV.tn ?_
    refine SV.seq' ?_
    refine SV.seq' ?_
    refine SV.region ?_
    refine SV.op (OpL.ok (nb := 1) (ok_move (v := V.one (.hd 0)) (.inl rfl) rfl) rfl (gle rfl)) rfl ?_
    refine SV.op (OpL.ok (nb := 1) (ok_len (lf := .hd 0) rfl elt_int.und rfl rfl) rfl (gle rfl)) rfl ?_
    refine SV.op (OpL.ok (nb := 1) (ok_move (v := V.one (.sc _)) (.inl rfl) rfl) rfl (gle rfl)) rfl ?_
    refine SV.nil ?_
    refine SV.tn ?_
    refine SV.block ?_
    refine SV.loopF (X := Nat) (fun (σ : VS) t => (((((((VS.nil.new (.seq 3 ((fillG b.fActive.length t).map tInt))).box 26 [σ.bl 0 0, σ.bl 0 1, σ.bl 0 2, σ.bl 0 3]).put 1 (V.flat false [.bp 0 0])).put 2 (σ.tm 2)).put 3 (V.flat false [.hd 0])).put 17 (σ.tm 17)).put 18 (V.flat false [.sc (.int .i64 ((t : Int)))]))) (fun t => t ≤ b.fActive.length) (fun t => b.fActive.length - t) ?_ ?_
    · skip
      refine SV.again (fun i => [0].getD i 0) 0 ((by first | exact Nat.zero_le _ | (refine ⟨Nat.zero_le _, ?_⟩; simp; done) | (simp; done) | omega)) (pins hE rfl rfl) (VS.le.mk' (le_put (le_put (le_put (le_put (le_put (le_box (le_new le_nil)) (V.le.keep (ag := false) (xs := [.bp 0 0]) (ys := [.bp 0 0]) rfl rfl ⟨⟨rfl, (gle rfl)⟩, trivial⟩)) (V.le.keep (ag := false) (xs := [.sc _]) (ys := [.sc _]) rfl rfl ⟨rfl, trivial⟩)) (V.le.keep (ag := false) (xs := [.hd 0]) (ys := [.hd 0]) rfl rfl ⟨⟨rfl, (gle rfl), (gle rfl)⟩, trivial⟩)) (V.le.keep (ag := false) (xs := [.sc _]) (ys := [.sc _]) rfl rfl ⟨rfl, trivial⟩)) (V.le.keep (ag := false) (xs := [.sc _]) (ys := [.sc _]) rfl rfl ⟨(by first | rfl | (show Leaf.sc _ = Leaf.sc _; refine congrArg Leaf.sc ?_; first | rfl | go_num | (simp [cntAll]; done)) | (simp [cntAll]; done) | (simp; omega)), trivial⟩)) ⟨⟨rfl, ⟨rfl, rfl, rfl, rfl, trivial⟩⟩, trivial⟩ ⟨.inr ⟨_, _, rfl, ?ob1_0, (gle rfl)⟩, trivial⟩ (new_ob nil_ob) (fun i j hi hj e => inj_list (l := [0]) (by decide) i j hi hj e))
      case ob1_0 =>
        show some (T.seq _ _) = some (T.seq _ _)
        (show some (T.seq _ (List.replicate (List.map tClient b.fActive).length [T.lit (Value.int .i64 0)])) = _; first | (rw [List.length_map, fillG_zero]; done) | (rw [List.length_map, fillG_zero]; rfl))
    · rintro t ht
      refine SV.seq' ?_
      refine SV.region ?_
      refine SV.op (OpL.ok (nb := 1) (ok_s2 (x := .tmp 18) (x' := .tmp 17) (VScal.one rfl) (VScal.one rfl) (fun ρ h1 h2 w => by go_simp; (try go_bits); with_reducible rfl) rfl) rfl (gle rfl)) rfl ?_
      refine SV.nil ?_
      refine SV.tn ?_
      refine SV.seq' ?_
      refine SV.cond rfl (fun hc1 => ?_) (fun hc1 => ?_)
      · skip   -- c1.T
        have htl : t < b.fActive.length := by simp [fillG_length] at hc1; omega
        have hx := fillG_at htl
        have hf1 : ((fillG b.fActive.length t).map tInt).set t [T.lit (Value.int .i64 8)] = (fillG b.fActive.length (t + 1)).map tInt := by rw [← fillG_succ htl, List.map_set]; rfl
        refine SV.skip ?_
        refine SV.tn ?_
        refine SV.seq' ?_
        refine SV.block ?_
        refine SV.seq' ?_
        refine SV.region ?_
        refine SV.op (OpL.ok (nb := 1) (ok_move (v := V.one (.sc _)) (.inl rfl) rfl) rfl (gle rfl)) rfl ?_
        refine SV.op (OpL.ok (nb := 1) (ok_move (v := V.one (.sc _)) (.inr rfl) rfl) rfl (gle rfl)) rfl ?_
        refine SV.nil ?_
        refine SV.tn ?_
        refine SV.region ?_
        refine SV.op (OpL.ok (nb := 1) (ok_move (v := V.one (.hd 0)) (.inl rfl) rfl) rfl (gle rfl)) rfl ?_
        refine SV.op (OpL.ok (nb := 1) (ok_move (v := V.one (.sc _)) (.inl rfl) rfl) rfl (gle rfl)) rfl ?_
        refine SV.op (OpL.ok (nb := 1) (ok_index (n := 1) (lf := .hd 0) rfl elt_int.und sz_int rfl rfl rfl (map_at hx)) rfl (gle rfl)) rfl ?_
        refine SV.op (ok_store_ep (i := 0) (n := 1) (m := 1) (ag := false) (zs := [.sc _]) rfl rfl rfl rfl (map_at hx) sz_int (fun _ => rfl) rfl sz_int (gle rfl) (outs_c rfl outs_n) (by simp [two]) rfl rfl rfl) rfl ?_
        refine SV.nil ?_
        refine SV.bn ?_
        refine SV.tn ?_
        refine SV.region ?_
        refine SV.op (OpL.ok (nb := 1) (ok_s2 (x := .tmp 18) (x' := .const ((Value.int IntKind.i64 1))) (VScal.one rfl) (VScal.one rfl) (fun ρ h1 h2 w => by go_simp; (try go_bits); with_reducible rfl) rfl) rfl (gle rfl)) rfl ?_
        refine SV.op (OpL.ok (nb := 1) (ok_move (v := V.one (.sc _)) (.inl rfl) rfl) rfl (gle rfl)) rfl ?_
        refine SV.nil ?_
        refine SV.tn ?_
        refine SV.again (fun i => [0].getD i 0) (t + 1) (⟨by omega, by omega⟩) (pins hE rfl rfl) (VS.le.mk' (le_put (le_put (le_put (le_put (le_put (le_box (le_new le_nil)) (V.le.keep (ag := false) (xs := [.bp 0 0]) (ys := [.bp 0 0]) rfl rfl ⟨⟨rfl, (gle rfl)⟩, trivial⟩)) (V.le.keep (ag := false) (xs := [.sc _]) (ys := [.sc _]) rfl rfl ⟨rfl, trivial⟩)) (V.le.keep (ag := false) (xs := [.hd 0]) (ys := [.hd 0]) rfl rfl ⟨⟨rfl, (gle rfl), (gle rfl)⟩, trivial⟩)) (V.le.keep (ag := false) (xs := [.sc _]) (ys := [.sc _]) rfl rfl ⟨rfl, trivial⟩)) (V.le.keep (ag := false) (xs := [.sc _]) (ys := [.sc _]) rfl rfl ⟨(by first | rfl | (show Leaf.sc _ = Leaf.sc _; refine congrArg Leaf.sc ?_; first | rfl | go_num | (simp [cntAll]; done)) | (simp [cntAll]; done) | (simp; omega)), trivial⟩)) ⟨⟨rfl, ⟨rfl, rfl, rfl, rfl, trivial⟩⟩, trivial⟩ ⟨.inr ⟨_, _, rfl, ?ob2_0, (gle rfl)⟩, trivial⟩ (new_ob nil_ob) (fun i j hi hj e => inj_list (l := [0]) (by decide) i j hi hj e))
        case ob2_0 =>
          show some (T.seq _ _) = some (T.seq _ _)
          first | exact congrArg (fun z => some (T.seq _ z)) hf1 | (rw [← hf1]; rfl)
      · skip   -- c1.F
        have hte : t = b.fActive.length := by simp [fillG_length] at hc1; omega
        have hst : (fillG b.fActive.length t).map tInt = (grantsO b.fActive (BrokerD.rest b) 0).map tInt := by rw [hte, fillG_end, grantsO_zero]
        refine SV.exit ?_
        refine SV.te ?_
        refine SV.te ?_
        refine SV.bh ?_
        refine SV.tn ?_
        refine SV.seq' ?_
        refine SV.region ?_
        refine SV.op (OpL.ok (nb := 1) (ok_field_bp (b := 0) (o' := 0) (off := 0) rfl rfl fld_impl_Broker_0) rfl (gle rfl)) rfl ?_
        refine SV.op (OpL.ok (nb := 1) (ok_load_bp (b := 0) (i := 0) (ag := false) (m := 1) (ys := [.sc _]) rfl rfl rfl agg_int sz_int (fun _ => rfl) rfl rfl (gle rfl)) rfl (gle rfl)) rfl ?_
        refine SV.op (OpL.ok (nb := 1) (ok_move (v := V.one (.hd 0)) (.inl rfl) rfl) rfl (gle rfl)) rfl ?_
        refine SV.op (OpL.ok (nb := 1) (ok_len (lf := .hd 0) rfl elt_int.und rfl rfl) rfl (gle rfl)) rfl ?_
        refine SV.op (OpL.ok (nb := 1) (ok_s2 (v := .int .i64 (8 * (b.fActive.length : Int))) (x := .const ((Value.int IntKind.i64 8))) (x' := .tmp 28) (VScal.one rfl) (VScal.one rfl) (fun ρ h1 h2 w => by go_simp; simp only [List.length_map, fillG_length] at *; rw [IntWalk.i64_left, IntWalk.wrap64_in _ ⟨by omega, by omega⟩]) rfl) rfl (gle rfl)) rfl ?_
        refine SV.op (OpL.ok (nb := 1) (ok_s2 (v := .int .i64 (BrokerD.rest b)) (x := .tmp 26) (x' := .tmp 29) (VScal.one rfl) (VScal.one rfl) (fun ρ h1 h2 w => by go_simp; rw [IntWalk.i64_left, IntWalk.wrap64_in _ ⟨by omega, by omega⟩] <;> first | rfl | omega | (congr 1; omega)) rfl) rfl (gle rfl)) rfl ?_
        refine SV.op (OpL.ok (nb := 1) (ok_move (v := V.one (.sc _)) (.inr rfl) rfl) rfl (gle rfl)) rfl ?_
        refine SV.nil ?_
        refine SV.tn ?_
        refine SV.seq' ?_
        refine SV.seq' ?_
        refine SV.region ?_
        refine SV.op (OpL.ok (nb := 1) (ok_field_bp (b := 0) (o' := 0) (off := 2) rfl rfl fld_impl_Broker_2) rfl (gle rfl)) rfl ?_
        refine SV.op (OpL.ok (nb := 1) (ok_load_bp (b := 0) (i := 2) (ag := false) (m := 1) (ys := [.ro _]) rfl rfl rfl agg_s_impl_Client sz_s_impl_Client (fun _ => rfl) rfl rfl (gle rfl)) rfl (gle rfl)) rfl ?_
        refine SV.op (OpMk.ok (ok_call (ls := [(false, [.hd 1])]) rfl rfl ⟨_, _, Try.func50, rfl, by decide⟩ (vord_i b.fActive (by omega)) ⟨⟨[.ro _], rfl, ⟨rfl, trivial⟩⟩, trivial⟩ rfl (gle rfl))) rfl ?_
        refine SV.op (OpL.ok (nb := 1) (ok_len (lf := .hd 1) rfl elt_int.und rfl rfl) rfl (gle rfl)) rfl ?_
        refine SV.op (OpL.ok (nb := 1) (ok_move (v := V.one (.sc _)) (.inl rfl) rfl) rfl (gle rfl)) rfl ?_
        refine SV.nil ?_
        refine SV.tn ?_
        refine SV.block ?_
        refine SV.loopF (X := Nat) (fun (σ : VS) s => ((((((((((VS.nil.new (.seq 3 ((grantsO b.fActive (BrokerD.rest b) s).map tInt))).new (σ.tree 1)).box 26 [σ.bl 0 0, σ.bl 0 1, σ.bl 0 2, σ.bl 0 3]).put 1 (V.flat false [.bp 0 0])).put 2 (σ.tm 2)).put 3 (V.flat false [.hd 0])).put 5 (V.flat false [.sc (.int .i64 (leftO b.fActive (BrokerD.rest b) s))])).put 33 (V.flat false [.hd 1])).put 34 (σ.tm 34)).put 35 (V.flat false [.sc (.int .i64 ((s : Int)))]))) (fun s => s ≤ b.fActive.length) (fun s => b.fActive.length - s) ?_ ?_
        · skip
          refine SV.again (fun i => [0, 1].getD i 0) 0 ((by omega)) (pins hE rfl rfl) (VS.le.mk' (le_put (le_put (le_put (le_put (le_put (le_put (le_put (le_box (le_new (le_new le_nil))) (V.le.keep (ag := false) (xs := [.bp 0 0]) (ys := [.bp 0 0]) rfl rfl ⟨⟨rfl, (gle rfl)⟩, trivial⟩)) (V.le.keep (ag := false) (xs := [.sc _]) (ys := [.sc _]) rfl rfl ⟨rfl, trivial⟩)) (V.le.keep (ag := false) (xs := [.hd 0]) (ys := [.hd 0]) rfl rfl ⟨⟨rfl, (gle rfl), (gle rfl)⟩, trivial⟩)) (V.le.keep (ag := false) (xs := [.sc _]) (ys := [.sc _]) rfl rfl ⟨(by first | rfl | (show Leaf.sc _ = Leaf.sc _; refine congrArg Leaf.sc ?_; first | rfl | go_num | (first | (rw [leftO_succ hx (hnd x).1, hnx]; done) | (rw [leftO_succ hx (hnd x).1, hnx]; rfl) | (rw [leftO_zero hr0]; done) | (rw [leftO_zero hr0]; rfl); first | done | rfl | go_num | (simp; done) | (simp; omega)) | (simp [cntAll]; done)) | (simp [cntAll]; done) | (simp; omega)), trivial⟩)) (V.le.keep (ag := false) (xs := [.hd 1]) (ys := [.hd 1]) rfl rfl ⟨⟨rfl, (gle rfl), (gle rfl)⟩, trivial⟩)) (V.le.keep (ag := false) (xs := [.sc _]) (ys := [.sc _]) rfl rfl ⟨rfl, trivial⟩)) (V.le.keep (ag := false) (xs := [.sc _]) (ys := [.sc _]) rfl rfl ⟨(by first | rfl | (show Leaf.sc _ = Leaf.sc _; refine congrArg Leaf.sc ?_; first | rfl | go_num | (first | (rw [leftO_succ hx (hnd x).1, hnx]; done) | (rw [leftO_succ hx (hnd x).1, hnx]; rfl) | (rw [leftO_zero hr0]; done) | (rw [leftO_zero hr0]; rfl); first | done | rfl | go_num | (simp; done) | (simp; omega)) | (simp [cntAll]; done)) | (simp [cntAll]; done) | (simp; omega)), trivial⟩)) ⟨⟨rfl, ⟨rfl, rfl, rfl, rfl, trivial⟩⟩, trivial⟩ ⟨.inr ⟨_, _, rfl, rfl, (gle rfl)⟩, ⟨.inr ⟨_, _, rfl, ?ob3_0, (gle rfl)⟩, trivial⟩⟩ (new_ob (new_ob nil_ob)) (fun i j hi hj e => inj_list (l := [0, 1]) (by decide) i j hi hj e))
          case ob3_0 =>
            show some (T.seq _ _) = some (T.seq _ _)
            exact congrArg (fun z => some (T.seq _ z)) hst
        · rintro s hs
          refine SV.seq' ?_
          refine SV.region ?_
          refine SV.op (OpL.ok (nb := 1) (ok_s2 (x := .tmp 35) (x' := .tmp 34) (VScal.one rfl) (VScal.one rfl) (fun ρ h1 h2 w => by go_simp; (try go_bits); with_reducible rfl) rfl) rfl (gle rfl)) rfl ?_
          refine SV.nil ?_
          refine SV.tn ?_
          refine SV.seq' ?_
          refine SV.cond rfl (fun hc2 => ?_) (fun hc2 => ?_)
          · skip   -- c2.T
            have hsl : s < (ordOf b.fActive).length := by rw [ordOf_length]; simp [ordI, ordOf_length] at hc2; omega
            have hsA : s < b.fActive.length := by rw [ordOf_length] at hsl; exact hsl
            obtain ⟨x, hx⟩ : ∃ x, (ordOf b.fActive)[s]? = some x := ⟨_, List.getElem?_eq_getElem hsl⟩
            have hxI : (ordI b.fActive)[s]? = some ((x : Nat) : Int) := by unfold ordI; rw [List.getElem?_map, hx]; rfl
            have hxl := ord_lt hx
            obtain ⟨c, hc⟩ : ∃ c, b.fActive[x]? = some c := ⟨_, List.getElem?_eq_getElem hxl⟩
            have hnx : BrokerD.need b.fActive x = c.fRequested - 8 := (BrokerD.need_at hc).1
            have hnr := hnd x
            rw [hnx] at hnr
            have hlr := leftO_range (A := b.fActive) hr0 (fun j => (hnd j).1) s
            have hg8 := grantsO_at (R := (BrokerD.rest b)) hx
            have hg0 := grantsO_succ (R := (BrokerD.rest b)) hx (hnd x).1
            rw [hnx] at hg0
            have hg1 : ((grantsO b.fActive (BrokerD.rest b) s).map tInt).set x [T.lit (Value.int .i64 (8 + min (c.fRequested - 8) (leftO b.fActive (BrokerD.rest b) s)))] = (grantsO b.fActive (BrokerD.rest b) (s + 1)).map tInt := by rw [hg0, List.map_set]; rfl
            have hRle : (BrokerD.rest b) ≤ 120 := by omega
            refine SV.skip ?_
            refine SV.tn ?_
            refine SV.seq' ?_
            refine SV.block ?_
            refine SV.seq' ?_
            refine SV.region ?_
            refine SV.op (OpL.ok (nb := 1) (ok_index (n := 1) (lf := .hd 1) rfl elt_int.und sz_int rfl rfl rfl (map_at hxI)) rfl (gle rfl)) rfl ?_
            refine SV.op (ok_load_el (p := .ep 1 _ _ _) (ag := false) (m := 1) (ys := [.sc _]) rfl rfl (cells_ep rfl (map_at hxI) rfl rfl) agg_int sz_int (fun _ => rfl) (gle rfl) rfl rfl (gle rfl)) rfl ?_
            refine SV.op (OpL.ok (nb := 1) (ok_move (v := V.one (.sc _)) (.inr rfl) rfl) rfl (gle rfl)) rfl ?_
            refine SV.nil ?_
            refine SV.tn ?_
            refine SV.seq' ?_
            refine SV.region ?_
            refine SV.op (OpL.ok (nb := 1) (ok_field_bp (b := 0) (o' := 0) (off := 2) rfl rfl fld_impl_Broker_2) rfl (gle rfl)) rfl ?_
            refine SV.op (OpL.ok (nb := 1) (ok_load_bp (b := 0) (i := 2) (ag := false) (m := 1) (ys := [.ro _]) rfl rfl rfl agg_s_impl_Client sz_s_impl_Client (fun _ => rfl) rfl rfl (gle rfl)) rfl (gle rfl)) rfl ?_
            refine SV.op (OpL.ok (nb := 1) (ok_move (v := V.one (.sc _)) (.inl rfl) rfl) rfl (gle rfl)) rfl ?_
            refine SV.op (OpL.ok (nb := 1) (ok_index (n := 3) (lf := .ro _) rfl elt_impl_Client.und sz_impl_Client rfl rfl rfl (map_at hc)) rfl (gle rfl)) rfl ?_
            refine SV.op (OpL.ok (nb := 1) (ok_field_el (p := .rp _) (off := 1) rfl rfl rfl fld_impl_Client_1) rfl (gle rfl)) rfl ?_
            refine SV.op (OpL.ok (nb := 1) (ok_load_rp (ag := false) (m := 1) (ys := [.sc _]) rfl rfl agg_int sz_int (fun _ => rfl) (gle rfl) rfl) rfl (gle rfl)) rfl ?_
            refine SV.op (OpL.ok (nb := 1) (ok_s2 (v := .int .i64 (c.fRequested - 8)) (x := .tmp 44) (x' := .const ((Value.int IntKind.i64 8))) (VScal.one rfl) (VScal.one rfl) (fun ρ h1 h2 w => by go_simp; rw [IntWalk.i64_left, IntWalk.wrap64_in _ ⟨by omega, by omega⟩]) rfl) rfl (gle rfl)) rfl ?_
            refine SV.op (OpL.ok (nb := 1) (ok_move (v := V.one (.sc _)) (.inl rfl) rfl) rfl (gle rfl)) rfl ?_
            refine SV.op (OpL.ok (nb := 1) (ok_s2 (v := .int .i64 (min (c.fRequested - 8) (leftO b.fActive (BrokerD.rest b) s))) (x := .tmp 45) (x' := .tmp 46) (VScal.one rfl) (VScal.one rfl) (fun ρ h1 h2 w => by first | (go_simp; done) | (go_simp; rfl) | (go_simp; rw [Int.min_def]; split <;> split <;> first | rfl | omega | (congr 1; omega))) rfl) rfl (gle rfl)) rfl ?_
            refine SV.op (OpL.ok (nb := 1) (ok_move (v := V.one (.sc _)) (.inr rfl) rfl) rfl (gle rfl)) rfl ?_
            refine SV.nil ?_
            refine SV.tn ?_
            refine SV.seq' ?_
            refine SV.region ?_
            refine SV.op (OpL.ok (nb := 1) (ok_move (v := V.one (.hd 0)) (.inl rfl) rfl) rfl (gle rfl)) rfl ?_
            refine SV.op (OpL.ok (nb := 1) (ok_move (v := V.one (.sc _)) (.inl rfl) rfl) rfl (gle rfl)) rfl ?_
            refine SV.op (OpL.ok (nb := 1) (ok_index (n := 1) (lf := .hd 0) rfl elt_int.und sz_int rfl rfl rfl (map_at hg8)) rfl (gle rfl)) rfl ?_
            refine SV.op (ok_load_el (p := .ep 0 _ _ _) (ag := false) (m := 1) (ys := [.sc _]) rfl rfl (cells_ep rfl (map_at hg8) rfl rfl) agg_int sz_int (fun _ => rfl) (gle rfl) rfl rfl (gle rfl)) rfl ?_
            refine SV.op (OpL.ok (nb := 1) (ok_move (v := V.one (.sc _)) (.inl rfl) rfl) rfl (gle rfl)) rfl ?_
            refine SV.op (OpL.ok (nb := 1) (ok_s2 (v := .int .i64 (8 + min (c.fRequested - 8) (leftO b.fActive (BrokerD.rest b) s))) (x := .tmp 51) (x' := .tmp 52) (VScal.one rfl) (VScal.one rfl) (fun ρ h1 h2 w => by go_simp; rw [IntWalk.i64_left, IntWalk.wrap64_in _ ⟨by omega, by omega⟩]) rfl) rfl (gle rfl)) rfl ?_
            refine SV.op (OpL.ok (nb := 1) (ok_index (n := 1) (lf := .hd 0) rfl elt_int.und sz_int rfl rfl rfl (map_at hg8)) rfl (gle rfl)) rfl ?_
            refine SV.op (ok_store_ep (i := 0) (n := 1) (m := 1) (ag := false) (zs := [.sc _]) rfl rfl rfl rfl (map_at hg8) sz_int (fun _ => rfl) rfl sz_int (gle rfl) (outs_c rfl outs_n) (by simp [two]) rfl rfl rfl) rfl ?_
            refine SV.nil ?_
            refine SV.tn ?_
            refine SV.region ?_
            refine SV.op (OpL.ok (nb := 1) (ok_move (v := V.one (.sc _)) (.inl rfl) rfl) rfl (gle rfl)) rfl ?_
            refine SV.op (OpL.ok (nb := 1) (ok_move (v := V.one (.sc _)) (.inl rfl) rfl) rfl (gle rfl)) rfl ?_
            refine SV.op (OpL.ok (nb := 1) (ok_s2 (v := .int .i64 (leftO b.fActive (BrokerD.rest b) s - min (c.fRequested - 8) (leftO b.fActive (BrokerD.rest b) s))) (x := .tmp 55) (x' := .tmp 56) (VScal.one rfl) (VScal.one rfl) (fun ρ h1 h2 w => by go_simp; rw [IntWalk.i64_left, IntWalk.wrap64_in _ ⟨by omega, by omega⟩]) rfl) rfl (gle rfl)) rfl ?_
            refine SV.op (OpL.ok (nb := 1) (ok_move (v := V.one (.sc _)) (.inr rfl) rfl) rfl (gle rfl)) rfl ?_
            refine SV.nil ?_
            refine SV.bn ?_
            refine SV.tn ?_
            refine SV.region ?_
            refine SV.op (OpL.ok (nb := 1) (ok_s2 (x := .tmp 35) (x' := .const ((Value.int IntKind.i64 1))) (VScal.one rfl) (VScal.one rfl) (fun ρ h1 h2 w => by go_simp; (try go_bits); with_reducible rfl) rfl) rfl (gle rfl)) rfl ?_
            refine SV.op (OpL.ok (nb := 1) (ok_move (v := V.one (.sc _)) (.inl rfl) rfl) rfl (gle rfl)) rfl ?_
            refine SV.nil ?_
            refine SV.tn ?_
            refine SV.again (fun i => [0, 1].getD i 0) (s + 1) (⟨by omega, by omega⟩) (pins hE rfl rfl) (VS.le.mk' (le_put (le_put (le_put (le_put (le_put (le_put (le_put (le_box (le_new (le_new le_nil))) (V.le.keep (ag := false) (xs := [.bp 0 0]) (ys := [.bp 0 0]) rfl rfl ⟨⟨rfl, (gle rfl)⟩, trivial⟩)) (V.le.keep (ag := false) (xs := [.sc _]) (ys := [.sc _]) rfl rfl ⟨rfl, trivial⟩)) (V.le.keep (ag := false) (xs := [.hd 0]) (ys := [.hd 0]) rfl rfl ⟨⟨rfl, (gle rfl), (gle rfl)⟩, trivial⟩)) (V.le.keep (ag := false) (xs := [.sc _]) (ys := [.sc _]) rfl rfl ⟨(by first | rfl | (show Leaf.sc _ = Leaf.sc _; refine congrArg Leaf.sc ?_; first | rfl | go_num | (first | (rw [leftO_succ hx (hnd x).1, hnx]; done) | (rw [leftO_succ hx (hnd x).1, hnx]; rfl) | (rw [leftO_zero hr0]; done) | (rw [leftO_zero hr0]; rfl); first | done | rfl | go_num | (simp; done) | (simp; omega)) | (simp [cntAll]; done)) | (simp [cntAll]; done) | (simp; omega)), trivial⟩)) (V.le.keep (ag := false) (xs := [.hd 1]) (ys := [.hd 1]) rfl rfl ⟨⟨rfl, (gle rfl), (gle rfl)⟩, trivial⟩)) (V.le.keep (ag := false) (xs := [.sc _]) (ys := [.sc _]) rfl rfl ⟨rfl, trivial⟩)) (V.le.keep (ag := false) (xs := [.sc _]) (ys := [.sc _]) rfl rfl ⟨(by first | rfl | (show Leaf.sc _ = Leaf.sc _; refine congrArg Leaf.sc ?_; first | rfl | go_num | (first | (rw [leftO_succ hx (hnd x).1, hnx]; done) | (rw [leftO_succ hx (hnd x).1, hnx]; rfl) | (rw [leftO_zero hr0]; done) | (rw [leftO_zero hr0]; rfl); first | done | rfl | go_num | (simp; done) | (simp; omega)) | (simp [cntAll]; done)) | (simp [cntAll]; done) | (simp; omega)), trivial⟩)) ⟨⟨rfl, ⟨rfl, rfl, rfl, rfl, trivial⟩⟩, trivial⟩ ⟨.inr ⟨_, _, rfl, rfl, (gle rfl)⟩, ⟨.inr ⟨_, _, rfl, ?ob4_0, (gle rfl)⟩, trivial⟩⟩ (new_ob (new_ob nil_ob)) (fun i j hi hj e => inj_list (l := [0, 1]) (by decide) i j hi hj e))
            case ob4_0 =>
              show some (T.seq _ _) = some (T.seq _ _)
              first | exact congrArg (fun z => some (T.seq _ z)) hg1 | (rw [← hg1]; rfl)
          · skip   -- c2.F
            have hse : s = b.fActive.length := by simp [ordI, ordOf_length] at hc2; omega
            have ho : grantsO b.fActive (BrokerD.rest b) s = BrokerD.grants b := by rw [hse, grantsO_end]; unfold BrokerD.grants; rw [if_pos hok]
            refine SV.exit ?_
            refine SV.te ?_
            refine SV.te ?_
            refine SV.bh ?_
            refine SV.tn ?_
            refine SV.seq' ?_
            refine SV.region ?_
            refine SV.op (OpL.ok (nb := 1) (ok_move (v := V.one (.hd 0)) (.inl rfl) rfl) rfl (gle rfl)) rfl ?_
            refine SV.op (OpL.ok (nb := 1) (ok_move (v := V.one (.hd 0)) (.inr rfl) rfl) rfl (gle rfl)) rfl ?_
            refine SV.nil ?_
            refine SV.tn ?_
            refine SV.ret ?_
            apply SV.done (hf := Try.results16) (ht := rfl) (he := .inl rfl)
            case hr => exact (ResAll.cons (ResOk.tmp (ag := false) (xs := [.hd 0]) rfl) ResAll.nil')
            case h2 => simp [two]
            refine ⟨rfl, ⟨?_, trivial⟩, trivial⟩ <;> first | rfl | (rw [ho]; rfl) | ((show some (T.seq _ _) = some (T.seq _ _); refine congrArg (fun z => some (T.seq _ z)) ?_; rw [ho]; first | done | rfl | (simp [tClient]; done) | (simp [List.map_set, tClient]; done))) | ((show some (T.lit (Value.int .i64 _)) = some (T.lit (Value.int .i64 _)); refine congrArg (fun z => some (T.lit (Value.int .i64 z))) ?_; rw [ho]; first | done | rfl)) | ((show some (T.lit (Value.bool _)) = some (T.lit (Value.bool _)); refine congrArg (fun z => some (T.lit (Value.bool z))) ?_; rw [ho]; first | done | rfl | (simp; done)))
end Go.Proofs.Ytfghhjcfmmhacaa
/- The program's GrantFor: told by trees. -/
namespace Go.Proofs.Ytfghhjcfmmhacaa
open Go Go.RowKit V
set_option linter.unusedVariables false
set_option maxRecDepth 100000 in
set_option maxHeartbeats 2000000 in
theorem vgfor_i (b : BrokerD) (id : Int) (hA : b.fActive.length ≤ 1000000000) (hW : b.fWaiting.length ≤ 1000000000) : VC Try.prog 21 [(true, tBroker b), (false, [.lit (.int .i64 (id))])] true [(false, [.lit (.int .i64 ((BrokerD.grantFor b id).getD 0))]), (false, [.lit (.bool ((BrokerD.grantFor b id).isSome))])] := by
  refine VC.enter Try.func21 rfl Try.ntmps21 (gle rfl) fun E hE => ?_
  refine SV.seq' ?_
  refine SV.region ?_
  refine SV.op (OpMk.ok (ok_box (kk := 0) (ag := true) (xs := [.sc _, .sc _, .ro _, .ro _]) rfl rfl rfl (fun h => by cases h) rfl rfl (gle rfl))) rfl ?_
  refine SV.op (OpL.ok (nb := 1) (ok_move (v := V.one (.sc _)) (.inr rfl) rfl) rfl (gle rfl)) rfl ?_
  refine SV.op (OpL.ok (nb := 1) (ok_move (v := V.one (.sc _)) (.inr rfl) rfl) rfl (gle rfl)) rfl ?_
  refine SV.nil ?_
  refine SV.tn ?_
  refine SV.seq' ?_
  refine SV.seq' ?_
  refine SV.region ?_
  refine SV.op (OpL.ok (nb := 1) (ok_load_bp (b := 0) (i := 0) (ag := true) (m := 4) (ys := [.sc _, .sc _, .ro _, .ro _]) rfl rfl rfl agg_impl_Broker sz_impl_Broker (fun h => by cases h) rfl rfl (gle rfl)) rfl (gle rfl)) rfl ?_
  refine SV.op (OpMk.ok (ok_call (ls := [(false, [.sc _])]) rfl rfl ⟨_, _, Try.func19, rfl, by decide⟩ (vokb_i b (by omega) (by omega)) ⟨⟨[.sc _, .sc _, .ro _, .ro _], rfl, ⟨rfl, rfl, rfl, rfl, trivial⟩⟩, trivial⟩ rfl (gle rfl))) rfl ?_
  refine SV.op (OpL.ok (nb := 1) (ok_s1 (x := .tmp 8) (VScal.one rfl) (fun ρ h1 w => by go_simp; (try go_bits); with_reducible rfl) rfl) rfl (gle rfl)) rfl ?_
  refine SV.nil ?_
  refine SV.tn ?_
  refine SV.cond rfl (fun hc0 => ?_) (fun hc0 => ?_)
  · skip   -- c0.T
    have hok : BrokerD.ok b = false := by simpa using hc0
    have ho : BrokerD.grantFor b id = none := BrokerD.grantFor_no (.inl (by rw [BrokerD.grants_bad hok]; rfl))
    refine SV.seq' ?_
    refine SV.region ?_
    refine SV.op (OpL.ok (nb := 1) (ok_move (v := V.one (.sc _)) (.inr rfl) rfl) rfl (gle rfl)) rfl ?_
    refine SV.op (OpL.ok (nb := 1) (ok_move (v := V.one (.sc _)) (.inr rfl) rfl) rfl (gle rfl)) rfl ?_
    refine SV.nil ?_
    refine SV.tn ?_
    refine SV.ret ?_
    refine SV.tr ?_
    apply SV.done (hf := Try.results21) (ht := rfl) (he := .inl rfl)
    case hr => exact (ResAll.cons (ResOk.tmp (ag := false) (xs := [.sc _]) rfl) (ResAll.cons (ResOk.tmp (ag := false) (xs := [.sc _]) rfl) ResAll.nil'))
    case h2 => simp [two]
    refine ⟨rfl, ⟨?_, trivial⟩, ⟨rfl, ⟨?_, trivial⟩, trivial⟩⟩ <;> first | rfl | (rw [ho]; rfl) | ((show some (T.seq _ _) = some (T.seq _ _); refine congrArg (fun z => some (T.seq _ z)) ?_; rw [ho]; first | done | rfl | (simp [tClient]; done) | (simp [List.map_set, tClient]; done))) | ((show some (T.lit (Value.int .i64 _)) = some (T.lit (Value.int .i64 _)); refine congrArg (fun z => some (T.lit (Value.int .i64 z))) ?_; rw [ho]; first | done | rfl)) | ((show some (T.lit (Value.bool _)) = some (T.lit (Value.bool _)); refine congrArg (fun z => some (T.lit (Value.bool z))) ?_; rw [ho]; first | done | rfl | (simp; done)))
  · skip   -- c0.F
    have hok : BrokerD.ok b = true := by simpa using hc0
    refine SV.skip ?_
    refine SV.tn ?_
    refine SV.seq' ?_
    obtain ⟨ka, hka⟩ : ∃ x, BrokerD.atI b.fActive id = x := ⟨_, rfl⟩
    have hva := vatc_i b.fActive id (by omega)
    rw [hka] at hva
    refine SV.region ?_
    refine SV.op (OpL.ok (nb := 1) (ok_field_bp (b := 0) (o' := 0) (off := 2) rfl rfl fld_impl_Broker_2) rfl (gle rfl)) rfl ?_
    refine SV.op (OpL.ok (nb := 1) (ok_load_bp (b := 0) (i := 2) (ag := false) (m := 1) (ys := [.ro _]) rfl rfl rfl agg_s_impl_Client sz_s_impl_Client (fun _ => rfl) rfl rfl (gle rfl)) rfl (gle rfl)) rfl ?_
    refine SV.op (OpL.ok (nb := 1) (ok_move (v := V.one (.sc _)) (.inl rfl) rfl) rfl (gle rfl)) rfl ?_
    refine SV.op (OpMk.ok (ok_call (ls := [(false, [.sc _])]) rfl rfl ⟨_, _, Try.func58, rfl, by decide⟩ (hva) ⟨⟨[.ro _], rfl, ⟨rfl, trivial⟩⟩, ⟨[.sc _], rfl, ⟨rfl, trivial⟩⟩, trivial⟩ rfl (gle rfl))) rfl ?_
    refine SV.op (OpL.ok (nb := 1) (ok_move (v := V.one (.sc _)) (.inr rfl) rfl) rfl (gle rfl)) rfl ?_
    refine SV.nil ?_
    refine SV.tn ?_
    refine SV.seq' ?_
    refine SV.seq' ?_
    refine SV.region ?_
    refine SV.op (OpL.ok (nb := 1) (ok_move (v := V.one (.sc _)) (.inl rfl) rfl) rfl (gle rfl)) rfl ?_
    refine SV.op (OpL.ok (nb := 1) (ok_s2 (x := .tmp 14) (x' := .const ((Value.int IntKind.i64 0))) (VScal.one rfl) (VScal.one rfl) (fun ρ h1 h2 w => by go_simp; (try go_bits); with_reducible rfl) rfl) rfl (gle rfl)) rfl ?_
    refine SV.nil ?_
    refine SV.tn ?_
    refine SV.cond rfl (fun hc1 => ?_) (fun hc1 => ?_)
    · skip   -- c1.T
      have ho : BrokerD.grantFor b id = none := BrokerD.grantFor_no (.inr (BrokerD.at_neg hka (by simp at hc1; omega)))
      refine SV.seq' ?_
      refine SV.region ?_
      refine SV.op (OpL.ok (nb := 1) (ok_move (v := V.one (.sc _)) (.inr rfl) rfl) rfl (gle rfl)) rfl ?_
      refine SV.op (OpL.ok (nb := 1) (ok_move (v := V.one (.sc _)) (.inr rfl) rfl) rfl (gle rfl)) rfl ?_
      refine SV.nil ?_
      refine SV.tn ?_
      refine SV.ret ?_
      refine SV.tr ?_
      apply SV.done (hf := Try.results21) (ht := rfl) (he := .inl rfl)
      case hr => exact (ResAll.cons (ResOk.tmp (ag := false) (xs := [.sc _]) rfl) (ResAll.cons (ResOk.tmp (ag := false) (xs := [.sc _]) rfl) ResAll.nil'))
      case h2 => simp [two]
      refine ⟨rfl, ⟨?_, trivial⟩, ⟨rfl, ⟨?_, trivial⟩, trivial⟩⟩ <;> first | rfl | (rw [ho]; rfl) | ((show some (T.seq _ _) = some (T.seq _ _); refine congrArg (fun z => some (T.seq _ z)) ?_; rw [ho]; first | done | rfl | (simp [tClient]; done) | (simp [List.map_set, tClient]; done))) | ((show some (T.lit (Value.int .i64 _)) = some (T.lit (Value.int .i64 _)); refine congrArg (fun z => some (T.lit (Value.int .i64 z))) ?_; rw [ho]; first | done | rfl)) | ((show some (T.lit (Value.bool _)) = some (T.lit (Value.bool _)); refine congrArg (fun z => some (T.lit (Value.bool z))) ?_; rw [ho]; first | done | rfl | (simp; done)))
    · skip   -- c1.F
      obtain ⟨k, rfl, hat⟩ := BrokerD.at_pos hka (by simp at hc1; omega)
      obtain ⟨-, -, -, hkl⟩ := BrokerD.of_at hat
      have hgl : (BrokerD.grants b).length ≠ 0 := by unfold BrokerD.grants BrokerD.grantsOf; rw [if_pos hok]; simp; intro e; rw [e] at hkl; simp at hkl
      obtain ⟨hx, ho⟩ := BrokerD.grantFor_yes hgl hat
      refine SV.skip ?_
      refine SV.tn ?_
      refine SV.seq' ?_
      refine SV.region ?_
      refine SV.op (OpL.ok (nb := 1) (ok_load_bp (b := 0) (i := 0) (ag := true) (m := 4) (ys := [.sc _, .sc _, .ro _, .ro _]) rfl rfl rfl agg_impl_Broker sz_impl_Broker (fun h => by cases h) rfl rfl (gle rfl)) rfl (gle rfl)) rfl ?_
      refine SV.op (OpMk.ok (ok_call (ls := [(false, [.hd 0])]) rfl rfl ⟨_, _, Try.func16, rfl, by decide⟩ (vgrants_i b (by omega) (by omega)) ⟨⟨[.sc _, .sc _, .ro _, .ro _], rfl, ⟨rfl, rfl, rfl, rfl, trivial⟩⟩, trivial⟩ rfl (gle rfl))) rfl ?_
      refine SV.op (OpL.ok (nb := 1) (ok_move (v := V.one (.sc _)) (.inl rfl) rfl) rfl (gle rfl)) rfl ?_
      refine SV.op (OpL.ok (nb := 1) (ok_index (n := 1) (lf := .hd 0) rfl elt_int.und sz_int rfl rfl rfl (map_at hx)) rfl (gle rfl)) rfl ?_
      refine SV.op (ok_load_el (p := .ep 0 _ _ _) (ag := false) (m := 1) (ys := [.sc _]) rfl rfl (cells_ep rfl (map_at hx) rfl rfl) agg_int sz_int (fun _ => rfl) (gle rfl) rfl rfl (gle rfl)) rfl ?_
      refine SV.op (OpL.ok (nb := 1) (ok_move (v := V.one (.sc _)) (.inr rfl) rfl) rfl (gle rfl)) rfl ?_
      refine SV.op (OpL.ok (nb := 1) (ok_move (v := V.one (.sc _)) (.inr rfl) rfl) rfl (gle rfl)) rfl ?_
      refine SV.nil ?_
      refine SV.tn ?_
      refine SV.ret ?_
      apply SV.done (hf := Try.results21) (ht := rfl) (he := .inl rfl)
      case hr => exact (ResAll.cons (ResOk.tmp (ag := false) (xs := [.sc _]) rfl) (ResAll.cons (ResOk.tmp (ag := false) (xs := [.sc _]) rfl) ResAll.nil'))
      case h2 => simp [two]
      refine ⟨rfl, ⟨?_, trivial⟩, ⟨rfl, ⟨?_, trivial⟩, trivial⟩⟩ <;> first | rfl | (rw [ho]; rfl) | ((show some (T.seq _ _) = some (T.seq _ _); refine congrArg (fun z => some (T.seq _ z)) ?_; rw [ho]; first | done | rfl | (simp [tClient]; done) | (simp [List.map_set, tClient]; done))) | ((show some (T.lit (Value.int .i64 _)) = some (T.lit (Value.int .i64 _)); refine congrArg (fun z => some (T.lit (Value.int .i64 z))) ?_; rw [ho]; first | done | rfl)) | ((show some (T.lit (Value.bool _)) = some (T.lit (Value.bool _)); refine congrArg (fun z => some (T.lit (Value.bool z))) ?_; rw [ho]; first | done | rfl | (simp; done)))
end Go.Proofs.Ytfghhjcfmmhacaa
/- The law of grants: told by trees. -/
namespace Go.Proofs.Ytfghhjcfmmhacaa
open Go Go.RowKit V
set_option linter.unusedVariables false
theorem vlaw (ad : Option Addr) (len cap : Nat) (zs : List Int) : VCP (fun w => Code ad len cap zs w) Try.prog 3 [(false, [.lit (.slice ad len cap)])] false [(false, [.lit (.bool true)])] := vlaw_gr ad len cap zs vgrants_i vokb_i vgfor_i
end Go.Proofs.Ytfghhjcfmmhacaa
/- States told by trees: arguments, from their reading to their trees; no function of program or reference is walked here. -/
namespace Go.Proofs.Ytfghhjcfmmhacaa
open Go Go.ChangeShapes Go.WideShapes Go.RowKit Go.Deep Go.Joins V
set_option linter.unusedVariables false
def OpensT (A : TypeId) {α : Type} (n : Nat) (tf : α → List T) (ok : α → Prop) : Prop :=
  ∀ (H : Type) (enc : TypeId × Value → H) (w : World) (spare : Nat → Bool) (held : Bool) (fuel : Nat) (cs : List Value) (x : DataW H × List MemPlace), DataW.trod enc Try.prog w 0 spare held fuel A cs = some x → cs.length = n → ∃ y : α, ok y ∧ (tf y).length = n ∧ ∀ (j : Nat) (t : T) (u : Value), (tf y)[j]? = some t → cs[j]? = some u → Inn (fun b => b < w.heap.size) w t u
set_option maxRecDepth 100000 in
theorem OpensT.seq {A e : TypeId} {α : Type} {n : Nat} {tf : α → List T} {ok : α → Prop} (ht : Try.prog.underlying A = some (.slice e)) (hc : Try.prog.cellsOf e = n) (hp : 0 < n) (hz : Sz e n) (hO : OpensT e n tf ok) : OpensT A 1 (fun X : List α => [.seq e (X.map tf)]) (fun X => (∀ x ∈ X, ok x) ∧ X.length ≤ maxLen) := by
  intro H enc w spare held fuel cs x h _
  have emp : ∀ (a : Option Addr) (c : Nat), c ≤ maxLen → (a = none → c = 0) → ∃ y : List α, ((∀ x ∈ y, ok x) ∧ y.length ≤ maxLen) ∧ [T.seq e (y.map tf)].length = 1 ∧ ∀ (j : Nat) (t : T) (u : Value), [T.seq e (y.map tf)][j]? = some t → [Value.slice a 0 c][j]? = some u → Inn (fun b => b < w.heap.size) w t u := fun a c hc0 hn0 =>
    ⟨[], ⟨fun x hx => (by cases hx), Nat.zero_le _⟩, rfl, fun j t u h1 h2 => by
      match j, h1, h2 with
      | 0, h1, h2 =>
        cases h1; cases h2
        exact Inn.seq (es := []) n hp hz (fun e he => by cases he) (Nat.zero_le _) hc0 hn0 0 0 (fun _ => .bool false) (fun _ _ h => absurd rfl h) (fun h => absurd rfl h) (fun k e j t h => by simp at h) fun k e j t h => by simp at h⟩
  rcases open_slice ht h with ⟨rfl, -⟩ | ⟨a, len, cap, m, fu, D, Pl, rfl, -, hl, hm, hmm, -, hi⟩
  · exact emp none 0 (Nat.zero_le _) fun _ => rfl
  · have hlm : len ≤ m := by rw [hmm]; split <;> omega
    rw [hc] at hi
    rcases Nat.eq_zero_or_pos len with h0 | h0
    · subst h0
      exact emp (some a) cap hm fun e => by cases e
    · have hone : ∀ i, i < len → ∃ yc : α × List Value, ok yc.1 ∧ (tf yc.1).length = n ∧ yc.2.length = n ∧ (∀ j u, yc.2[j]? = some u → w.cell? (a.add (i * n + j)) = some u) ∧ ∀ (j : Nat) (t : T) (u : Value), (tf yc.1)[j]? = some t → yc.2[j]? = some u → Inn (fun b => b < w.heap.size) w t u := by
        intro i hil
        obtain ⟨cs', hcs, htr⟩ := hi i (by omega)
        obtain ⟨_, hcl, hat⟩ := World.cells?_some hcs
        obtain ⟨y, h1, h2, h3⟩ := hO H enc w spare held fu cs' _ htr hcl
        refine ⟨(y, cs'), h1, h2, hcl, fun j u hj => ?_, h3⟩
        have hjl : j < n := by rw [← hcl]; exact get_lt hj
        have := hat j hjl
        rw [add_add] at this
        rw [this]
        exact hj
      obtain ⟨y0, -⟩ := hone 0 h0
      obtain ⟨f, hf⟩ := @choose_lt (α × List Value) ⟨y0⟩ len _ hone
      obtain ⟨b, o, spot⟩ := a
      have hl0 : 0 < (f 0).2.length := by rw [(hf 0 h0).2.2.1]; exact hp
      have hcell0 := (hf 0 h0).2.2.2.1 0 (f 0).2[0] (by simp [hl0])
      have hspot : spot = none := by simpa [Addr.add] using World.cell?_spot hcell0
      subst hspot
      have hb : b < w.heap.size := by
        have := World.block_lt_of_cell? w _ hcell0
        simpa [Addr.add] using this
      have hget : ∀ k e', (((List.range len).map fun t => (f t).1).map tf)[k]? = some e' → k < len ∧ e' = tf (f k).1 := fun k e' hk => by
        have hkl : k < len := by have := get_lt hk; simpa using this
        refine ⟨hkl, ?_⟩
        simp [hkl] at hk
        exact hk.symm
      refine ⟨(List.range len).map fun t => (f t).1, ⟨fun x hx => ?_, by simp; omega⟩, rfl, fun j t u h1 h2 => ?_⟩
      · obtain ⟨t, ht, rfl⟩ := List.mem_map.1 hx
        exact (hf t (List.mem_range.1 ht)).1
      · match j, h1, h2 with
        | 0, h1, h2 =>
          cases h1; cases h2
          have hlen : (((List.range len).map fun t => (f t).1).map tf).length = len := by simp
          have key : ∀ k e' j t', (((List.range len).map fun t => (f t).1).map tf)[k]? = some e' → e'[j]? = some t' → ∃ u, (f k).2[j]? = some u ∧ w.cell? ⟨b, o + (k * n + j), none⟩ = some u ∧ Inn (fun b => b < w.heap.size) w t' u := fun k e' j t' hk hj => by
            obtain ⟨hkl, rfl⟩ := hget k e' hk
            obtain ⟨-, h3, h4, h5, h6⟩ := hf k hkl
            have hjl : j < (f k).2.length := by rw [h4, ← h3]; exact get_lt hj
            have h7 := h5 j _ (List.getElem?_eq_getElem hjl)
            rw [Addr.add_lit] at h7
            exact ⟨_, List.getElem?_eq_getElem hjl, h7, h6 j t' _ hj (List.getElem?_eq_getElem hjl)⟩
          have hsl : Value.slice (some ⟨b, o, none⟩) len cap = Value.slice (some ⟨b, o, none⟩) (((List.range len).map fun t => (f t).1).map tf).length cap := by rw [hlen]
          rw [hsl]
          exact Inn.seq n hp hz (fun e' he => by
            obtain ⟨k, hk, rfl⟩ := List.getElem_of_mem he
            obtain ⟨hkl, e1⟩ := hget k _ (List.getElem?_eq_getElem hk)
            rw [e1]; exact (hf k hkl).2.1) (by rw [hlen]; exact hl) hm (fun e => by cases e) b o (fun i => (w.cell? ⟨b, o + i, none⟩).getD (.bool false)) (fun ad h _ => (Option.some.inj h).symm) (fun _ => ⟨hb, hb⟩) (fun k e' j t' hk hj => by
              obtain ⟨u, -, h3, -⟩ := key k e' j t' hk hj
              rw [h3]; rfl) fun k e' j t' hk hj => by
              obtain ⟨u, -, h3, h4⟩ := key k e' j t' hk hj
              rw [h3]; exact h4
theorem OpensT.int : OpensT 3 1 (fun x : Int => [.lit (.int .i64 x)]) I64 := by
  intro H enc w spare held fuel cs x h hl
  match cs, hl with
  | [c0], _ =>
    obtain ⟨k0, e0, -, w0⟩ := DataW.trod_int Try.underlying3 h
    simp at e0
    subst e0
    refine ⟨k0, bounds_i64 w0, rfl, fun j t u h1 h2 => ?_⟩
    match j, h1, h2 with
    | 0, h1, h2 => cases h1; cases h2; exact .lit rfl
theorem OpensT.bool : OpensT 4 1 (fun x : Bool => [.lit (.bool x)]) (fun _ => True) := by
  intro H enc w spare held fuel cs x h hl
  match cs, hl with
  | [c0], _ =>
    obtain ⟨k0, e0, -⟩ := DataW.trod_bool Try.underlying4 h
    simp at e0
    subst e0
    refine ⟨k0, trivial, rfl, fun j t u h1 h2 => ?_⟩
    match j, h1, h2 with
    | 0, h1, h2 => cases h1; cases h2; exact .lit rfl
def okRow (r : R) : Prop := r.wf
def ArgT (w : World) (ag : Bool) (ts : List T) (v : Value) : Prop := ∃ us : List Value, v = cval ag us ∧ us.length = ts.length ∧ ∀ (j : Nat) (t : T) (u : Value), ts[j]? = some t → us[j]? = some u → Inn (fun b => b < w.heap.size) w t u
theorem ArgT.lit {w : World} {v : Value} (h : v.oneCell' = true) : ArgT w false [.lit v] v := ⟨[v], rfl, rfl, fun j t u h1 h2 => by
  match j, h1, h2 with
  | 0, h1, h2 => cases h1; cases h2; exact .lit h⟩
set_option maxRecDepth 100000 in
theorem OpensT.val {A : TypeId} {fs : Array Field} {α : Type} {n : Nat} {tf : α → List T} {ok : α → Prop} (hO : OpensT A n tf ok) (hs : Try.prog.underlying A = some (.struct fs)) (hc : Try.prog.cellsOf A = n)
    {H : Type} {enc : TypeId × Value → H} {w : World} {spare : Nat → Bool} {held : Bool} {q : Reach} {b0 : Nat} {v : Value} {d : DataW H} {p : List MemPlace} (hv : Value.okWide Try.prog w q b0 A v) (h : DataW.Trod enc Try.prog w 0 spare held A v d p) :
    ∃ y : α, ok y ∧ ArgT w true (tf y) v := by
  obtain ⟨cs, rfl, hsz⟩ := okWide_struct hs hv
  obtain ⟨fuel, hf⟩ := h
  have hl : (Value.cells (.agg cs)).toList.length = n := by simpa [Value.cells] using hsz.trans hc
  obtain ⟨y, h1, h2, h3⟩ := hO H enc w spare held fuel _ _ hf hl
  exact ⟨y, h1, cs.toList, by simp [cval], hl.trans h2.symm, h3⟩
theorem OpensT.arg {A : TypeId} {α : Type} {tf : α → List T} {ok : α → Prop} (hO : OpensT A 1 tf ok) {H : Type} {enc : TypeId × Value → H} {w : World} {spare : Nat → Bool} {held : Bool} {a : Option Addr} {len cap : Nat} {d : DataW H} {p : List MemPlace}
    (h : DataW.Trod enc Try.prog w 0 spare held A (.slice a len cap) d p) : ∃ y : α, ok y ∧ ArgT w false (tf y) (.slice a len cap) := by
  obtain ⟨fuel, hf⟩ := h
  obtain ⟨y, h1, h2, h3⟩ := hO H enc w spare held fuel _ _ hf (by simp [Value.cells])
  exact ⟨y, h1, [.slice a len cap], rfl, h2.symm, h3⟩
theorem argsIn_nil {w : World} : ArgsIn (Env.of w) w [] [] := ⟨rfl, fun c ag ts v h => by simp at h⟩
theorem argsIn_cons {w : World} {ag : Bool} {ts : List T} {v : Value} {ins : List (Bool × List T)} {vs : List Value} (h : ArgT w ag ts v) (k : ArgsIn (Env.of w) w ins vs) : ArgsIn (Env.of w) w ((ag, ts) :: ins) (v :: vs) := by
  refine ⟨by simp [k.1], fun c ag' ts' v' h1 h2 => ?_⟩
  cases c with
  | zero =>
    cases h1; cases h2
    obtain ⟨us, h3, h4, h5⟩ := h
    exact ⟨us, h3, h4, fun j t u h6 h7 => (h5 j t u h6 h7).frame (Nat.le_refl _) fun b hb _ => ⟨Env.of_old.2 hb, rfl⟩⟩
  | succ c => exact k.2 c ag' ts' v' (by simpa using h1) (by simpa using h2)
theorem VC.law {f : FuncId} {ins : List (Bool × List T)} (h : VC Try.prog f ins false [(false, [.lit (.bool true)])]) {w : World} {vs : List Value} (hv : ArgsIn (Env.of w) w ins vs) : Calls Try.prog f vs.toArray w fun e w' => e = .returned (.bool true) ∧ Below w.heap.size w w' :=
  (h w vs hv).mono fun e w' hg => by
    obtain ⟨h1, h2⟩ := hg.lit
    exact ⟨h1, h2.os, h2.tape, h2.output, h2.size, fun k hk => h2.block k (Env.of_old.2 hk)⟩
end Go.Proofs.Ytfghhjcfmmhacaa
/- Brokers as plain mathematics: what the laws of admission and of liveness ask; no function of program or reference is walked here. -/
namespace Go.Proofs.Ytfghhjcfmmhacaa
open Go.RowKit
set_option linter.unusedVariables false
namespace BrokerD
theorem live_step {b : BrokerD} (h : ok b = true) {k : Nat} {c : ClientD} (hk : b.fActive[k]? = some c) : ∃ z, removed b c.fID = some z ∧ ok z = true ∧ z.fActive.length + z.fWaiting.length + 1 = b.fActive.length + b.fWaiting.length := by
  have hO := Ok.of h
  have hl : k < b.fActive.length := by
    rcases Nat.lt_or_ge k b.fActive.length with h | h
    · exact h
    · rw [List.getElem?_eq_none h] at hk; cases hk
  have hc : b.fActive[k] = c := by rw [List.getElem?_eq_getElem hl] at hk; exact Option.some.inj hk
  have hr := removed_active hO hl
  rw [hc] at hr
  obtain ⟨-, h2, h3, -⟩ := removed_facts hr
  exact ⟨_, hr, h2.yes, h3⟩
theorem new_facts (p : Int) : (new p).fActive.length = 0 ∧ (new p).fWaiting.length = 0 := by unfold new; split <;> exact ⟨rfl, rfl⟩
end BrokerD
end Go.Proofs.Ytfghhjcfmmhacaa
/- A law's own 'at' and 'cutAt': a byte of its code, a place in a list. -/
namespace Go.Proofs.Ytfghhjcfmmhacaa
open Go Go.RowKit
set_option linter.unusedVariables false
end Go.Proofs.Ytfghhjcfmmhacaa
/- The laws' own 'at': the byte of the code that it answers. -/
namespace Go.Proofs.Ytfghhjcfmmhacaa
open Go Go.RowKit
set_option linter.unusedVariables false
def atV (zs : List Int) (len i : Nat) : Int := if i < len then zs.getD i 0 else ((i : Int) * 37 + (len : Int) * 11) % 256
theorem atV_range {a : Option Addr} {len cap : Nat} {zs : List Int} {w : World} (h : Code a len cap zs w) (i : Nat) : 0 ≤ atV zs len i ∧ atV zs len i < 256 := by
  unfold atV
  split
  · rename_i hlt
    rcases h.row with ⟨rfl, rfl, rfl, rfl⟩ | ⟨x, rfl, h1, h2, h3, h4, h5⟩
    · omega
    · have := h5 (zs.getD i 0) (by simp [List.getD, show i < zs.length by omega])
      simp [Lit.wf] at this
      have e0 : IntKind.u8.min = 0 := rfl
      have e1 : IntKind.u8.max = 255 := rfl
      simp only [List.getD_eq_getElem?_getD]
      omega
  · omega
set_option maxRecDepth 100000 in
theorem at_is (a : Option Addr) (len cap : Nat) (zs : List Int) (w : World) (h : Code a len cap zs w) (i : Nat) (hi : i ≤ 1000) : Calls Try.prog 39 #[.slice a len cap, .int .i64 i] w fun e w' => e = .returned (.int .i64 (atV zs len i)) ∧ w' = w := by
  have hs := h.small
  have hrg := atV_range h i
  by_cases hlt : i < len
  · rcases h.row with ⟨rfl, rfl, rfl, rfl⟩ | ⟨x, rfl, h1, h2, h3, h4, h5⟩
    · omega
    · obtain ⟨b, hb⟩ : ∃ b, b = zs.getD i 0 := ⟨_, rfl⟩
      have hc := h4 i (by omega)
      have hv : atV zs len i = b := by unfold atV; rw [if_pos hlt, hb]
      rw [hv] at hrg ⊢
      rw [← hb] at hc
      clear h4 h5 hb h hv
      go_enter Try.func39, Try.ntmps39
      go_wp2_with fail
      go_ret
      refine ⟨congrArg (fun z => Ending.returned (Value.int .i64 z)) ?_, rfl⟩
      first | omega | (simp [IntKind.wrap, IntKind.bits, IntKind.signed]; omega)
  · have hv : atV zs len i = ((i : Int) * 37 + (len : Int) * 11) % 256 := by unfold atV; rw [if_neg hlt]
    rw [hv]
    clear h hv hrg
    go_enter Try.func39, Try.ntmps39
    go_wp2_with fail
    go_ret
    refine ⟨congrArg (fun z => Ending.returned (Value.int .i64 z)) ?_, rfl⟩
    first | omega | (simp; omega)
theorem vat_code {ad : Option Addr} {len cap : Nat} {zs : List Int} (i : Nat) (hi : i ≤ 1000) : V.VCP (fun w => Code ad len cap zs w) Try.prog 39 [(false, [.lit (.slice ad len cap)]), (false, [.lit (.int .i64 i)])] false [(false, [.lit (.int .i64 (atV zs len i))])] := fun w hw vs hv =>
  V.VC.plainAt (ins := [(false, [.slice ad len cap]), (false, [.int .i64 i])]) (ag := false) (rs := [.int .i64 (atV zs len i)]) (fun u hu => by rw [List.mem_singleton.1 hu]; rfl) ((at_is ad len cap zs w hw i hi).mono fun e w' ⟨he, hw'⟩ => ⟨he, hw' ▸ Below.refl _ _⟩) vs hv
end Go.Proofs.Ytfghhjcfmmhacaa
/- The law of liveness, over the program's contracts: told by trees. -/
namespace Go.Proofs.Ytfghhjcfmmhacaa
open Go Go.RowKit V
set_option linter.unusedVariables false
theorem vbigL {ad : Option Addr} {len cap : Nat} {zs : List Int} : VCP (fun w => Code ad len cap zs w) Try.prog 14 [(false, [.lit (.slice ad len cap)])] false [(false, [.lit (.bool false)])] := fun w hw vs hv => VC.plainAt (ins := [(false, [.slice ad len cap])]) (ag := false) (rs := [.bool false]) (fun u hu => by rw [List.mem_singleton.1 hu]; rfl) ((big_no ad len cap w hw.small).mono fun e w' ⟨he, hw'⟩ => ⟨he, hw' ▸ Below.refl _ _⟩) vs hv
set_option maxRecDepth 100000 in
set_option maxHeartbeats 2000000 in
theorem vlaw_live (ad : Option Addr) (len cap : Nat) (zs : List Int) (irem : ∀ (b : BrokerD) (id : Int), b.fActive.length ≤ 1000000000 → b.fWaiting.length ≤ 1000000000 → VC Try.prog 27 [(true, tBroker b), (false, [.lit (.int .i64 id)])] true [(true, tBroker ((BrokerD.removed b id).getD b)), (false, [.lit (.bool (BrokerD.removed b id).isSome)])]) (iok : ∀ b : BrokerD, b.fActive.length ≤ 1000000000 → b.fWaiting.length ≤ 1000000000 → VC Try.prog 19 [(true, tBroker b)] false [(false, [.lit (.bool (BrokerD.ok b))])]) (inew : ∀ n : Int, VC Try.prog 35 [(false, [.lit (.int .i64 n)])] true [(true, tBroker (BrokerD.new n)), (false, [.lit (.bool (BrokerD.isPool n))])]) (ieq : ∀ a b : BrokerD, a.fActive.length ≤ 1000000000 ∧ a.fWaiting.length ≤ 1000000000 → b.fActive.length ≤ 1000000000 ∧ b.fWaiting.length ≤ 1000000000 → VC Try.prog 38 [(true, tBroker a), (true, tBroker b)] false [(false, [.lit (.bool (decide (a = b)))])]) : VCP (fun w => Code ad len cap zs w) Try.prog 5 [(false, [.lit (.slice ad len cap)])] false [(false, [.lit (.bool true)])] := by
  refine VCP.enter (fun w w' h hb => h.below hb) Try.func5 rfl Try.ntmps5 (gle rfl) fun E hE hD => ?_
  refine SV.seq' ?_
  refine SV.region ?_
  refine SV.op (OpL.ok (nb := 0) (ok_move (v := V.one (.sc _)) (.inr rfl) rfl) rfl (gle rfl)) rfl ?_
  refine SV.nil ?_
  refine SV.tn ?_
  refine SV.seq' ?_
  refine SV.seq' ?_
  refine SV.region ?_
  refine SV.op (OpL.ok (nb := 0) (ok_move (v := V.one (.sc _)) (.inl rfl) rfl) rfl (gle rfl)) rfl ?_
  refine SV.op (OpMk.ok (ok_callP (ls := [(false, [.sc _])]) hD rfl rfl ⟨_, _, Try.func14, rfl, by decide⟩ (vbigL) ⟨⟨[.sc _], rfl, ⟨rfl, trivial⟩⟩, trivial⟩ rfl (gle rfl))) rfl ?_
  refine SV.nil ?_
  refine SV.tn ?_
  refine SV.cond rfl (fun hc0 => ?_) (fun hc0 => ?_)
  · skip   -- c0.T
    simp at hc0
  · skip   -- c0.F
    refine SV.skip ?_
    refine SV.tn ?_
    refine SV.seq' ?_
    refine SV.region ?_
    refine SV.op (OpL.ok (nb := 0) (ok_move (v := V.one (.sc _)) (.inl rfl) rfl) rfl (gle rfl)) rfl ?_
    refine SV.callE hD rfl ⟨_, _, Try.func33, rfl, by decide⟩ (vd_bok) ⟨⟨[.sc _], rfl, ⟨rfl, trivial⟩⟩, trivial⟩ rfl (gle rfl) rfl ?_
    rintro b ⟨hb1, hb2⟩
    replace hb1 : b.fActive.length ≤ 20 := hb1
    replace hb2 : b.fWaiting.length ≤ 20 := hb2
    refine SV.op (OpMk.ok (ok_alloc (kk := 0) (xs := [.sc _, .sc _, .nl _, .nl _]) rfl rfl zero_impl_Broker ⟨rfl, rfl, rfl, rfl, rfl, ⟨3, by decide, sz_impl_Client⟩, rfl, ⟨3, by decide, sz_impl_Client⟩, trivial⟩ rfl (gle rfl))) rfl ?_
    refine SV.op (ok_store_bp (b := 0) (i := 0) (m := 4) (ag := true) (zs := [.sc _, .sc _, .hd 0, .hd 1]) (ys := [.sc _, .sc _, .hd 0, .hd 1]) rfl rfl rfl rfl sz_impl_Broker (fun h => by cases h) rfl (gle rfl) rfl rfl rfl) rfl ?_
    refine SV.nil ?_
    refine SV.tn ?_
    refine SV.seq' ?_
    refine SV.forget (L := [(0, V.one (.sc _)), (2, V.one (.sc _)), (3, V.one (.bp 0 0))]) (B := [(26, [.sc _, .sc _, .hd 0, .hd 1])]) (O := [(0, _, _), (1, _, _)]) (n := 2) ⟨rfl, rfl, rfl, trivial⟩ rfl ⟨rfl, rfl, trivial⟩ rfl ?_
    refine SV.region ?_
    refine SV.op (OpL.ok (nb := 1) (ok_move (v := V.one (.sc _)) (.inl rfl) rfl) rfl (gle rfl)) rfl ?_
    refine SV.callE hD rfl ⟨_, _, Try.func34, rfl, by decide⟩ (vd_bnew) ⟨⟨[.sc _], rfl, ⟨rfl, trivial⟩⟩, trivial⟩ rfl (gle rfl) rfl ?_
    rintro pp -
    obtain ⟨hn1, hn2⟩ := BrokerD.new_facts pp
    replace hn1 : (BrokerD.new pp).fActive.length ≤ 0 := Nat.le_of_eq hn1
    replace hn2 : (BrokerD.new pp).fWaiting.length ≤ 0 := Nat.le_of_eq hn2
    refine SV.op (OpL.ok (nb := 1) (ok_move (v := V.one (.sc _)) (.inr rfl) rfl) rfl (gle rfl)) rfl ?_
    refine SV.nil ?_
    refine SV.tn ?_
    refine SV.seq' ?_
    refine SV.forget (L := [(0, V.one (.sc _)), (2, V.one (.sc _)), (3, V.one (.bp 0 0)), (4, V.one (.sc _))]) (B := [(26, [.sc _, .sc _, .hd 0, .hd 1])]) (O := [(0, _, _), (1, _, _)]) (n := 2) ⟨rfl, rfl, rfl, rfl, trivial⟩ rfl ⟨rfl, rfl, trivial⟩ rfl ?_
    refine SV.region ?_
    refine SV.op (OpL.ok (nb := 1) (ok_move (v := V.one (.sc _)) (.inl rfl) rfl) rfl (gle rfl)) rfl ?_
    refine SV.op (OpMk.ok (ok_call (ls := [(true, [.sc _, .sc _, .hd 2, .hd 3]), (false, [.sc _])]) rfl rfl ⟨_, _, Try.func35, rfl, by decide⟩ (inew pp) ⟨⟨[.sc _], rfl, ⟨rfl, trivial⟩⟩, trivial⟩ rfl (gle rfl))) rfl ?_
    refine SV.op (OpL.ok (nb := 1) (ok_move (v := ⟨true, [(true, [.sc _, .sc _, .hd 2, .hd 3]), (false, [.sc _])]⟩) (.inl rfl) rfl) rfl (gle rfl)) rfl ?_
    refine SV.op (OpL.ok (nb := 1) (ok_extract (ag := true) (xs := [.sc _, .sc _, .hd 2, .hd 3]) rfl rfl rfl) rfl (gle rfl)) rfl ?_
    refine SV.op (OpL.ok (nb := 1) (ok_extract (ag := false) (xs := [.sc _]) rfl rfl rfl) rfl (gle rfl)) rfl ?_
    refine SV.op (OpMk.ok (ok_alloc (kk := 1) (xs := [.sc _, .sc _, .nl _, .nl _]) rfl rfl zero_impl_Broker ⟨rfl, rfl, rfl, rfl, rfl, ⟨3, by decide, sz_impl_Client⟩, rfl, ⟨3, by decide, sz_impl_Client⟩, trivial⟩ rfl (gle rfl))) rfl ?_
    refine SV.op (ok_store_bp (b := 1) (i := 0) (m := 4) (ag := true) (zs := [.sc _, .sc _, .hd 2, .hd 3]) (ys := [.sc _, .sc _, .hd 2, .hd 3]) rfl rfl rfl rfl sz_impl_Broker (fun h => by cases h) rfl (gle rfl) rfl rfl rfl) rfl ?_
    refine SV.op (OpL.ok (nb := 2) (ok_move (v := V.one (.sc _)) (.inr rfl) rfl) rfl (gle rfl)) rfl ?_
    refine SV.nil ?_
    refine SV.tn ?_
    refine SV.seq' ?_
    refine SV.forget (L := [(0, V.one (.sc _)), (2, V.one (.sc _)), (3, V.one (.bp 0 0)), (4, V.one (.sc _)), (5, V.one (.bp 1 0)), (6, V.one (.sc _))]) (B := [(26, [.sc _, .sc _, .hd 0, .hd 1]), (26, [.sc _, .sc _, .hd 2, .hd 3])]) (O := [(0, _, _), (1, _, _), (2, _, _), (3, _, _)]) (n := 4) ⟨rfl, rfl, rfl, rfl, rfl, rfl, trivial⟩ rfl ⟨rfl, rfl, rfl, rfl, trivial⟩ rfl ?_
    refine SV.region ?_
    refine SV.op (OpL.ok (nb := 2) (ok_move (v := V.one (.sc _)) (.inl rfl) rfl) rfl (gle rfl)) rfl ?_
    refine SV.op (OpMk.ok (ok_call (ls := [(true, [.sc _, .sc _, .hd 4, .hd 5]), (false, [.sc _])]) rfl rfl ⟨_, _, Try.func36, rfl, by decide⟩ (vnewb_s pp) ⟨⟨[.sc _], rfl, ⟨rfl, trivial⟩⟩, trivial⟩ rfl (gle rfl))) rfl ?_
    refine SV.op (OpL.ok (nb := 2) (ok_move (v := ⟨true, [(true, [.sc _, .sc _, .hd 4, .hd 5]), (false, [.sc _])]⟩) (.inl rfl) rfl) rfl (gle rfl)) rfl ?_
    refine SV.op (OpL.ok (nb := 2) (ok_extract (ag := true) (xs := [.sc _, .sc _, .hd 4, .hd 5]) rfl rfl rfl) rfl (gle rfl)) rfl ?_
    refine SV.op (OpL.ok (nb := 2) (ok_extract (ag := false) (xs := [.sc _]) rfl rfl rfl) rfl (gle rfl)) rfl ?_
    refine SV.op (OpMk.ok (ok_alloc (kk := 2) (xs := [.sc _, .sc _, .nl _, .nl _]) rfl rfl zero_impl_Broker ⟨rfl, rfl, rfl, rfl, rfl, ⟨3, by decide, sz_impl_Client⟩, rfl, ⟨3, by decide, sz_impl_Client⟩, trivial⟩ rfl (gle rfl))) rfl ?_
    refine SV.op (ok_store_bp (b := 2) (i := 0) (m := 4) (ag := true) (zs := [.sc _, .sc _, .hd 4, .hd 5]) (ys := [.sc _, .sc _, .hd 4, .hd 5]) rfl rfl rfl rfl sz_impl_Broker (fun h => by cases h) rfl (gle rfl) rfl rfl rfl) rfl ?_
    refine SV.op (OpL.ok (nb := 3) (ok_move (v := V.one (.sc _)) (.inr rfl) rfl) rfl (gle rfl)) rfl ?_
    refine SV.nil ?_
    refine SV.tn ?_
    refine SV.seq' ?_
    refine SV.forget (L := [(0, V.one (.sc _)), (2, V.one (.sc _)), (3, V.one (.bp 0 0)), (5, V.one (.bp 1 0)), (6, V.one (.sc _)), (7, V.one (.bp 2 0)), (8, V.one (.sc _))]) (B := [(26, [.sc _, .sc _, .hd 0, .hd 1]), (26, [.sc _, .sc _, .hd 2, .hd 3]), (26, [.sc _, .sc _, .hd 4, .hd 5])]) (O := [(0, _, _), (1, _, _), (2, _, _), (3, _, _), (4, _, _), (5, _, _)]) (n := 6) ⟨rfl, rfl, rfl, rfl, rfl, rfl, rfl, trivial⟩ rfl ⟨rfl, rfl, rfl, rfl, rfl, rfl, trivial⟩ rfl ?_
    refine SV.region ?_
    refine SV.op (OpL.ok (nb := 3) (ok_move (v := V.one (.sc _)) (.inl rfl) rfl) rfl (gle rfl)) rfl ?_
    refine SV.callE hD rfl ⟨_, _, Try.func37, rfl, by decide⟩ (vd_beq) ⟨⟨[.sc _], rfl, ⟨rfl, trivial⟩⟩, trivial⟩ rfl (gle rfl) rfl ?_
    rintro ⟨e, f⟩ ⟨⟨he1, he2⟩, hf1, hf2⟩
    replace he1 : e.fActive.length ≤ 20 := he1
    replace he2 : e.fWaiting.length ≤ 20 := he2
    replace hf1 : f.fActive.length ≤ 20 := hf1
    replace hf2 : f.fWaiting.length ≤ 20 := hf2
    refine SV.op (OpL.ok (nb := 3) (ok_move (v := ⟨true, [(true, [.sc _, .sc _, .hd 6, .hd 7]), (true, [.sc _, .sc _, .hd 8, .hd 9])]⟩) (.inl rfl) rfl) rfl (gle rfl)) rfl ?_
    refine SV.op (OpL.ok (nb := 3) (ok_extract (ag := true) (xs := [.sc _, .sc _, .hd 6, .hd 7]) rfl rfl rfl) rfl (gle rfl)) rfl ?_
    refine SV.op (OpL.ok (nb := 3) (ok_extract (ag := true) (xs := [.sc _, .sc _, .hd 8, .hd 9]) rfl rfl rfl) rfl (gle rfl)) rfl ?_
    refine SV.op (OpMk.ok (ok_alloc (kk := 3) (xs := [.sc _, .sc _, .nl _, .nl _]) rfl rfl zero_impl_Broker ⟨rfl, rfl, rfl, rfl, rfl, ⟨3, by decide, sz_impl_Client⟩, rfl, ⟨3, by decide, sz_impl_Client⟩, trivial⟩ rfl (gle rfl))) rfl ?_
    refine SV.op (OpMk.ok (ok_alloc (kk := 4) (xs := [.sc _, .sc _, .nl _, .nl _]) rfl rfl zero_impl_Broker ⟨rfl, rfl, rfl, rfl, rfl, ⟨3, by decide, sz_impl_Client⟩, rfl, ⟨3, by decide, sz_impl_Client⟩, trivial⟩ rfl (gle rfl))) rfl ?_
    refine SV.op (ok_store_bp (b := 3) (i := 0) (m := 4) (ag := true) (zs := [.sc _, .sc _, .hd 6, .hd 7]) (ys := [.sc _, .sc _, .hd 6, .hd 7]) rfl rfl rfl rfl sz_impl_Broker (fun h => by cases h) rfl (gle rfl) rfl rfl rfl) rfl ?_
    refine SV.op (ok_store_bp (b := 4) (i := 0) (m := 4) (ag := true) (zs := [.sc _, .sc _, .hd 8, .hd 9]) (ys := [.sc _, .sc _, .hd 8, .hd 9]) rfl rfl rfl rfl sz_impl_Broker (fun h => by cases h) rfl (gle rfl) rfl rfl rfl) rfl ?_
    refine SV.nil ?_
    refine SV.tn ?_
    refine SV.seq' ?_
    refine SV.seq' ?_
    refine SV.forget (L := [(0, V.one (.sc _)), (2, V.one (.sc _)), (3, V.one (.bp 0 0)), (5, V.one (.bp 1 0)), (6, V.one (.sc _)), (7, V.one (.bp 2 0)), (8, V.one (.sc _)), (9, V.one (.bp 3 0)), (10, V.one (.bp 4 0))]) (B := [(26, [.sc _, .sc _, .hd 0, .hd 1]), (26, [.sc _, .sc _, .hd 2, .hd 3]), (26, [.sc _, .sc _, .hd 4, .hd 5]), (26, [.sc _, .sc _, .hd 6, .hd 7]), (26, [.sc _, .sc _, .hd 8, .hd 9])]) (O := [(0, _, _), (1, _, _), (2, _, _), (3, _, _), (4, _, _), (5, _, _), (6, _, _), (7, _, _), (8, _, _), (9, _, _)]) (n := 10) ⟨rfl, rfl, rfl, rfl, rfl, rfl, rfl, rfl, rfl, trivial⟩ rfl ⟨rfl, rfl, rfl, rfl, rfl, rfl, rfl, rfl, rfl, rfl, trivial⟩ rfl ?_
    refine SV.draw [.q 0, .q 1, .q 2, .q 3, .q 4, .q 5, .m 6, .q 7, .q 8, .q 9, .q 10, .q 11, .q 13, .q 14, .m 12, .m 15, .q 16, .q 17] [] (by kernel_rfl) (by kernel_rfl) ?_
    refine DW.q rfl (ok_move (v := V.one (.sc _)) (.inl rfl) rfl) rfl rfl (gle rfl) (fun _ _ _ _ h => h) ?_
    refine DW.q rfl (ok_move (v := V.one (.sc _)) (.inl rfl) rfl) rfl rfl (gle rfl) (fun _ _ _ _ h => h) ?_
    refine DW.q rfl (ok_s2 (x := .tmp 37) (x' := .tmp 38) (VScal.one rfl) (VScal.one rfl) (fun ρ h1 h2 w => by go_simp; (try go_bits); with_reducible rfl) rfl) rfl rfl (gle rfl) (fun _ _ _ _ h => h) ?_
    refine DW.q rfl (ok_move (v := V.one (.sc _)) (.inl rfl) rfl) rfl rfl (gle rfl) (fun _ _ _ _ h => h) ?_
    refine DW.split (d := 40) rfl (fun hg0 => ?_) (fun hg0 => ?_)
    · skip   -- g0.T
      (exfalso; first | (simp at hg0; done) | (simp at hg0; omega))
    · skip   -- g0.F
      refine DW.qY rfl (ok_load_bp (b := 1) (i := 0) (ag := true) (m := 4) (ys := [.sc _, .sc _, .hd 2, .hd 3]) rfl rfl rfl agg_impl_Broker sz_impl_Broker (fun h => by cases h) rfl rfl (gle rfl)) rfl rfl rfl (gle rfl) rfl rfl rfl (gle rfl) (fun _ _ _ _ h => h) ?_
      refine DW.qY rfl (ok_load_bp (b := 2) (i := 0) (ag := true) (m := 4) (ys := [.sc _, .sc _, .hd 4, .hd 5]) rfl rfl rfl agg_impl_Broker sz_impl_Broker (fun h => by cases h) rfl rfl (gle rfl)) rfl rfl rfl (gle rfl) rfl rfl rfl (gle rfl) (fun _ _ _ _ h => h) ?_
      refine DW.m' [] rfl (ok_call (ls := [(false, [.sc _])]) rfl rfl ⟨_, _, Try.func25, rfl, by decide⟩ (veqb_s (BrokerD.new pp) (BrokerD.new pp) ⟨by omega, by omega⟩ ⟨by omega, by omega⟩) ⟨⟨[.sc _, .sc _, .hd 2, .hd 3], rfl, ⟨rfl, rfl, rfl, rfl, trivial⟩⟩, ⟨[.sc _, .sc _, .hd 4, .hd 5], rfl, ⟨rfl, rfl, rfl, rfl, trivial⟩⟩, trivial⟩ rfl (gle rfl)) (fun hr => wantedY hr rfl rfl rfl (gle rfl) rfl rfl) (gle rfl) (gle rfl) (.inl rfl) (fun j hj => by cases hj) ?_
      refine DW.qY rfl (ok_s1 (x := .tmp 43) (VScal.one rfl) (fun ρ h1 w => by go_simp; (try go_bits); with_reducible rfl) rfl) rfl rfl rfl (gle rfl) rfl rfl rfl (gle rfl) (fun _ _ _ _ h => h) ?_
      refine DW.q rfl (ok_pickF (v := V.one (.sc _)) rfl rfl rfl) rfl rfl (gle rfl) (fun _ _ _ _ h => h) ?_
      refine DW.q rfl (ok_move (v := V.one (.sc _)) (.inl rfl) rfl) rfl rfl (gle rfl) (fun _ _ _ _ h => h) ?_
      refine DW.split (d := 46) rfl (fun hg1 => ?_) (fun hg1 => ?_)
      · skip   -- g1.T
        (exfalso; first | (simp at hg1; done) | (simp at hg1; omega))
      · skip   -- g1.F
        refine DW.qY rfl (ok_load_bp (b := 3) (i := 0) (ag := true) (m := 4) (ys := [.sc _, .sc _, .hd 6, .hd 7]) rfl rfl rfl agg_impl_Broker sz_impl_Broker (fun h => by cases h) rfl rfl (gle rfl)) rfl rfl rfl (gle rfl) rfl rfl rfl (gle rfl) (fun _ _ _ _ h => h) ?_
        refine DW.qY rfl (ok_load_bp (b := 4) (i := 0) (ag := true) (m := 4) (ys := [.sc _, .sc _, .hd 8, .hd 9]) rfl rfl rfl agg_impl_Broker sz_impl_Broker (fun h => by cases h) rfl rfl (gle rfl)) rfl rfl rfl (gle rfl) rfl rfl rfl (gle rfl) (fun _ _ _ _ h => h) ?_
        refine DW.qY rfl (ok_load_bp (b := 3) (i := 0) (ag := true) (m := 4) (ys := [.sc _, .sc _, .hd 6, .hd 7]) rfl rfl rfl agg_impl_Broker sz_impl_Broker (fun h => by cases h) rfl rfl (gle rfl)) rfl rfl rfl (gle rfl) rfl rfl rfl (gle rfl) (fun _ _ _ _ h => h) ?_
        refine DW.qY rfl (ok_load_bp (b := 4) (i := 0) (ag := true) (m := 4) (ys := [.sc _, .sc _, .hd 8, .hd 9]) rfl rfl rfl agg_impl_Broker sz_impl_Broker (fun h => by cases h) rfl rfl (gle rfl)) rfl rfl rfl (gle rfl) rfl rfl rfl (gle rfl) (fun _ _ _ _ h => h) ?_
        refine DW.m' [] rfl (ok_call (ls := [(false, [.sc _])]) rfl rfl ⟨_, _, Try.func38, rfl, by decide⟩ (ieq e f ⟨by omega, by omega⟩ ⟨by omega, by omega⟩) ⟨⟨[.sc _, .sc _, .hd 6, .hd 7], rfl, ⟨rfl, rfl, rfl, rfl, trivial⟩⟩, ⟨[.sc _, .sc _, .hd 8, .hd 9], rfl, ⟨rfl, rfl, rfl, rfl, trivial⟩⟩, trivial⟩ rfl (gle rfl)) (fun hr => wantedY hr rfl rfl rfl (gle rfl) rfl rfl) (gle rfl) (gle rfl) (.inl rfl) (fun j hj => by cases hj) ?_
        refine DW.m' [] rfl (ok_call (ls := [(false, [.sc _])]) rfl rfl ⟨_, _, Try.func25, rfl, by decide⟩ (veqb_s e f ⟨by omega, by omega⟩ ⟨by omega, by omega⟩) ⟨⟨[.sc _, .sc _, .hd 6, .hd 7], rfl, ⟨rfl, rfl, rfl, rfl, trivial⟩⟩, ⟨[.sc _, .sc _, .hd 8, .hd 9], rfl, ⟨rfl, rfl, rfl, rfl, trivial⟩⟩, trivial⟩ rfl (gle rfl)) (fun hr => wantedY hr rfl rfl rfl (gle rfl) rfl rfl) (gle rfl) (gle rfl) (.inl rfl) (fun j hj => by cases hj) ?_
        refine DW.qY rfl (ok_s2 (x := .tmp 49) (x' := .tmp 52) (VScal.one rfl) (VScal.one rfl) (fun ρ h1 h2 w => by go_simp; (try go_bits); with_reducible rfl) rfl) rfl rfl rfl (gle rfl) rfl rfl rfl (gle rfl) (fun _ _ _ _ h => h) ?_
        refine DW.q rfl (ok_pickF (v := V.one (.sc _)) rfl rfl rfl) rfl rfl (gle rfl) (fun _ _ _ _ h => h) ?_
        refine DW.stores ?_
        refine SV.zend ?_
        refine SV.tn ?_
        refine SV.cond rfl (fun hc1 => ?_) (fun hc1 => ?_)
        · skip   -- c1.T
          (exfalso; first | (simp at hc1; done) | (simp at hc1; omega))
        · skip   -- c1.F
          refine SV.skip ?_
          refine SV.tn ?_
          refine SV.seq' ?_
          refine SV.seq' ?_
          refine SV.forget (L := [(0, V.one (.sc _)), (2, V.one (.sc _)), (3, V.one (.bp 0 0))]) (B := [(26, [.sc _, .sc _, .hd 0, .hd 1]), (26, [.sc _, .sc _, .hd 2, .hd 3]), (26, [.sc _, .sc _, .hd 4, .hd 5]), (26, [.sc _, .sc _, .hd 6, .hd 7]), (26, [.sc _, .sc _, .hd 8, .hd 9])]) (O := [(0, _, _), (1, _, _), (2, _, _), (3, _, _), (4, _, _), (5, _, _), (6, _, _), (7, _, _), (8, _, _), (9, _, _)]) (n := 10) ⟨rfl, rfl, rfl, trivial⟩ rfl ⟨rfl, rfl, rfl, rfl, rfl, rfl, rfl, rfl, rfl, rfl, trivial⟩ rfl ?_
          refine SV.region ?_
          refine SV.op (OpL.ok (nb := 5) (ok_load_bp (b := 0) (i := 0) (ag := true) (m := 4) (ys := [.sc _, .sc _, .hd 0, .hd 1]) rfl rfl rfl agg_impl_Broker sz_impl_Broker (fun h => by cases h) rfl rfl (gle rfl)) rfl (gle rfl)) rfl ?_
          refine SV.op (OpMk.ok (ok_call (ls := [(false, [.sc _])]) rfl rfl ⟨_, _, Try.func20, rfl, by decide⟩ (vokb_s b (by omega) (by omega)) ⟨⟨[.sc _, .sc _, .hd 0, .hd 1], rfl, ⟨rfl, rfl, rfl, rfl, trivial⟩⟩, trivial⟩ rfl (gle rfl))) rfl ?_
          refine SV.op (OpL.ok (nb := 5) (ok_s1 (x := .tmp 56) (VScal.one rfl) (fun ρ h1 w => by go_simp; (try go_bits); with_reducible rfl) rfl) rfl (gle rfl)) rfl ?_
          refine SV.nil ?_
          refine SV.tn ?_
          refine SV.cond rfl (fun hc2 => ?_) (fun hc2 => ?_)
          · skip   -- c2.T
            have hok : BrokerD.ok b = false := by simpa using hc2
            refine SV.seq' ?_
            refine SV.forget (L := [(0, V.one (.sc _)), (2, V.one (.sc _)), (3, V.one (.bp 0 0))]) (B := [(26, [.sc _, .sc _, .hd 0, .hd 1]), (26, [.sc _, .sc _, .hd 2, .hd 3]), (26, [.sc _, .sc _, .hd 4, .hd 5]), (26, [.sc _, .sc _, .hd 6, .hd 7]), (26, [.sc _, .sc _, .hd 8, .hd 9])]) (O := [(0, _, _), (1, _, _), (2, _, _), (3, _, _), (4, _, _), (5, _, _), (6, _, _), (7, _, _), (8, _, _), (9, _, _)]) (n := 10) ⟨rfl, rfl, rfl, trivial⟩ rfl ⟨rfl, rfl, rfl, rfl, rfl, rfl, rfl, rfl, rfl, rfl, trivial⟩ rfl ?_
            refine SV.region ?_
            refine SV.op (OpL.ok (nb := 5) (ok_load_bp (b := 0) (i := 0) (ag := true) (m := 4) (ys := [.sc _, .sc _, .hd 0, .hd 1]) rfl rfl rfl agg_impl_Broker sz_impl_Broker (fun h => by cases h) rfl rfl (gle rfl)) rfl (gle rfl)) rfl ?_
            refine SV.op (OpMk.ok (ok_call (ls := [(false, [.sc _])]) rfl rfl ⟨_, _, Try.func19, rfl, by decide⟩ (iok b (by omega) (by omega)) ⟨⟨[.sc _, .sc _, .hd 0, .hd 1], rfl, ⟨rfl, rfl, rfl, rfl, trivial⟩⟩, trivial⟩ rfl (gle rfl))) rfl ?_
            refine SV.op (OpL.ok (nb := 5) (ok_s1 (x := .tmp 59) (VScal.one rfl) (fun ρ h1 w => by go_simp; (try go_bits); with_reducible rfl) rfl) rfl (gle rfl)) rfl ?_
            refine SV.op (OpL.ok (nb := 5) (ok_move (v := V.one (.sc _)) (.inr rfl) rfl) rfl (gle rfl)) rfl ?_
            refine SV.nil ?_
            refine SV.tn ?_
            refine SV.ret ?_
            refine SV.tr ?_
            apply SV.done (hf := Try.results5) (ht := rfl) (he := .inl rfl)
            case hr => exact (ResAll.cons (ResOk.tmp (ag := false) (xs := [.sc _]) rfl) ResAll.nil')
            case h2 => simp [two]
            refine ⟨rfl, ⟨?_, trivial⟩, trivial⟩ <;> first | rfl | ((show some (T.lit (Value.bool _)) = some (T.lit (Value.bool _)); refine congrArg (fun z => some (T.lit (Value.bool z))) ?_; first | (simp [hok]; done) | (simp; exact List.length_eq_zero_iff.1 (by omega)) | (simp; omega)))
          · skip   -- c2.F
            have hok : BrokerD.ok b = true := by simpa using hc2
            refine SV.skip ?_
            refine SV.tn ?_
            refine SV.seq' ?_
            refine SV.forget (L := [(0, V.one (.sc _)), (2, V.one (.sc _)), (3, V.one (.bp 0 0))]) (B := [(26, [.sc _, .sc _, .hd 0, .hd 1]), (26, [.sc _, .sc _, .hd 2, .hd 3]), (26, [.sc _, .sc _, .hd 4, .hd 5]), (26, [.sc _, .sc _, .hd 6, .hd 7]), (26, [.sc _, .sc _, .hd 8, .hd 9])]) (O := [(0, _, _), (1, _, _), (2, _, _), (3, _, _), (4, _, _), (5, _, _), (6, _, _), (7, _, _), (8, _, _), (9, _, _)]) (n := 10) ⟨rfl, rfl, rfl, trivial⟩ rfl ⟨rfl, rfl, rfl, rfl, rfl, rfl, rfl, rfl, rfl, rfl, trivial⟩ rfl ?_
            refine SV.region ?_
            refine SV.op (OpL.ok (nb := 5) (ok_field_bp (b := 0) (o' := 0) (off := 2) rfl rfl fld_impl_Broker_2) rfl (gle rfl)) rfl ?_
            refine SV.op (OpL.ok (nb := 5) (ok_load_bp (b := 0) (i := 2) (ag := false) (m := 1) (ys := [.hd 0]) rfl rfl rfl agg_s_impl_Client sz_s_impl_Client (fun _ => rfl) rfl rfl (gle rfl)) rfl (gle rfl)) rfl ?_
            refine SV.op (OpL.ok (nb := 5) (ok_len (lf := .hd 0) rfl elt_impl_Client.und rfl rfl) rfl (gle rfl)) rfl ?_
            refine SV.op (OpL.ok (nb := 5) (ok_field_bp (b := 0) (o' := 0) (off := 3) rfl rfl fld_impl_Broker_3) rfl (gle rfl)) rfl ?_
            refine SV.op (OpL.ok (nb := 5) (ok_load_bp (b := 0) (i := 3) (ag := false) (m := 1) (ys := [.hd 1]) rfl rfl rfl agg_s_impl_Client sz_s_impl_Client (fun _ => rfl) rfl rfl (gle rfl)) rfl (gle rfl)) rfl ?_
            refine SV.op (OpL.ok (nb := 5) (ok_len (lf := .hd 1) rfl elt_impl_Client.und rfl rfl) rfl (gle rfl)) rfl ?_
            refine SV.op (OpL.ok (nb := 5) (ok_s2 (v := .int .i64 ((b.fActive.length : Int) + (b.fWaiting.length : Int))) (x := .tmp 63) (x' := .tmp 66) (VScal.one rfl) (VScal.one rfl) (fun ρ h1 h2 w => by go_simp; rw [IntWalk.i64_left, IntWalk.wrap64_in _ ⟨by omega, by omega⟩]) rfl) rfl (gle rfl)) rfl ?_
            refine SV.op (OpL.ok (nb := 5) (ok_move (v := V.one (.sc _)) (.inr rfl) rfl) rfl (gle rfl)) rfl ?_
            refine SV.nil ?_
            refine SV.tn ?_
            refine SV.seq' ?_
            refine SV.forget (L := [(0, V.one (.sc _)), (2, V.one (.sc _)), (3, V.one (.bp 0 0)), (11, V.one (.sc _))]) (B := [(26, [.sc _, .sc _, .hd 0, .hd 1]), (26, [.sc _, .sc _, .hd 2, .hd 3]), (26, [.sc _, .sc _, .hd 4, .hd 5]), (26, [.sc _, .sc _, .hd 6, .hd 7]), (26, [.sc _, .sc _, .hd 8, .hd 9])]) (O := [(0, _, _), (1, _, _), (2, _, _), (3, _, _), (4, _, _), (5, _, _), (6, _, _), (7, _, _), (8, _, _), (9, _, _)]) (n := 10) ⟨rfl, rfl, rfl, rfl, trivial⟩ rfl ⟨rfl, rfl, rfl, rfl, rfl, rfl, rfl, rfl, rfl, rfl, trivial⟩ rfl ?_
            refine SV.region ?_
            refine SV.op (OpL.ok (nb := 5) (ok_load_bp (b := 0) (i := 0) (ag := true) (m := 4) (ys := [.sc _, .sc _, .hd 0, .hd 1]) rfl rfl rfl agg_impl_Broker sz_impl_Broker (fun h => by cases h) rfl rfl (gle rfl)) rfl (gle rfl)) rfl ?_
            refine SV.op (OpMk.ok (ok_alloc (kk := 5) (xs := [.sc _, .sc _, .nl _, .nl _]) rfl rfl zero_impl_Broker ⟨rfl, rfl, rfl, rfl, rfl, ⟨3, by decide, sz_impl_Client⟩, rfl, ⟨3, by decide, sz_impl_Client⟩, trivial⟩ rfl (gle rfl))) rfl ?_
            refine SV.op (ok_store_bp (b := 5) (i := 0) (m := 4) (ag := true) (zs := [.sc _, .sc _, .hd 0, .hd 1]) (ys := [.sc _, .sc _, .hd 0, .hd 1]) rfl rfl rfl rfl sz_impl_Broker (fun h => by cases h) rfl (gle rfl) rfl rfl rfl) rfl ?_
            refine SV.nil ?_
            refine SV.tn ?_
            refine SV.seq' ?_
            refine SV.seq' ?_
            refine SV.forget (L := [(0, V.one (.sc _)), (2, V.one (.sc _)), (11, V.one (.sc _)), (12, V.one (.bp 5 0))]) (B := [(26, [.sc _, .sc _, .hd 0, .hd 1]), (26, [.sc _, .sc _, .hd 2, .hd 3]), (26, [.sc _, .sc _, .hd 4, .hd 5]), (26, [.sc _, .sc _, .hd 6, .hd 7]), (26, [.sc _, .sc _, .hd 8, .hd 9]), (26, [.sc _, .sc _, .hd 0, .hd 1])]) (O := [(0, _, _), (1, _, _), (2, _, _), (3, _, _), (4, _, _), (5, _, _), (6, _, _), (7, _, _), (8, _, _), (9, _, _)]) (n := 10) ⟨rfl, rfl, rfl, rfl, trivial⟩ rfl ⟨rfl, rfl, rfl, rfl, rfl, rfl, rfl, rfl, rfl, rfl, trivial⟩ rfl ?_
            refine SV.region ?_
            refine SV.op (OpL.ok (nb := 6) (ok_move (v := V.one (.sc _)) (.inr rfl) rfl) rfl (gle rfl)) rfl ?_
            refine SV.nil ?_
            refine SV.tn ?_
            refine SV.block ?_
            refine SV.loopF (X := Nat × BrokerD) (fun (σ : VS) z => (((((((((((((VS.nil.new (.seq 35 (z.2.fActive.map tClient))).new (.seq 35 (z.2.fWaiting.map tClient))).box 26 [.dead, .dead, .dead, .dead]).box 26 [.dead, .dead, .dead, .dead]).box 26 [.dead, .dead, .dead, .dead]).box 26 [.dead, .dead, .dead, .dead]).box 26 [.dead, .dead, .dead, .dead]).box 26 [.sc (.int .i64 (z.2.fPool)), .sc (.int .i64 (z.2.fNextID)), .hd 0, .hd 1]).put 0 (σ.tm 0)).put 2 (σ.tm 2)).put 11 (V.flat false [.sc (.int .i64 (((b.fActive.length : Int) + (b.fWaiting.length : Int))))])).put 12 (V.flat false [.bp 5 0])).put 13 (V.flat false [.sc (.int .i64 ((z.1 : Int)))]))) (fun z => BrokerD.ok z.2 = true ∧ z.2.fActive.length + z.2.fWaiting.length + z.1 = (b.fActive.length + b.fWaiting.length)) (fun z => (b.fActive.length + b.fWaiting.length) - z.1) ?_ ?_
            · skip
              refine SV.again (fun i => [0, 1].getD i 0) (0, b) (⟨hok, by show b.fActive.length + b.fWaiting.length + 0 = _; omega⟩) (pins hE rfl rfl) (VS.le.mk' (le_put (le_put (le_put (le_put (le_put (le_box (le_box (le_box (le_box (le_box (le_box (le_new (le_new le_nil)))))))) (V.le.keep (ag := false) (xs := [.sc _]) (ys := [.sc _]) rfl rfl ⟨rfl, trivial⟩)) (V.le.keep (ag := false) (xs := [.sc _]) (ys := [.sc _]) rfl rfl ⟨rfl, trivial⟩)) (V.le.keep (ag := false) (xs := [.sc _]) (ys := [.sc _]) rfl rfl ⟨(by first | rfl | (show Leaf.sc _ = Leaf.sc _; refine congrArg Leaf.sc ?_; first | rfl | go_num | (simp [cntAll]; done)) | (simp [cntAll]; done) | (simp; omega)), trivial⟩)) (V.le.keep (ag := false) (xs := [.bp 5 0]) (ys := [.bp 5 0]) rfl rfl ⟨⟨rfl, (gle rfl)⟩, trivial⟩)) (V.le.keep (ag := false) (xs := [.sc _]) (ys := [.sc _]) rfl rfl ⟨(by first | rfl | (show Leaf.sc _ = Leaf.sc _; refine congrArg Leaf.sc ?_; first | rfl | go_num | (simp [cntAll]; done)) | (simp [cntAll]; done) | (simp; omega)), trivial⟩)) ⟨⟨rfl, ⟨trivial, trivial, trivial, trivial, trivial⟩⟩, ⟨⟨rfl, ⟨trivial, trivial, trivial, trivial, trivial⟩⟩, ⟨⟨rfl, ⟨trivial, trivial, trivial, trivial, trivial⟩⟩, ⟨⟨rfl, ⟨trivial, trivial, trivial, trivial, trivial⟩⟩, ⟨⟨rfl, ⟨trivial, trivial, trivial, trivial, trivial⟩⟩, ⟨⟨rfl, ⟨(by first | rfl | (show Leaf.sc _ = Leaf.sc _; refine congrArg Leaf.sc ?_; first | rfl | go_num | (simp [cntAll]; done)) | (simp [cntAll]; done) | (simp; omega)), (by first | rfl | (show Leaf.sc _ = Leaf.sc _; refine congrArg Leaf.sc ?_; first | rfl | go_num | (simp [cntAll]; done)) | (simp [cntAll]; done) | (simp; omega)), ⟨rfl, (gle rfl), (gle rfl)⟩, ⟨rfl, (gle rfl), (gle rfl)⟩, trivial⟩⟩, trivial⟩⟩⟩⟩⟩⟩ ⟨.inr ⟨_, _, rfl, ?ob1_1, (gle rfl)⟩, ⟨.inr ⟨_, _, rfl, ?ob1_0, (gle rfl)⟩, trivial⟩⟩ (new_ob (new_ob nil_ob)) (fun i j hi hj e => inj_list (l := [0, 1]) (by decide) i j hi hj e))
              case ob1_0 =>
                show some (T.seq _ _) = some (T.seq _ _)
                first | rfl | exact congrArg some (congrArg (T.seq _) (by simp))
              case ob1_1 =>
                show some (T.seq _ _) = some (T.seq _ _)
                first | rfl | exact congrArg some (congrArg (T.seq _) (by simp))
            · rintro ⟨t, x⟩ ⟨hox, htx⟩
              dsimp only at hox htx
              refine SV.seq' ?_
              refine SV.seq' ?_
              refine SV.region ?_
              refine SV.op (OpL.ok (nb := 6) (ok_move (v := V.one (.sc _)) (.inl rfl) rfl) rfl (gle rfl)) rfl ?_
              refine SV.op (OpL.ok (nb := 6) (ok_move (v := V.one (.sc _)) (.inl rfl) rfl) rfl (gle rfl)) rfl ?_
              refine SV.op (OpL.ok (nb := 6) (ok_s2 (x := .tmp 69) (x' := .tmp 70) (VScal.one rfl) (VScal.one rfl) (fun ρ h1 h2 w => by go_simp; (try go_bits); with_reducible rfl) rfl) rfl (gle rfl)) rfl ?_
              refine SV.nil ?_
              refine SV.tn ?_
              refine SV.cond rfl (fun hc3 => ?_) (fun hc3 => ?_)
              · skip   -- c3.T
                have htl : t < (b.fActive.length + b.fWaiting.length) := by simp at hc3; omega
                have hact := (BrokerD.Ok.of hox).active (by unfold BrokerD.total; omega)
                have hrg := atV_range hD.1 t
                obtain ⟨m, hm⟩ : ∃ m : Nat, atV zs len t = (m : Int) := ⟨(atV zs len t).toNat, by omega⟩
                obtain ⟨k, hkk⟩ : ∃ k, m % x.fActive.length = k := ⟨_, rfl⟩
                have hkl : k < x.fActive.length := by rw [← hkk]; exact Nat.mod_lt _ hact
                have hne : ¬ x.fActive = [] := fun e => by rw [e] at hact; simp at hact
                have htm : ((m : Int)).tmod (x.fActive.length : Int) = (k : Int) := by rw [← hkk]; exact (Int.ofNat_tmod _ _).symm
                obtain ⟨c, hcx⟩ : ∃ c, x.fActive[k]? = some c := ⟨_, List.getElem?_eq_getElem hkl⟩
                obtain ⟨z', hz1, hoz, hz3⟩ := BrokerD.live_step hox hcx
                have h92 := irem x c.fID (by omega) (by omega)
                rw [hz1] at h92
                simp only [Option.getD_some, Option.isSome_some] at h92
                refine SV.skip ?_
                refine SV.tn ?_
                refine SV.seq' ?_
                refine SV.block ?_
                refine SV.seq' ?_
                refine SV.seq' ?_
                refine SV.region ?_
                refine SV.op (OpL.ok (nb := 6) (ok_field_bp (b := 5) (o' := 0) (off := 2) rfl rfl fld_impl_Broker_2) rfl (gle rfl)) rfl ?_
                refine SV.op (OpL.ok (nb := 6) (ok_load_bp (b := 5) (i := 2) (ag := false) (m := 1) (ys := [.hd 0]) rfl rfl rfl agg_s_impl_Client sz_s_impl_Client (fun _ => rfl) rfl rfl (gle rfl)) rfl (gle rfl)) rfl ?_
                refine SV.op (OpL.ok (nb := 6) (ok_len (lf := .hd 0) rfl elt_impl_Client.und rfl rfl) rfl (gle rfl)) rfl ?_
                refine SV.op (OpL.ok (nb := 6) (ok_s2 (x := .tmp 76) (x' := .const ((Value.int IntKind.i64 0))) (VScal.one rfl) (VScal.one rfl) (fun ρ h1 h2 w => by go_simp; (try go_bits); with_reducible rfl) rfl) rfl (gle rfl)) rfl ?_
                refine SV.nil ?_
                refine SV.tn ?_
                refine SV.cond rfl (fun hc4 => ?_) (fun hc4 => ?_)
                · skip   -- c4.T
                  (exfalso; first | (simp at hc4; done) | (simp at hc4; rw [hc4] at hact; simp at hact; done) | (have h0 := of_decide_eq_true hc4; omega))
                · skip   -- c4.F
                  refine SV.skip ?_
                  refine SV.tn ?_
                  refine SV.seq' ?_
                  apply SV.shared
                  case k =>
                    intro hjn
                    refine SV.drawCT [] (.q 0 (.q 1 (.q 2 (.q 3 (.q 4 (.q 6 (.q 7 (.q 8 (.alt 5 (.q 9 (.q 10 (.q 11 (.q 12 (.alt 13 (.q 14 (.q 15 (.q 16 (.m 17 (.m 18 (.q 19 .nil)))))) 17 (.m 13 (.q 14 (.q 15 (.q 16 (.m 18 (.q 19 .nil))))))))))) 17 (.m 5 (.q 9 (.q 10 (.q 11 (.q 12 (.m 13 (.q 14 (.q 15 (.q 16 (.m 18 (.q 19 .nil)))))))))))))))))))) [] (by kernel_rfl) (by kernel_rfl) ?_
                    refine DC.lb (b := 5) (i' := 0) (ag := true) (m := 4) (ys := [.sc _, .sc _, .hd 0, .hd 1]) rfl rfl rfl rfl agg_impl_Broker sz_impl_Broker (fun h => by cases h) rfl rfl (gle rfl) (by decide) rfl rfl (gle rfl) (fun _ _ _ _ h => h) ?_
                    refine DC.q rfl (ok_field_bp (b := 5) (o' := 0) (off := 2) rfl rfl fld_impl_Broker_2) rfl rfl (gle rfl) (fun _ _ _ _ h => h) ?_
                    refine DC.lb (b := 5) (i' := 2) (ag := false) (m := 1) (ys := [.hd 0]) rfl rfl rfl rfl agg_s_impl_Client sz_s_impl_Client (fun _ => rfl) rfl rfl (gle rfl) (by decide) rfl rfl (gle rfl) (fun _ _ _ _ h => h) ?_
                    refine DC.q rfl (ok_move (v := V.one (.sc _)) (.inl rfl) rfl) rfl rfl (gle rfl) (fun _ _ _ _ h => h) ?_
                    refine DC.q rfl (ok_move (v := V.one (.sc _)) (.inl rfl) rfl) rfl rfl (gle rfl) (fun _ _ _ _ h => h) ?_
                    refine DC.q rfl (ok_field_bp (b := 5) (o' := 0) (off := 2) rfl rfl fld_impl_Broker_2) rfl rfl (gle rfl) (fun _ _ _ _ h => h) ?_
                    refine DC.lb (b := 5) (i' := 2) (ag := false) (m := 1) (ys := [.hd 0]) rfl rfl rfl rfl agg_s_impl_Client sz_s_impl_Client (fun _ => rfl) rfl rfl (gle rfl) (by decide) rfl rfl (gle rfl) (fun _ _ _ _ h => h) ?_
                    refine DC.q rfl (ok_len (lf := .hd 0) rfl elt_impl_Client.und rfl rfl) rfl rfl (gle rfl) (fun _ _ _ _ h => h) ?_
                    refine DC.alt ?_ ?_
                    · skip   -- first 5
                      refine DC.m rfl (ok_callP (ls := [(false, [.sc _])]) hD rfl rfl ⟨_, _, Try.func39, rfl, by decide⟩ (vat_code t (by omega)) ⟨⟨[.sc _], rfl, ⟨rfl, trivial⟩⟩, ⟨[.sc _], rfl, ⟨rfl, trivial⟩⟩, trivial⟩ rfl (gle rfl)) rfl rfl (gle rfl) ?_
                      refine DC.q rfl (ok_s2 (v := .int .i64 ((k : Nat) : Int)) (x := .tmp 84) (x' := .tmp 87) (VScal.one rfl) (VScal.one rfl) (fun ρ h1 h2 w => by go_simp; (try rw [hm]); (try rw [if_neg hne]); (try rw [htm])) rfl) rfl rfl (gle rfl) (fun _ _ _ _ h => h) ?_
                      refine DC.q rfl (ok_index (n := 3) (lf := .hd 0) rfl elt_impl_Client.und sz_impl_Client rfl rfl rfl (map_at hcx)) rfl rfl (gle rfl) (fun _ _ _ _ h => h) ?_
                      refine DC.q rfl (ok_field_el (p := .ep 0 _ _ _) (off := 0) rfl rfl (cells_ep rfl (map_at hcx) rfl rfl) fld_impl_Client_0) rfl rfl (gle rfl) (fun _ _ _ _ h => h) ?_
                      refine DC.el (ag := false) (m := 1) (ys := [.sc _]) rfl rfl rfl ⟨(gle rfl), rfl⟩ (cells_ep rfl (map_at hcx) rfl rfl) agg_int sz_int (fun _ => rfl) (gle rfl) rfl rfl rfl (gle rfl) (fun _ _ _ _ h => h) ?_
                      refine DC.alt ?_ ?_
                      · skip   -- first 13
                        refine DC.m rfl (ok_call (ls := [(true, [.sc _, .sc _, .hd 2, .hd 3]), (false, [.sc _])]) rfl rfl ⟨_, _, Try.func27, rfl, by decide⟩ (h92) ⟨⟨[.sc _, .sc _, .hd 0, .hd 1], rfl, ⟨rfl, rfl, rfl, rfl, trivial⟩⟩, ⟨[.sc _], rfl, ⟨rfl, trivial⟩⟩, trivial⟩ rfl (gle rfl)) rfl rfl (gle rfl) ?_
                        refine DC.q rfl (ok_move (v := ⟨true, [(true, [.sc _, .sc _, .hd 2, .hd 3]), (false, [.sc _])]⟩) (.inl rfl) rfl) rfl rfl (gle rfl) (fun _ _ _ _ h => h) ?_
                        refine DC.q rfl (ok_extract (ag := true) (xs := [.sc _, .sc _, .hd 2, .hd 3]) rfl rfl rfl) rfl rfl (gle rfl) (fun _ _ _ _ h => h) ?_
                        refine DC.q rfl (ok_extract (ag := false) (xs := [.sc _]) rfl rfl rfl) rfl rfl (gle rfl) (fun _ _ _ _ h => h) ?_
                        refine DC.alloc (kk := 6) (xs := [.sc _, .sc _, .nl _, .nl _]) rfl rfl rfl zero_impl_Broker ⟨rfl, rfl, rfl, rfl, rfl, ⟨3, by decide, sz_impl_Client⟩, rfl, ⟨3, by decide, sz_impl_Client⟩, trivial⟩ rfl (gle rfl) rfl ?_
                        refine DC.storeN (b := 6) (i' := 0) (m := 4) (ag := true) (zs1 := [.sc _, .sc _, .hd 2, .hd 3]) (ys := [.sc _, .sc _, .hd 2, .hd 3]) rfl rfl rfl rfl sz_impl_Broker (fun h => by cases h) rfl (gle rfl) rfl rfl rfl rfl (gle rfl) rfl ?_
                        refine DC.q rfl (ok_move (v := V.one (.sc _)) (.inr rfl) rfl) rfl rfl (gle rfl) (fun _ _ _ _ h => h) ?_
                        refine DC.stores ?_
                        refine SV.zend ?_
                        exact hjn
                      · skip   -- first 17
                        refine DC.alloc (kk := 6) (xs := [.sc _, .sc _, .nl _, .nl _]) rfl rfl rfl zero_impl_Broker ⟨rfl, rfl, rfl, rfl, rfl, ⟨3, by decide, sz_impl_Client⟩, rfl, ⟨3, by decide, sz_impl_Client⟩, trivial⟩ rfl (gle rfl) rfl ?_
                        refine DC.m rfl (ok_call (ls := [(true, [.sc _, .sc _, .hd 2, .hd 3]), (false, [.sc _])]) rfl rfl ⟨_, _, Try.func27, rfl, by decide⟩ (h92) ⟨⟨[.sc _, .sc _, .hd 0, .hd 1], rfl, ⟨rfl, rfl, rfl, rfl, trivial⟩⟩, ⟨[.sc _], rfl, ⟨rfl, trivial⟩⟩, trivial⟩ rfl (gle rfl)) rfl rfl (gle rfl) ?_
                        refine DC.q rfl (ok_move (v := ⟨true, [(true, [.sc _, .sc _, .hd 2, .hd 3]), (false, [.sc _])]⟩) (.inl rfl) rfl) rfl rfl (gle rfl) (fun _ _ _ _ h => h) ?_
                        refine DC.q rfl (ok_extract (ag := true) (xs := [.sc _, .sc _, .hd 2, .hd 3]) rfl rfl rfl) rfl rfl (gle rfl) (fun _ _ _ _ h => h) ?_
                        refine DC.q rfl (ok_extract (ag := false) (xs := [.sc _]) rfl rfl rfl) rfl rfl (gle rfl) (fun _ _ _ _ h => h) ?_
                        refine DC.storeN (b := 6) (i' := 0) (m := 4) (ag := true) (zs1 := [.sc _, .sc _, .hd 2, .hd 3]) (ys := [.sc _, .sc _, .hd 2, .hd 3]) rfl rfl rfl rfl sz_impl_Broker (fun h => by cases h) rfl (gle rfl) rfl rfl rfl rfl (gle rfl) rfl ?_
                        refine DC.q rfl (ok_move (v := V.one (.sc _)) (.inr rfl) rfl) rfl rfl (gle rfl) (fun _ _ _ _ h => h) ?_
                        refine DC.stores ?_
                        refine SV.zend ?_
                        refine hjn.eqv (fun s => ?_) rfl rfl rfl
                        by_cases h79 : s = 79
                        · subst h79; rfl
                        by_cases h80 : s = 80
                        · subst h80; rfl
                        by_cases h81 : s = 81
                        · subst h81; rfl
                        by_cases h82 : s = 82
                        · subst h82; rfl
                        by_cases h83 : s = 83
                        · subst h83; rfl
                        by_cases h84 : s = 84
                        · subst h84; rfl
                        by_cases h85 : s = 85
                        · subst h85; rfl
                        by_cases h86 : s = 86
                        · subst h86; rfl
                        by_cases h87 : s = 87
                        · subst h87; rfl
                        by_cases h88 : s = 88
                        · subst h88; rfl
                        by_cases h89 : s = 89
                        · subst h89; rfl
                        by_cases h90 : s = 90
                        · subst h90; rfl
                        by_cases h91 : s = 91
                        · subst h91; rfl
                        by_cases h92 : s = 92
                        · subst h92; rfl
                        by_cases h78 : s = 78
                        · subst h78; rfl
                        by_cases h93 : s = 93
                        · subst h93; rfl
                        by_cases h94 : s = 94
                        · subst h94; rfl
                        by_cases h14 : s = 14
                        · subst h14; rfl
                        by_cases h15 : s = 15
                        · subst h15; rfl
                        simp only [ansSs_tm, VS.put, VS.box, VS.setb, cond_false, nbne h79, nbne h80, nbne h81, nbne h82, nbne h83, nbne h84, nbne h85, nbne h86, nbne h87, nbne h88, nbne h89, nbne h90, nbne h91, nbne h92, nbne h78, nbne h93, nbne h94, nbne h14, nbne h15]
                    · skip   -- first 17
                      refine DC.alloc (kk := 6) (xs := [.sc _, .sc _, .nl _, .nl _]) rfl rfl rfl zero_impl_Broker ⟨rfl, rfl, rfl, rfl, rfl, ⟨3, by decide, sz_impl_Client⟩, rfl, ⟨3, by decide, sz_impl_Client⟩, trivial⟩ rfl (gle rfl) rfl ?_
                      refine DC.m rfl (ok_callP (ls := [(false, [.sc _])]) hD rfl rfl ⟨_, _, Try.func39, rfl, by decide⟩ (vat_code t (by omega)) ⟨⟨[.sc _], rfl, ⟨rfl, trivial⟩⟩, ⟨[.sc _], rfl, ⟨rfl, trivial⟩⟩, trivial⟩ rfl (gle rfl)) rfl rfl (gle rfl) ?_
                      refine DC.q rfl (ok_s2 (v := .int .i64 ((k : Nat) : Int)) (x := .tmp 84) (x' := .tmp 87) (VScal.one rfl) (VScal.one rfl) (fun ρ h1 h2 w => by go_simp; (try rw [hm]); (try rw [if_neg hne]); (try rw [htm])) rfl) rfl rfl (gle rfl) (fun _ _ _ _ h => h) ?_
                      refine DC.q rfl (ok_index (n := 3) (lf := .hd 0) rfl elt_impl_Client.und sz_impl_Client rfl rfl rfl (map_at hcx)) rfl rfl (gle rfl) (fun _ _ _ _ h => h) ?_
                      refine DC.q rfl (ok_field_el (p := .ep 0 _ _ _) (off := 0) rfl rfl (cells_ep rfl (map_at hcx) rfl rfl) fld_impl_Client_0) rfl rfl (gle rfl) (fun _ _ _ _ h => h) ?_
                      refine DC.el (ag := false) (m := 1) (ys := [.sc _]) rfl rfl rfl ⟨(gle rfl), rfl⟩ (cells_ep rfl (map_at hcx) rfl rfl) agg_int sz_int (fun _ => rfl) (gle rfl) rfl rfl rfl (gle rfl) (fun _ _ _ _ h => h) ?_
                      refine DC.m rfl (ok_call (ls := [(true, [.sc _, .sc _, .hd 2, .hd 3]), (false, [.sc _])]) rfl rfl ⟨_, _, Try.func27, rfl, by decide⟩ (h92) ⟨⟨[.sc _, .sc _, .hd 0, .hd 1], rfl, ⟨rfl, rfl, rfl, rfl, trivial⟩⟩, ⟨[.sc _], rfl, ⟨rfl, trivial⟩⟩, trivial⟩ rfl (gle rfl)) rfl rfl (gle rfl) ?_
                      refine DC.q rfl (ok_move (v := ⟨true, [(true, [.sc _, .sc _, .hd 2, .hd 3]), (false, [.sc _])]⟩) (.inl rfl) rfl) rfl rfl (gle rfl) (fun _ _ _ _ h => h) ?_
                      refine DC.q rfl (ok_extract (ag := true) (xs := [.sc _, .sc _, .hd 2, .hd 3]) rfl rfl rfl) rfl rfl (gle rfl) (fun _ _ _ _ h => h) ?_
                      refine DC.q rfl (ok_extract (ag := false) (xs := [.sc _]) rfl rfl rfl) rfl rfl (gle rfl) (fun _ _ _ _ h => h) ?_
                      refine DC.storeN (b := 6) (i' := 0) (m := 4) (ag := true) (zs1 := [.sc _, .sc _, .hd 2, .hd 3]) (ys := [.sc _, .sc _, .hd 2, .hd 3]) rfl rfl rfl rfl sz_impl_Broker (fun h => by cases h) rfl (gle rfl) rfl rfl rfl rfl (gle rfl) rfl ?_
                      refine DC.q rfl (ok_move (v := V.one (.sc _)) (.inr rfl) rfl) rfl rfl (gle rfl) (fun _ _ _ _ h => h) ?_
                      refine DC.stores ?_
                      refine SV.zend ?_
                      refine hjn.eqv (fun s => ?_) rfl rfl rfl
                      by_cases h79 : s = 79
                      · subst h79; rfl
                      by_cases h80 : s = 80
                      · subst h80; rfl
                      by_cases h81 : s = 81
                      · subst h81; rfl
                      by_cases h82 : s = 82
                      · subst h82; rfl
                      by_cases h83 : s = 83
                      · subst h83; rfl
                      by_cases h84 : s = 84
                      · subst h84; rfl
                      by_cases h85 : s = 85
                      · subst h85; rfl
                      by_cases h86 : s = 86
                      · subst h86; rfl
                      by_cases h87 : s = 87
                      · subst h87; rfl
                      by_cases h88 : s = 88
                      · subst h88; rfl
                      by_cases h89 : s = 89
                      · subst h89; rfl
                      by_cases h90 : s = 90
                      · subst h90; rfl
                      by_cases h91 : s = 91
                      · subst h91; rfl
                      by_cases h92 : s = 92
                      · subst h92; rfl
                      by_cases h78 : s = 78
                      · subst h78; rfl
                      by_cases h93 : s = 93
                      · subst h93; rfl
                      by_cases h94 : s = 94
                      · subst h94; rfl
                      by_cases h14 : s = 14
                      · subst h14; rfl
                      by_cases h15 : s = 15
                      · subst h15; rfl
                      simp only [ansSs_tm, VS.put, VS.box, VS.setb, cond_false, nbne h79, nbne h80, nbne h81, nbne h82, nbne h83, nbne h84, nbne h85, nbne h86, nbne h87, nbne h88, nbne h89, nbne h90, nbne h91, nbne h92, nbne h78, nbne h93, nbne h94, nbne h14, nbne h15]
                  case h =>
                    refine SV.tn ?_
                    refine SV.seq' ?_
                    refine SV.seq' ?_
                    refine SV.region ?_
                    refine SV.op (OpL.ok (nb := 7) (ok_move (v := V.one (.sc _)) (.inl rfl) rfl) rfl (gle rfl)) rfl ?_
                    refine SV.op (OpL.ok (nb := 7) (ok_s1 (x := .tmp 95) (VScal.one rfl) (fun ρ h1 w => by go_simp; (try go_bits); with_reducible rfl) rfl) rfl (gle rfl)) rfl ?_
                    refine SV.op (OpL.ok (nb := 7) (ok_move (v := V.one (.sc _)) (.inl rfl) rfl) rfl (gle rfl)) rfl ?_
                    refine SV.split (d := 97) rfl (fun hg2 => ?_) (fun hg2 => ?_)
                    · skip   -- g2.T
                      (exfalso; first | (simp at hg2; done) | (simp at hg2; omega))
                    · skip   -- g2.F
                      refine SV.opY (OpL.ok (nb := 7) (ok_load_bp (b := 6) (i := 0) (ag := true) (m := 4) (ys := [.sc _, .sc _, .hd 2, .hd 3]) rfl rfl rfl agg_impl_Broker sz_impl_Broker (fun h => by cases h) rfl rfl (gle rfl)) rfl (gle rfl)) rfl rfl rfl (gle rfl) rfl rfl ?_
                      refine SV.opY (OpMk.ok (ok_call (ls := [(false, [.sc _])]) rfl rfl ⟨_, _, Try.func20, rfl, by decide⟩ (vokb_s z' (by omega) (by omega)) ⟨⟨[.sc _, .sc _, .hd 2, .hd 3], rfl, ⟨rfl, rfl, rfl, rfl, trivial⟩⟩, trivial⟩ rfl (gle rfl))) rfl rfl rfl (gle rfl) rfl rfl ?_
                      refine SV.opY (OpL.ok (nb := 7) (ok_s1 (x := .tmp 99) (VScal.one rfl) (fun ρ h1 w => by go_simp; (try go_bits); with_reducible rfl) rfl) rfl (gle rfl)) rfl rfl rfl (gle rfl) rfl rfl ?_
                      refine SV.op (OpL.ok (nb := 7) (ok_pickF (v := V.one (.sc _)) rfl rfl rfl) rfl (gle rfl)) rfl ?_
                      refine SV.op (OpL.ok (nb := 7) (ok_move (v := V.one (.sc _)) (.inl rfl) rfl) rfl (gle rfl)) rfl ?_
                      refine SV.split (d := 102) rfl (fun hg3 => ?_) (fun hg3 => ?_)
                      · skip   -- g3.T
                        (exfalso; first | (simp at hg3; done) | (simp [hoz] at hg3; done) | (simp at hg3; omega))
                      · skip   -- g3.F
                        refine SV.opY (OpL.ok (nb := 7) (ok_field_bp (b := 6) (o' := 0) (off := 2) rfl rfl fld_impl_Broker_2) rfl (gle rfl)) rfl rfl rfl (gle rfl) rfl rfl ?_
                        refine SV.opY (OpL.ok (nb := 7) (ok_load_bp (b := 6) (i := 2) (ag := false) (m := 1) (ys := [.hd 2]) rfl rfl rfl agg_s_impl_Client sz_s_impl_Client (fun _ => rfl) rfl rfl (gle rfl)) rfl (gle rfl)) rfl rfl rfl (gle rfl) rfl rfl ?_
                        refine SV.opY (OpL.ok (nb := 7) (ok_len (lf := .hd 2) rfl elt_impl_Client.und rfl rfl) rfl (gle rfl)) rfl rfl rfl (gle rfl) rfl rfl ?_
                        refine SV.opY (OpL.ok (nb := 7) (ok_field_bp (b := 6) (o' := 0) (off := 3) rfl rfl fld_impl_Broker_3) rfl (gle rfl)) rfl rfl rfl (gle rfl) rfl rfl ?_
                        refine SV.opY (OpL.ok (nb := 7) (ok_load_bp (b := 6) (i := 3) (ag := false) (m := 1) (ys := [.hd 3]) rfl rfl rfl agg_s_impl_Client sz_s_impl_Client (fun _ => rfl) rfl rfl (gle rfl)) rfl (gle rfl)) rfl rfl rfl (gle rfl) rfl rfl ?_
                        refine SV.opY (OpL.ok (nb := 7) (ok_len (lf := .hd 3) rfl elt_impl_Client.und rfl rfl) rfl (gle rfl)) rfl rfl rfl (gle rfl) rfl rfl ?_
                        refine SV.opY (OpL.ok (nb := 7) (ok_s2 (v := .int .i64 ((z'.fActive.length : Int) + (z'.fWaiting.length : Int))) (x := .tmp 105) (x' := .tmp 108) (VScal.one rfl) (VScal.one rfl) (fun ρ h1 h2 w => by go_simp; rw [IntWalk.i64_left, IntWalk.wrap64_in _ ⟨by omega, by omega⟩]) rfl) rfl (gle rfl)) rfl rfl rfl (gle rfl) rfl rfl ?_
                        refine SV.opY (OpL.ok (nb := 7) (ok_field_bp (b := 5) (o' := 0) (off := 2) rfl rfl fld_impl_Broker_2) rfl (gle rfl)) rfl rfl rfl (gle rfl) rfl rfl ?_
                        refine SV.opY (OpL.ok (nb := 7) (ok_load_bp (b := 5) (i := 2) (ag := false) (m := 1) (ys := [.hd 0]) rfl rfl rfl agg_s_impl_Client sz_s_impl_Client (fun _ => rfl) rfl rfl (gle rfl)) rfl (gle rfl)) rfl rfl rfl (gle rfl) rfl rfl ?_
                        refine SV.opY (OpL.ok (nb := 7) (ok_len (lf := .hd 0) rfl elt_impl_Client.und rfl rfl) rfl (gle rfl)) rfl rfl rfl (gle rfl) rfl rfl ?_
                        refine SV.opY (OpL.ok (nb := 7) (ok_field_bp (b := 5) (o' := 0) (off := 3) rfl rfl fld_impl_Broker_3) rfl (gle rfl)) rfl rfl rfl (gle rfl) rfl rfl ?_
                        refine SV.opY (OpL.ok (nb := 7) (ok_load_bp (b := 5) (i := 3) (ag := false) (m := 1) (ys := [.hd 1]) rfl rfl rfl agg_s_impl_Client sz_s_impl_Client (fun _ => rfl) rfl rfl (gle rfl)) rfl (gle rfl)) rfl rfl rfl (gle rfl) rfl rfl ?_
                        refine SV.opY (OpL.ok (nb := 7) (ok_len (lf := .hd 1) rfl elt_impl_Client.und rfl rfl) rfl (gle rfl)) rfl rfl rfl (gle rfl) rfl rfl ?_
                        refine SV.opY (OpL.ok (nb := 7) (ok_s2 (v := .int .i64 ((x.fActive.length : Int) + (x.fWaiting.length : Int))) (x := .tmp 112) (x' := .tmp 115) (VScal.one rfl) (VScal.one rfl) (fun ρ h1 h2 w => by go_simp; rw [IntWalk.i64_left, IntWalk.wrap64_in _ ⟨by omega, by omega⟩]) rfl) rfl (gle rfl)) rfl rfl rfl (gle rfl) rfl rfl ?_
                        refine SV.opY (OpL.ok (nb := 7) (ok_s2 (v := .int .i64 ((x.fActive.length : Int) + (x.fWaiting.length : Int) - 1)) (x := .tmp 116) (x' := .const ((Value.int IntKind.i64 1))) (VScal.one rfl) (VScal.one rfl) (fun ρ h1 h2 w => by go_simp; rw [IntWalk.i64_left, IntWalk.wrap64_in _ ⟨by omega, by omega⟩]) rfl) rfl (gle rfl)) rfl rfl rfl (gle rfl) rfl rfl ?_
                        refine SV.opY (OpL.ok (nb := 7) (ok_s2 (x := .tmp 109) (x' := .tmp 117) (VScal.one rfl) (VScal.one rfl) (fun ρ h1 h2 w => by go_simp; (try go_bits); with_reducible rfl) rfl) rfl (gle rfl)) rfl rfl rfl (gle rfl) rfl rfl ?_
                        refine SV.op (OpL.ok (nb := 7) (ok_pickF (v := V.one (.sc _)) rfl rfl rfl) rfl (gle rfl)) rfl ?_
                        refine SV.nil ?_
                        refine SV.tn ?_
                        refine SV.cond rfl (fun hc5 => ?_) (fun hc5 => ?_)
                        · skip   -- c5.T
                          (exfalso; first | (simp at hc5; done) | (simp at hc5; omega))
                        · skip   -- c5.F
                          refine SV.skip ?_
                          refine SV.tn ?_
                          refine SV.region ?_
                          refine SV.op (OpL.ok (nb := 7) (ok_load_bp (b := 6) (i := 0) (ag := true) (m := 4) (ys := [.sc _, .sc _, .hd 2, .hd 3]) rfl rfl rfl agg_impl_Broker sz_impl_Broker (fun h => by cases h) rfl rfl (gle rfl)) rfl (gle rfl)) rfl ?_
                          refine SV.op (ok_store_bp (b := 5) (i := 0) (m := 4) (ag := true) (zs := [.sc _, .sc _, .hd 2, .hd 3]) (ys := [.sc _, .sc _, .hd 2, .hd 3]) rfl rfl rfl rfl sz_impl_Broker (fun h => by cases h) rfl (gle rfl) rfl rfl rfl) rfl ?_
                          refine SV.nil ?_
                          refine SV.bn ?_
                          refine SV.tn ?_
                          refine SV.region ?_
                          refine SV.op (OpL.ok (nb := 7) (ok_move (v := V.one (.sc _)) (.inl rfl) rfl) rfl (gle rfl)) rfl ?_
                          refine SV.op (OpL.ok (nb := 7) (ok_s2 (x := .tmp 72) (x' := .const ((Value.int IntKind.i64 1))) (VScal.one rfl) (VScal.one rfl) (fun ρ h1 h2 w => by go_simp; (try go_bits); with_reducible rfl) rfl) rfl (gle rfl)) rfl ?_
                          refine SV.op (OpL.ok (nb := 7) (ok_move (v := V.one (.sc _)) (.inr rfl) rfl) rfl (gle rfl)) rfl ?_
                          refine SV.nil ?_
                          refine SV.tn ?_
                          refine SV.again (fun i => [2, 3].getD i 0) ((t + 1, z')) (⟨⟨hoz, by show z'.fActive.length + z'.fWaiting.length + (t + 1) = _; omega⟩, by show (b.fActive.length + b.fWaiting.length) - (t + 1) < (b.fActive.length + b.fWaiting.length) - t; omega⟩) (pins hE rfl rfl) (VS.le.mk' (le_put (le_put (le_put (le_put (le_put (le_box (le_box (le_box (le_box (le_box (le_box (le_new (le_new le_nil)))))))) (V.le.keep (ag := false) (xs := [.sc _]) (ys := [.sc _]) rfl rfl ⟨rfl, trivial⟩)) (V.le.keep (ag := false) (xs := [.sc _]) (ys := [.sc _]) rfl rfl ⟨rfl, trivial⟩)) (V.le.keep (ag := false) (xs := [.sc _]) (ys := [.sc _]) rfl rfl ⟨(by first | rfl | (show Leaf.sc _ = Leaf.sc _; refine congrArg Leaf.sc ?_; first | rfl | go_num | (simp [cntAll]; done)) | (simp [cntAll]; done) | (simp; omega)), trivial⟩)) (V.le.keep (ag := false) (xs := [.bp 5 0]) (ys := [.bp 5 0]) rfl rfl ⟨⟨rfl, (gle rfl)⟩, trivial⟩)) (V.le.keep (ag := false) (xs := [.sc _]) (ys := [.sc _]) rfl rfl ⟨(by first | rfl | (show Leaf.sc _ = Leaf.sc _; refine congrArg Leaf.sc ?_; first | rfl | go_num | (simp [cntAll]; done)) | (simp [cntAll]; done) | (simp; omega)), trivial⟩)) ⟨⟨rfl, ⟨trivial, trivial, trivial, trivial, trivial⟩⟩, ⟨⟨rfl, ⟨trivial, trivial, trivial, trivial, trivial⟩⟩, ⟨⟨rfl, ⟨trivial, trivial, trivial, trivial, trivial⟩⟩, ⟨⟨rfl, ⟨trivial, trivial, trivial, trivial, trivial⟩⟩, ⟨⟨rfl, ⟨trivial, trivial, trivial, trivial, trivial⟩⟩, ⟨⟨rfl, ⟨(by first | rfl | (show Leaf.sc _ = Leaf.sc _; refine congrArg Leaf.sc ?_; first | rfl | go_num | (simp [cntAll]; done)) | (simp [cntAll]; done) | (simp; omega)), (by first | rfl | (show Leaf.sc _ = Leaf.sc _; refine congrArg Leaf.sc ?_; first | rfl | go_num | (simp [cntAll]; done)) | (simp [cntAll]; done) | (simp; omega)), ⟨rfl, (gle rfl), (gle rfl)⟩, ⟨rfl, (gle rfl), (gle rfl)⟩, trivial⟩⟩, trivial⟩⟩⟩⟩⟩⟩ ⟨.inr ⟨_, _, rfl, ?ob2_1, (gle rfl)⟩, ⟨.inr ⟨_, _, rfl, ?ob2_0, (gle rfl)⟩, trivial⟩⟩ (new_ob (new_ob nil_ob)) (fun i j hi hj e => inj_list (l := [2, 3]) (by decide) i j hi hj e))
                          case ob2_0 =>
                            show some (T.seq _ _) = some (T.seq _ _)
                            first | rfl | exact congrArg some (congrArg (T.seq _) (by simp))
                          case ob2_1 =>
                            show some (T.seq _ _) = some (T.seq _ _)
                            first | rfl | exact congrArg some (congrArg (T.seq _) (by simp))
              · skip   -- c3.F
                have hte : ¬ t < (b.fActive.length + b.fWaiting.length) := by simp at hc3; omega
                refine SV.exit ?_
                refine SV.te ?_
                refine SV.te ?_
                refine SV.bh ?_
                refine SV.tn ?_
                refine SV.seq' ?_
                refine SV.region ?_
                refine SV.op (OpL.ok (nb := 6) (ok_field_bp (b := 5) (o' := 0) (off := 2) rfl rfl fld_impl_Broker_2) rfl (gle rfl)) rfl ?_
                refine SV.op (OpL.ok (nb := 6) (ok_load_bp (b := 5) (i := 2) (ag := false) (m := 1) (ys := [.hd 0]) rfl rfl rfl agg_s_impl_Client sz_s_impl_Client (fun _ => rfl) rfl rfl (gle rfl)) rfl (gle rfl)) rfl ?_
                refine SV.op (OpL.ok (nb := 6) (ok_len (lf := .hd 0) rfl elt_impl_Client.und rfl rfl) rfl (gle rfl)) rfl ?_
                refine SV.op (OpL.ok (nb := 6) (ok_s2 (x := .tmp 123) (x' := .const ((Value.int IntKind.i64 0))) (VScal.one rfl) (VScal.one rfl) (fun ρ h1 h2 w => by go_simp; (try go_bits); with_reducible rfl) rfl) rfl (gle rfl)) rfl ?_
                refine SV.op (OpL.ok (nb := 6) (ok_move (v := V.one (.sc _)) (.inl rfl) rfl) rfl (gle rfl)) rfl ?_
                refine SV.split (d := 125) rfl (fun hg4 => ?_) (fun hg4 => ?_)
                · skip   -- g4.T
                  refine SV.opY (OpL.ok (nb := 6) (ok_field_bp (b := 5) (o' := 0) (off := 3) rfl rfl fld_impl_Broker_3) rfl (gle rfl)) rfl rfl rfl (gle rfl) rfl rfl ?_
                  refine SV.opY (OpL.ok (nb := 6) (ok_load_bp (b := 5) (i := 3) (ag := false) (m := 1) (ys := [.hd 1]) rfl rfl rfl agg_s_impl_Client sz_s_impl_Client (fun _ => rfl) rfl rfl (gle rfl)) rfl (gle rfl)) rfl rfl rfl (gle rfl) rfl rfl ?_
                  refine SV.opY (OpL.ok (nb := 6) (ok_len (lf := .hd 1) rfl elt_impl_Client.und rfl rfl) rfl (gle rfl)) rfl rfl rfl (gle rfl) rfl rfl ?_
                  refine SV.opY (OpL.ok (nb := 6) (ok_s2 (x := .tmp 128) (x' := .const ((Value.int IntKind.i64 0))) (VScal.one rfl) (VScal.one rfl) (fun ρ h1 h2 w => by go_simp; (try go_bits); with_reducible rfl) rfl) rfl (gle rfl)) rfl rfl rfl (gle rfl) rfl rfl ?_
                  refine SV.op (OpL.ok (nb := 6) (ok_pickT (v := V.one (.sc _)) rfl rfl rfl) rfl (gle rfl)) rfl ?_
                  refine SV.op (OpL.ok (nb := 6) (ok_move (v := V.one (.sc _)) (.inr rfl) rfl) rfl (gle rfl)) rfl ?_
                  refine SV.nil ?_
                  refine SV.tn ?_
                  refine SV.ret ?_
                  apply SV.done (hf := Try.results5) (ht := rfl) (he := .inl rfl)
                  case hr => exact (ResAll.cons (ResOk.tmp (ag := false) (xs := [.sc _]) rfl) ResAll.nil')
                  case h2 => simp [two]
                  refine ⟨rfl, ⟨?_, trivial⟩, trivial⟩ <;> first | rfl | ((show some (T.lit (Value.bool _)) = some (T.lit (Value.bool _)); refine congrArg (fun z => some (T.lit (Value.bool z))) ?_; first | (simp [hok]; done) | (simp; exact List.length_eq_zero_iff.1 (by omega)) | (simp; omega)))
                · skip   -- g4.F
                  (exfalso; first | (simp at hg4; done) | (simp at hg4; exact hg4 (List.length_eq_zero_iff.1 (by omega))) | (have h0 := of_decide_eq_false hg4; omega))
end Go.Proofs.Ytfghhjcfmmhacaa
/- The program's client that is served first, and its order by IDs: told by trees. -/
namespace Go.Proofs.Ytfghhjcfmmhacaa
open Go Go.RowKit V
set_option linter.unusedVariables false
set_option maxRecDepth 100000 in
set_option maxHeartbeats 2000000 in
theorem vcmpid_i (a c : ClientD) : VC Try.prog 88 [(true, tClient a), (true, tClient c)] false [(false, [.lit (.int .i64 (cmpI a.fID c.fID))])] := by
  refine VC.enter Try.func88 rfl Try.ntmps88 (gle rfl) fun E hE => ?_
  refine SV.seq' ?_
  refine SV.region ?_
  refine SV.op (OpMk.ok (ok_box (kk := 0) (ag := true) (xs := [.sc _, .sc _, .sc _]) rfl rfl rfl (fun h => by cases h) rfl rfl (gle rfl))) rfl ?_
  refine SV.op (OpMk.ok (ok_box (kk := 1) (ag := true) (xs := [.sc _, .sc _, .sc _]) rfl rfl rfl (fun h => by cases h) rfl rfl (gle rfl))) rfl ?_
  refine SV.op (OpL.ok (nb := 2) (ok_move (v := V.one (.sc _)) (.inr rfl) rfl) rfl (gle rfl)) rfl ?_
  refine SV.nil ?_
  refine SV.tn ?_
  refine SV.seq' ?_
  refine SV.region ?_
  refine SV.op (OpL.ok (nb := 2) (ok_field_bp (b := 0) (o' := 0) (off := 0) rfl rfl fld_impl_Client_0) rfl (gle rfl)) rfl ?_
  refine SV.op (OpL.ok (nb := 2) (ok_load_bp (b := 0) (i := 0) (ag := false) (m := 1) (ys := [.sc _]) rfl rfl rfl agg_int sz_int (fun _ => rfl) rfl rfl (gle rfl)) rfl (gle rfl)) rfl ?_
  refine SV.op (OpL.ok (nb := 2) (ok_field_bp (b := 1) (o' := 0) (off := 0) rfl rfl fld_impl_Client_0) rfl (gle rfl)) rfl ?_
  refine SV.op (OpL.ok (nb := 2) (ok_load_bp (b := 1) (i := 0) (ag := false) (m := 1) (ys := [.sc _]) rfl rfl rfl agg_int sz_int (fun _ => rfl) rfl rfl (gle rfl)) rfl (gle rfl)) rfl ?_
  refine SV.op (OpMk.ok (ok_call (ls := [(false, [.sc _])]) rfl rfl ⟨_, _, Try.func81, rfl, by decide⟩ (vcompare a.fID c.fID) ⟨⟨[.sc _], rfl, ⟨rfl, trivial⟩⟩, ⟨[.sc _], rfl, ⟨rfl, trivial⟩⟩, trivial⟩ rfl (gle rfl))) rfl ?_
  refine SV.op (OpL.ok (nb := 2) (ok_move (v := V.one (.sc _)) (.inr rfl) rfl) rfl (gle rfl)) rfl ?_
  refine SV.nil ?_
  refine SV.tn ?_
  refine SV.ret ?_
  apply SV.done (hf := Try.results88) (ht := rfl) (he := .inl rfl)
  case hr => exact (ResAll.cons (ResOk.tmp (ag := false) (xs := [.sc _]) rfl) ResAll.nil')
  case h2 => simp [two]
  refine ⟨rfl, ⟨?_, trivial⟩, trivial⟩ <;> rfl
set_option maxRecDepth 100000 in
set_option maxHeartbeats 2000000 in
theorem vfirst_i (l : List ClientD) (hL : l.length ≤ 1000000000) : VC Try.prog 86 [(false, [.seq 35 ((l).map tClient)])] false [(false, [.lit (.int .i64 (((BrokerD.best l : Nat) : Int)))])] := by
  refine VC.enter Try.func86 rfl Try.ntmps86 (gle rfl) fun E hE => ?_
  refine SV.seq' ?_
  refine SV.region ?_
  refine SV.op (OpL.ok (nb := 0) (ok_move (v := V.one (.sc _)) (.inr rfl) rfl) rfl (gle rfl)) rfl ?_
  refine SV.nil ?_
  refine SV.tn ?_
  refine SV.seq' ?_
  refine SV.region ?_
  refine SV.op (OpL.ok (nb := 0) (ok_move (v := V.one (.sc _)) (.inr rfl) rfl) rfl (gle rfl)) rfl ?_
  refine SV.nil ?_
  refine SV.tn ?_
  refine SV.seq' ?_
  refine SV.seq' ?_
  refine SV.region ?_
  refine SV.op (OpL.ok (nb := 0) (ok_move (v := V.one (.ro _)) (.inl rfl) rfl) rfl (gle rfl)) rfl ?_
  refine SV.op (OpL.ok (nb := 0) (ok_len (lf := .ro _) rfl elt_impl_Client.und rfl rfl) rfl (gle rfl)) rfl ?_
  refine SV.op (OpL.ok (nb := 0) (ok_move (v := V.one (.sc _)) (.inl rfl) rfl) rfl (gle rfl)) rfl ?_
  refine SV.nil ?_
  refine SV.tn ?_
  refine SV.block ?_
  refine SV.loopF (X := Nat) (fun (σ : VS) t => ((((((VS.nil.put 0 (σ.tm 0)).put 2 (σ.tm 2)).put 3 (V.flat false [.sc (.int .i64 (((BrokerD.bestAt l (t - 1) : Nat) : Int)))])).put 6 (σ.tm 6)).put 7 (σ.tm 7)).put 8 (V.flat false [.sc (.int .i64 ((t : Int)))]))) (fun t => t ≤ l.length) (fun t => l.length - t) ?_ ?_
  · skip
    refine SV.again (fun i => [].getD i 0) 0 ((by first | exact Nat.zero_le _ | (refine ⟨Nat.zero_le _, ?_⟩; simp; done) | (simp; done) | omega)) (pins hE rfl rfl) (VS.le.mk' (le_put (le_put (le_put (le_put (le_put (le_put le_nil (V.le.keep (ag := false) (xs := [.ro _]) (ys := [.ro _]) rfl rfl ⟨rfl, trivial⟩)) (V.le.keep (ag := false) (xs := [.sc _]) (ys := [.sc _]) rfl rfl ⟨rfl, trivial⟩)) (V.le.keep (ag := false) (xs := [.sc _]) (ys := [.sc _]) rfl rfl ⟨(by first | rfl | (show Leaf.sc _ = Leaf.sc _; refine congrArg Leaf.sc ?_; first | rfl | go_num | (rw [Nat.add_sub_cancel, hst]; first | done | rfl | go_num | (simp; done) | (simp; omega)) | (simp [cntAll]; done)) | (simp [cntAll]; done) | (simp; omega)), trivial⟩)) (V.le.keep (ag := false) (xs := [.ro _]) (ys := [.ro _]) rfl rfl ⟨rfl, trivial⟩)) (V.le.keep (ag := false) (xs := [.sc _]) (ys := [.sc _]) rfl rfl ⟨rfl, trivial⟩)) (V.le.keep (ag := false) (xs := [.sc _]) (ys := [.sc _]) rfl rfl ⟨(by first | rfl | (show Leaf.sc _ = Leaf.sc _; refine congrArg Leaf.sc ?_; first | rfl | go_num | (rw [Nat.add_sub_cancel, hst]; first | done | rfl | go_num | (simp; done) | (simp; omega)) | (simp [cntAll]; done)) | (simp [cntAll]; done) | (simp; omega)), trivial⟩)) trivial trivial nil_ob (fun i j hi hj e => absurd hi (Nat.not_lt_zero i)))
  · rintro t ht
    refine SV.seq' ?_
    refine SV.region ?_
    refine SV.op (OpL.ok (nb := 0) (ok_s2 (x := .tmp 8) (x' := .tmp 7) (VScal.one rfl) (VScal.one rfl) (fun ρ h1 h2 w => by go_simp; (try go_bits); with_reducible rfl) rfl) rfl (gle rfl)) rfl ?_
    refine SV.nil ?_
    refine SV.tn ?_
    refine SV.seq' ?_
    refine SV.cond rfl (fun hc0 => ?_) (fun hc0 => ?_)
    · skip   -- c0.T
      have htl : t < l.length := by simpa using hc0
      have hbl := BrokerD.bestAt_le l (t - 1)
      obtain ⟨c, hx⟩ : ∃ c, l[t]? = some c := ⟨_, List.getElem?_eq_getElem htl⟩
      obtain ⟨d, hy⟩ : ∃ d, l[BrokerD.bestAt l (t - 1)]? = some d := ⟨_, List.getElem?_eq_getElem (by omega)⟩
      have hst0 : BrokerD.bestAt l t = if d.fPriority < c.fPriority then t else BrokerD.bestAt l (t - 1) := by
        cases t with
        | zero =>
          have hcd : c = d := by rw [show BrokerD.bestAt l (0 - 1) = 0 from rfl, hx] at hy; exact Option.some.inj hy
          rw [hcd, if_neg (Int.lt_irrefl _)]
        | succ t => exact BrokerD.best_step hx hy
      refine SV.skip ?_
      refine SV.tn ?_
      refine SV.seq' ?_
      refine SV.block ?_
      refine SV.seq' ?_
      refine SV.region ?_
      refine SV.op (OpL.ok (nb := 0) (ok_move (v := V.one (.sc _)) (.inl rfl) rfl) rfl (gle rfl)) rfl ?_
      refine SV.op (OpL.ok (nb := 0) (ok_index (n := 3) (lf := .ro _) rfl elt_impl_Client.und sz_impl_Client rfl rfl rfl (map_at hx)) rfl (gle rfl)) rfl ?_
      refine SV.op (OpL.ok (nb := 0) (ok_load_rp (ag := true) (m := 3) (ys := [.sc _, .sc _, .sc _]) rfl rfl agg_impl_Client sz_impl_Client (fun h => by cases h) (gle rfl) rfl) rfl (gle rfl)) rfl ?_
      refine SV.op (OpMk.ok (ok_alloc (kk := 0) (xs := [.sc _, .sc _, .sc _]) rfl rfl zero_impl_Client ⟨rfl, rfl, rfl, rfl, rfl, rfl, trivial⟩ rfl (gle rfl))) rfl ?_
      refine SV.op (OpL.ok (nb := 1) (ok_move (v := V.one (.sc _)) (.inr rfl) rfl) rfl (gle rfl)) rfl ?_
      refine SV.op (ok_store_bp (b := 0) (i := 0) (m := 3) (ag := true) (zs := [.sc _, .sc _, .sc _]) (ys := [.sc _, .sc _, .sc _]) rfl rfl rfl rfl sz_impl_Client (fun h => by cases h) rfl (gle rfl) rfl rfl rfl) rfl ?_
      refine SV.nil ?_
      refine SV.tn ?_
      refine SV.seq' ?_
      refine SV.draw [.q 0, .q 1, .q 2, .q 3, .q 4, .q 5, .q 6, .q 7] [] (by kernel_rfl) (by kernel_rfl) ?_
      refine DW.q rfl (ok_field_bp (b := 0) (o' := 0) (off := 2) rfl rfl fld_impl_Client_2) rfl rfl (gle rfl) (fun _ _ _ _ h => h) ?_
      refine DW.q rfl (ok_load_bp (b := 0) (i := 2) (ag := false) (m := 1) (ys := [.sc _]) rfl rfl rfl agg_int sz_int (fun _ => rfl) rfl rfl (gle rfl)) rfl rfl (gle rfl) (fun _ _ _ _ h => h) ?_
      refine DW.q rfl (ok_move (v := V.one (.ro _)) (.inl rfl) rfl) rfl rfl (gle rfl) (fun _ _ _ _ h => h) ?_
      refine DW.q rfl (ok_move (v := V.one (.sc _)) (.inl rfl) rfl) rfl rfl (gle rfl) (fun _ _ _ _ h => h) ?_
      refine DW.q rfl (ok_index (n := 3) (lf := .ro _) rfl elt_impl_Client.und sz_impl_Client rfl rfl rfl (map_at hy)) rfl rfl (gle rfl) (fun _ _ _ _ h => h) ?_
      refine DW.q rfl (ok_field_el (p := .rp _) (off := 2) rfl rfl rfl fld_impl_Client_2) rfl rfl (gle rfl) (fun _ _ _ _ h => h) ?_
      refine DW.q rfl (ok_load_rp (ag := false) (m := 1) (ys := [.sc _]) rfl rfl agg_int sz_int (fun _ => rfl) (gle rfl) rfl) rfl rfl (gle rfl) (fun _ _ _ _ h => h) ?_
      refine DW.q rfl (ok_s2 (x := .tmp 14) (x' := .tmp 19) (VScal.one rfl) (VScal.one rfl) (fun ρ h1 h2 w => by go_simp; (try go_bits); with_reducible rfl) rfl) rfl rfl (gle rfl) (fun _ _ _ _ h => h) ?_
      refine DW.stores ?_
      refine SV.zend ?_
      refine SV.tn ?_
      refine SV.cond rfl (fun hc1 => ?_) (fun hc1 => ?_)
      · skip   -- c1.T
        have hst : BrokerD.bestAt l t = t := by rw [hst0, if_pos (by simpa using hc1)]
        refine SV.region ?_
        refine SV.op (OpL.ok (nb := 1) (ok_move (v := V.one (.sc _)) (.inl rfl) rfl) rfl (gle rfl)) rfl ?_
        refine SV.op (OpL.ok (nb := 1) (ok_move (v := V.one (.sc _)) (.inr rfl) rfl) rfl (gle rfl)) rfl ?_
        refine SV.nil ?_
        refine SV.bn ?_
        refine SV.tn ?_
        refine SV.region ?_
        refine SV.op (OpL.ok (nb := 1) (ok_s2 (x := .tmp 8) (x' := .const ((Value.int IntKind.i64 1))) (VScal.one rfl) (VScal.one rfl) (fun ρ h1 h2 w => by go_simp; (try go_bits); with_reducible rfl) rfl) rfl (gle rfl)) rfl ?_
        refine SV.op (OpL.ok (nb := 1) (ok_move (v := V.one (.sc _)) (.inl rfl) rfl) rfl (gle rfl)) rfl ?_
        refine SV.nil ?_
        refine SV.tn ?_
        refine SV.again (fun i => [].getD i 0) (t + 1) (⟨by omega, by omega⟩) (pins hE rfl rfl) (VS.le.mk' (le_put (le_put (le_put (le_put (le_put (le_put le_nil (V.le.keep (ag := false) (xs := [.ro _]) (ys := [.ro _]) rfl rfl ⟨rfl, trivial⟩)) (V.le.keep (ag := false) (xs := [.sc _]) (ys := [.sc _]) rfl rfl ⟨rfl, trivial⟩)) (V.le.keep (ag := false) (xs := [.sc _]) (ys := [.sc _]) rfl rfl ⟨(by first | rfl | (show Leaf.sc _ = Leaf.sc _; refine congrArg Leaf.sc ?_; first | rfl | go_num | (rw [Nat.add_sub_cancel, hst]; first | done | rfl | go_num | (simp; done) | (simp; omega)) | (simp [cntAll]; done)) | (simp [cntAll]; done) | (simp; omega)), trivial⟩)) (V.le.keep (ag := false) (xs := [.ro _]) (ys := [.ro _]) rfl rfl ⟨rfl, trivial⟩)) (V.le.keep (ag := false) (xs := [.sc _]) (ys := [.sc _]) rfl rfl ⟨rfl, trivial⟩)) (V.le.keep (ag := false) (xs := [.sc _]) (ys := [.sc _]) rfl rfl ⟨(by first | rfl | (show Leaf.sc _ = Leaf.sc _; refine congrArg Leaf.sc ?_; first | rfl | go_num | (rw [Nat.add_sub_cancel, hst]; first | done | rfl | go_num | (simp; done) | (simp; omega)) | (simp [cntAll]; done)) | (simp [cntAll]; done) | (simp; omega)), trivial⟩)) trivial trivial nil_ob (fun i j hi hj e => absurd hi (Nat.not_lt_zero i)))
      · skip   -- c1.F
        have hst : BrokerD.bestAt l t = BrokerD.bestAt l (t - 1) := by rw [hst0, if_neg (by simpa using hc1)]
        refine SV.skip ?_
        refine SV.bn ?_
        refine SV.tn ?_
        refine SV.region ?_
        refine SV.op (OpL.ok (nb := 1) (ok_s2 (x := .tmp 8) (x' := .const ((Value.int IntKind.i64 1))) (VScal.one rfl) (VScal.one rfl) (fun ρ h1 h2 w => by go_simp; (try go_bits); with_reducible rfl) rfl) rfl (gle rfl)) rfl ?_
        refine SV.op (OpL.ok (nb := 1) (ok_move (v := V.one (.sc _)) (.inl rfl) rfl) rfl (gle rfl)) rfl ?_
        refine SV.nil ?_
        refine SV.tn ?_
        refine SV.again (fun i => [].getD i 0) (t + 1) (⟨by omega, by omega⟩) (pins hE rfl rfl) (VS.le.mk' (le_put (le_put (le_put (le_put (le_put (le_put le_nil (V.le.keep (ag := false) (xs := [.ro _]) (ys := [.ro _]) rfl rfl ⟨rfl, trivial⟩)) (V.le.keep (ag := false) (xs := [.sc _]) (ys := [.sc _]) rfl rfl ⟨rfl, trivial⟩)) (V.le.keep (ag := false) (xs := [.sc _]) (ys := [.sc _]) rfl rfl ⟨(by first | rfl | (show Leaf.sc _ = Leaf.sc _; refine congrArg Leaf.sc ?_; first | rfl | go_num | (rw [Nat.add_sub_cancel, hst]; first | done | rfl | go_num | (simp; done) | (simp; omega)) | (simp [cntAll]; done)) | (simp [cntAll]; done) | (simp; omega)), trivial⟩)) (V.le.keep (ag := false) (xs := [.ro _]) (ys := [.ro _]) rfl rfl ⟨rfl, trivial⟩)) (V.le.keep (ag := false) (xs := [.sc _]) (ys := [.sc _]) rfl rfl ⟨rfl, trivial⟩)) (V.le.keep (ag := false) (xs := [.sc _]) (ys := [.sc _]) rfl rfl ⟨(by first | rfl | (show Leaf.sc _ = Leaf.sc _; refine congrArg Leaf.sc ?_; first | rfl | go_num | (rw [Nat.add_sub_cancel, hst]; first | done | rfl | go_num | (simp; done) | (simp; omega)) | (simp [cntAll]; done)) | (simp [cntAll]; done) | (simp; omega)), trivial⟩)) trivial trivial nil_ob (fun i j hi hj e => absurd hi (Nat.not_lt_zero i)))
    · skip   -- c0.F
      have hte : l.length ≤ t := by simpa using hc0
      have hbe : BrokerD.best l = BrokerD.bestAt l (t - 1) := by unfold BrokerD.best; rw [show t = l.length by omega]
      refine SV.exit ?_
      refine SV.te ?_
      refine SV.te ?_
      refine SV.bh ?_
      refine SV.tn ?_
      refine SV.seq' ?_
      refine SV.region ?_
      refine SV.op (OpL.ok (nb := 0) (ok_move (v := V.one (.sc _)) (.inl rfl) rfl) rfl (gle rfl)) rfl ?_
      refine SV.op (OpL.ok (nb := 0) (ok_move (v := V.one (.sc _)) (.inr rfl) rfl) rfl (gle rfl)) rfl ?_
      refine SV.nil ?_
      refine SV.tn ?_
      refine SV.ret ?_
      apply SV.done (hf := Try.results86) (ht := rfl) (he := .inl rfl)
      case hr => exact (ResAll.cons (ResOk.tmp (ag := false) (xs := [.sc _]) rfl) ResAll.nil')
      case h2 => simp [two]
      refine ⟨rfl, ⟨?_, trivial⟩, trivial⟩ <;> (show some (T.lit (Value.int .i64 _)) = some (T.lit (Value.int .i64 _)); refine congrArg (fun z => some (T.lit (Value.int .i64 z))) ?_; rw [hbe])
end Go.Proofs.Ytfghhjcfmmhacaa
/- The library's slices.BinarySearchFunc at clients: told by trees. -/
namespace Go.Proofs.Ytfghhjcfmmhacaa
open Go Go.RowKit V
set_option linter.unusedVariables false
def hitAt (l : List ClientD) (k : Nat) (c : ClientD) : Bool := match l[k]? with
  | some d => decide (d.fID = c.fID)
  | none => false
theorem hitAt_some {l : List ClientD} {k : Nat} {c d : ClientD} (h : l[k]? = some d) : hitAt l k c = decide (d.fID = c.fID) := by unfold hitAt; rw [h]
theorem hitAt_none {l : List ClientD} {k : Nat} {c : ClientD} (h : ¬ k < l.length) : hitAt l k c = false := by unfold hitAt; rw [List.getElem?_eq_none (by omega)]
set_option maxRecDepth 100000 in
set_option maxHeartbeats 2000000 in
theorem vbin_i (l : List ClientD) (c : ClientD) (k : Nat) (hL : l.length ≤ 1000000000) (hk : k ≤ l.length) (hlo : ∀ u d, u < k → l[u]? = some d → d.fID < c.fID) (hge : ∀ u d, k ≤ u → l[u]? = some d → ¬ d.fID < c.fID) : VC Try.prog 87 [(false, [.seq 35 ((l).map tClient)]), (true, tClient c), (false, [.lit (.func (.func 88) #[] #[])])] true [(false, [.lit (.int .i64 ((k : Int)))]), (false, [.lit (.bool (hitAt l k c))])] := by
  refine VC.enter Try.func87 rfl Try.ntmps87 (gle rfl) fun E hE => ?_
  refine SV.seq' ?_
  refine SV.region ?_
  refine SV.op (OpMk.ok (ok_box (kk := 0) (ag := true) (xs := [.sc _, .sc _, .sc _]) rfl rfl rfl (fun h => by cases h) rfl rfl (gle rfl))) rfl ?_
  refine SV.op (OpL.ok (nb := 1) (ok_move (v := V.one (.sc _)) (.inr rfl) rfl) rfl (gle rfl)) rfl ?_
  refine SV.op (OpL.ok (nb := 1) (ok_move (v := V.one (.sc _)) (.inr rfl) rfl) rfl (gle rfl)) rfl ?_
  refine SV.nil ?_
  refine SV.tn ?_
  refine SV.seq' ?_
  refine SV.region ?_
  refine SV.op (OpL.ok (nb := 1) (ok_move (v := V.one (.ro _)) (.inl rfl) rfl) rfl (gle rfl)) rfl ?_
  refine SV.op (OpL.ok (nb := 1) (ok_len (lf := .ro _) rfl elt_impl_Client.und rfl rfl) rfl (gle rfl)) rfl ?_
  refine SV.op (OpL.ok (nb := 1) (ok_move (v := V.one (.sc _)) (.inr rfl) rfl) rfl (gle rfl)) rfl ?_
  refine SV.nil ?_
  refine SV.tn ?_
  refine SV.seq' ?_
  refine SV.region ?_
  refine SV.op (OpL.ok (nb := 1) (ok_move (v := V.one (.sc _)) (.inl rfl) rfl) rfl (gle rfl)) rfl ?_
  refine SV.op (OpL.ok (nb := 1) (ok_move (v := V.one (.sc _)) (.inr rfl) rfl) rfl (gle rfl)) rfl ?_
  refine SV.op (OpL.ok (nb := 1) (ok_move (v := V.one (.sc _)) (.inr rfl) rfl) rfl (gle rfl)) rfl ?_
  refine SV.nil ?_
  refine SV.tn ?_
  refine SV.seq' ?_
  refine SV.block ?_
  refine SV.loopF (X := Nat × Nat) (fun (σ : VS) z => (((((((((VS.nil.box 35 [σ.bl 0 0, σ.bl 0 1, σ.bl 0 2]).put 0 (σ.tm 0)).put 2 (σ.tm 2)).put 4 (V.flat false [.bp 0 0])).put 6 (σ.tm 6)).put 7 (σ.tm 7)).put 8 (σ.tm 8)).put 9 (V.flat false [.sc (.int .i64 ((z.1 : Int)))])).put 10 (V.flat false [.sc (.int .i64 ((z.2 : Int)))]))) (fun z => z.1 ≤ k ∧ k ≤ z.2 ∧ z.2 ≤ l.length) (fun z => z.2 - z.1) ?_ ?_
  · skip
    refine SV.again (fun i => [].getD i 0) (0, l.length) (⟨Nat.zero_le _, hk, Nat.le_refl _⟩) (pins hE rfl rfl) (VS.le.mk' (le_put (le_put (le_put (le_put (le_put (le_put (le_put (le_put (le_box le_nil) (V.le.keep (ag := false) (xs := [.ro _]) (ys := [.ro _]) rfl rfl ⟨rfl, trivial⟩)) (V.le.keep (ag := false) (xs := [.sc _]) (ys := [.sc _]) rfl rfl ⟨rfl, trivial⟩)) (V.le.keep (ag := false) (xs := [.bp 0 0]) (ys := [.bp 0 0]) rfl rfl ⟨⟨rfl, (gle rfl)⟩, trivial⟩)) (V.le.keep (ag := false) (xs := [.sc _]) (ys := [.sc _]) rfl rfl ⟨rfl, trivial⟩)) (V.le.keep (ag := false) (xs := [.sc _]) (ys := [.sc _]) rfl rfl ⟨rfl, trivial⟩)) (V.le.keep (ag := false) (xs := [.sc _]) (ys := [.sc _]) rfl rfl ⟨rfl, trivial⟩)) (V.le.keep (ag := false) (xs := [.sc _]) (ys := [.sc _]) rfl rfl ⟨(by first | rfl | (show Leaf.sc _ = Leaf.sc _; refine congrArg Leaf.sc ?_; first | rfl | go_num | (simp [cntAll]; done)) | (simp [cntAll]; done) | (simp; omega)), trivial⟩)) (V.le.keep (ag := false) (xs := [.sc _]) (ys := [.sc _]) rfl rfl ⟨(by first | rfl | (show Leaf.sc _ = Leaf.sc _; refine congrArg Leaf.sc ?_; first | rfl | go_num | (simp [cntAll]; done)) | (simp [cntAll]; done) | (simp; omega)), trivial⟩)) ⟨⟨rfl, ⟨rfl, rfl, rfl, trivial⟩⟩, trivial⟩ trivial nil_ob (fun i j hi hj e => absurd hi (Nat.not_lt_zero i)))
  · rintro ⟨i, j⟩ ⟨h1, h2, h3⟩
    dsimp only at h1 h2 h3
    refine SV.seq' ?_
    refine SV.seq' ?_
    refine SV.region ?_
    refine SV.op (OpL.ok (nb := 1) (ok_move (v := V.one (.sc _)) (.inl rfl) rfl) rfl (gle rfl)) rfl ?_
    refine SV.op (OpL.ok (nb := 1) (ok_move (v := V.one (.sc _)) (.inl rfl) rfl) rfl (gle rfl)) rfl ?_
    refine SV.op (OpL.ok (nb := 1) (ok_s2 (x := .tmp 15) (x' := .tmp 16) (VScal.one rfl) (VScal.one rfl) (fun ρ h1 h2 w => by go_simp; (try go_bits); with_reducible rfl) rfl) rfl (gle rfl)) rfl ?_
    refine SV.nil ?_
    refine SV.tn ?_
    refine SV.cond rfl (fun hc0 => ?_) (fun hc0 => ?_)
    · skip   -- c0.T
      have hij : i < j := by simpa using hc0
      obtain ⟨d, hd⟩ : ∃ d, l[((i + j) / 2)]? = some d := ⟨_, List.getElem?_eq_getElem (by omega)⟩
      refine SV.skip ?_
      refine SV.tn ?_
      refine SV.block ?_
      refine SV.seq' ?_
      refine SV.region ?_
      refine SV.op (OpL.ok (nb := 1) (ok_move (v := V.one (.sc _)) (.inl rfl) rfl) rfl (gle rfl)) rfl ?_
      refine SV.op (OpL.ok (nb := 1) (ok_move (v := V.one (.sc _)) (.inl rfl) rfl) rfl (gle rfl)) rfl ?_
      refine SV.op (OpL.ok (nb := 1) (ok_s2 (v := .int .i64 ((i + j : Nat) : Int)) (x := .tmp 18) (x' := .tmp 19) (VScal.one rfl) (VScal.one rfl) (fun ρ h1 h2 w => by go_simp; rw [IntWalk.i64_left, IntWalk.wrap64_in _ ⟨by omega, by omega⟩] <;> first | rfl | omega | (congr 1; omega)) rfl) rfl (gle rfl)) rfl ?_
      refine SV.op (OpL.ok (nb := 1) (ok_s1 (v := .int .u64 ((i + j : Nat) : Int)) (x := .tmp 20) (VScal.one rfl) (fun ρ h1 w => by go_simp; first | rfl | (rw [IntKind.wrap_u64]; congr 1; omega)) rfl) rfl (gle rfl)) rfl ?_
      refine SV.op (OpL.ok (nb := 1) (ok_s2 (v := .int .u64 ((((i + j) / 2) : Nat) : Int)) (x := .tmp 21) (x' := .const ((Value.int IntKind.u64 1))) (VScal.one rfl) (VScal.one rfl) (fun ρ h1 h2 w => by go_simp) rfl) rfl (gle rfl)) rfl ?_
      refine SV.op (OpL.ok (nb := 1) (ok_s1 (v := .int .i64 ((((i + j) / 2) : Nat) : Int)) (x := .tmp 22) (VScal.one rfl) (fun ρ h1 w => by go_simp; first | (congr 1; rw [IntKind.wrap_i64]; omega) | (rw [IntKind.wrap_i64]; omega)) rfl) rfl (gle rfl)) rfl ?_
      refine SV.op (OpL.ok (nb := 1) (ok_move (v := V.one (.sc _)) (.inr rfl) rfl) rfl (gle rfl)) rfl ?_
      refine SV.nil ?_
      refine SV.tn ?_
      refine SV.seq' ?_
      refine SV.draw [.q 0, .q 1, .q 2, .q 3, .q 4, .q 5, .m 6, .q 7] [] (by kernel_rfl) (by kernel_rfl) ?_
      refine DW.q rfl (ok_move (v := V.one (.sc _)) (.inl rfl) rfl) rfl rfl (gle rfl) (fun _ _ _ _ h => h) ?_
      refine DW.q rfl (ok_move (v := V.one (.ro _)) (.inl rfl) rfl) rfl rfl (gle rfl) (fun _ _ _ _ h => h) ?_
      refine DW.q rfl (ok_move (v := V.one (.sc _)) (.inl rfl) rfl) rfl rfl (gle rfl) (fun _ _ _ _ h => h) ?_
      refine DW.q rfl (ok_index (n := 3) (lf := .ro _) rfl elt_impl_Client.und sz_impl_Client rfl rfl rfl (map_at hd)) rfl rfl (gle rfl) (fun _ _ _ _ h => h) ?_
      refine DW.q rfl (ok_load_rp (ag := true) (m := 3) (ys := [.sc _, .sc _, .sc _]) rfl rfl agg_impl_Client sz_impl_Client (fun h => by cases h) (gle rfl) rfl) rfl rfl (gle rfl) (fun _ _ _ _ h => h) ?_
      refine DW.q rfl (ok_load_bp (b := 0) (i := 0) (ag := true) (m := 3) (ys := [.sc _, .sc _, .sc _]) rfl rfl rfl agg_impl_Client sz_impl_Client (fun h => by cases h) rfl rfl (gle rfl)) rfl rfl (gle rfl) (fun _ _ _ _ h => h) ?_
      refine DW.m [] rfl (ok_callV (ls := [(false, [.sc _])]) rfl rfl rfl (fun h => by cases h) ⟨_, _, Try.func88, rfl, by decide⟩ (vcmpid_i d c) ⟨⟨[.sc _, .sc _, .sc _], rfl, ⟨rfl, rfl, rfl, trivial⟩⟩, ⟨[.sc _, .sc _, .sc _], rfl, ⟨rfl, rfl, rfl, trivial⟩⟩, trivial⟩ rfl (gle rfl)) rfl (gle rfl) (gle rfl) (.inl rfl) (fun j hj => by cases hj) ?_
      refine DW.q rfl (ok_s2 (x := .tmp 30) (x' := .const ((Value.int IntKind.i64 0))) (VScal.one rfl) (VScal.one rfl) (fun ρ h1 h2 w => by go_simp; (try go_bits); with_reducible rfl) rfl) rfl rfl (gle rfl) (fun _ _ _ _ h => h) ?_
      refine DW.stores ?_
      refine SV.zend ?_
      refine SV.tn ?_
      refine SV.cond rfl (fun hc1 => ?_) (fun hc1 => ?_)
      · skip   -- c1.T
        have hlt : d.fID < c.fID := cmpI_neg.1 (by simpa using hc1)
        have hk1 : ((i + j) / 2) < k := by
          rcases Nat.lt_or_ge ((i + j) / 2) k with h | h
          · exact h
          · exact absurd hlt (hge _ d h hd)
        refine SV.region ?_
        refine SV.op (OpL.ok (nb := 1) (ok_move (v := V.one (.sc _)) (.inl rfl) rfl) rfl (gle rfl)) rfl ?_
        refine SV.op (OpL.ok (nb := 1) (ok_s2 (v := .int .i64 ((((i + j) / 2) + 1 : Nat) : Int)) (x := .tmp 32) (x' := .const ((Value.int IntKind.i64 1))) (VScal.one rfl) (VScal.one rfl) (fun ρ h1 h2 w => by go_simp; rw [IntWalk.i64_left, IntWalk.wrap64_in _ ⟨by omega, by omega⟩] <;> first | rfl | omega | (congr 1; omega)) rfl) rfl (gle rfl)) rfl ?_
        refine SV.op (OpL.ok (nb := 1) (ok_move (v := V.one (.sc _)) (.inr rfl) rfl) rfl (gle rfl)) rfl ?_
        refine SV.nil ?_
        refine SV.bn ?_
        refine SV.tn ?_
        refine SV.again (fun i => [].getD i 0) ((((i + j) / 2) + 1, j)) (⟨⟨by show ((i + j) / 2) + 1 ≤ k; omega, h2, h3⟩, by show j - (((i + j) / 2) + 1) < j - i; omega⟩) (pins hE rfl rfl) (VS.le.mk' (le_put (le_put (le_put (le_put (le_put (le_put (le_put (le_put (le_box le_nil) (V.le.keep (ag := false) (xs := [.ro _]) (ys := [.ro _]) rfl rfl ⟨rfl, trivial⟩)) (V.le.keep (ag := false) (xs := [.sc _]) (ys := [.sc _]) rfl rfl ⟨rfl, trivial⟩)) (V.le.keep (ag := false) (xs := [.bp 0 0]) (ys := [.bp 0 0]) rfl rfl ⟨⟨rfl, (gle rfl)⟩, trivial⟩)) (V.le.keep (ag := false) (xs := [.sc _]) (ys := [.sc _]) rfl rfl ⟨rfl, trivial⟩)) (V.le.keep (ag := false) (xs := [.sc _]) (ys := [.sc _]) rfl rfl ⟨rfl, trivial⟩)) (V.le.keep (ag := false) (xs := [.sc _]) (ys := [.sc _]) rfl rfl ⟨rfl, trivial⟩)) (V.le.keep (ag := false) (xs := [.sc _]) (ys := [.sc _]) rfl rfl ⟨(by first | rfl | (show Leaf.sc _ = Leaf.sc _; refine congrArg Leaf.sc ?_; first | rfl | go_num | (simp [cntAll]; done)) | (simp [cntAll]; done) | (simp; omega)), trivial⟩)) (V.le.keep (ag := false) (xs := [.sc _]) (ys := [.sc _]) rfl rfl ⟨(by first | rfl | (show Leaf.sc _ = Leaf.sc _; refine congrArg Leaf.sc ?_; first | rfl | go_num | (simp [cntAll]; done)) | (simp [cntAll]; done) | (simp; omega)), trivial⟩)) ⟨⟨rfl, ⟨rfl, rfl, rfl, trivial⟩⟩, trivial⟩ trivial nil_ob (fun i j hi hj e => absurd hi (Nat.not_lt_zero i)))
      · skip   -- c1.F
        have hnl : ¬ d.fID < c.fID := fun e => by have := cmpI_neg.2 e; simp at hc1; omega
        have hk2 : k ≤ ((i + j) / 2) := by
          rcases Nat.lt_or_ge ((i + j) / 2) k with h | h
          · exact absurd (hlo _ d h hd) hnl
          · exact h
        refine SV.region ?_
        refine SV.op (OpL.ok (nb := 1) (ok_move (v := V.one (.sc _)) (.inl rfl) rfl) rfl (gle rfl)) rfl ?_
        refine SV.op (OpL.ok (nb := 1) (ok_move (v := V.one (.sc _)) (.inr rfl) rfl) rfl (gle rfl)) rfl ?_
        refine SV.nil ?_
        refine SV.bn ?_
        refine SV.tn ?_
        refine SV.again (fun i => [].getD i 0) ((i, ((i + j) / 2))) (⟨⟨h1, hk2, by show ((i + j) / 2) ≤ l.length; omega⟩, by show ((i + j) / 2) - i < j - i; omega⟩) (pins hE rfl rfl) (VS.le.mk' (le_put (le_put (le_put (le_put (le_put (le_put (le_put (le_put (le_box le_nil) (V.le.keep (ag := false) (xs := [.ro _]) (ys := [.ro _]) rfl rfl ⟨rfl, trivial⟩)) (V.le.keep (ag := false) (xs := [.sc _]) (ys := [.sc _]) rfl rfl ⟨rfl, trivial⟩)) (V.le.keep (ag := false) (xs := [.bp 0 0]) (ys := [.bp 0 0]) rfl rfl ⟨⟨rfl, (gle rfl)⟩, trivial⟩)) (V.le.keep (ag := false) (xs := [.sc _]) (ys := [.sc _]) rfl rfl ⟨rfl, trivial⟩)) (V.le.keep (ag := false) (xs := [.sc _]) (ys := [.sc _]) rfl rfl ⟨rfl, trivial⟩)) (V.le.keep (ag := false) (xs := [.sc _]) (ys := [.sc _]) rfl rfl ⟨rfl, trivial⟩)) (V.le.keep (ag := false) (xs := [.sc _]) (ys := [.sc _]) rfl rfl ⟨(by first | rfl | (show Leaf.sc _ = Leaf.sc _; refine congrArg Leaf.sc ?_; first | rfl | go_num | (simp [cntAll]; done)) | (simp [cntAll]; done) | (simp; omega)), trivial⟩)) (V.le.keep (ag := false) (xs := [.sc _]) (ys := [.sc _]) rfl rfl ⟨(by first | rfl | (show Leaf.sc _ = Leaf.sc _; refine congrArg Leaf.sc ?_; first | rfl | go_num | (simp [cntAll]; done)) | (simp [cntAll]; done) | (simp; omega)), trivial⟩)) ⟨⟨rfl, ⟨rfl, rfl, rfl, trivial⟩⟩, trivial⟩ trivial nil_ob (fun i j hi hj e => absurd hi (Nat.not_lt_zero i)))
    · skip   -- c0.F
      have hik : i ≤ k ∧ k ≤ i := by simp at hc0; omega
      refine SV.exit ?_
      refine SV.te ?_
      refine SV.te ?_
      refine SV.bh ?_
      refine SV.tn ?_
      refine SV.seq' ?_
      refine SV.draw [.q 0, .q 1, .q 2, .q 3, .q 4, .q 5, .q 6, .q 7, .q 8, .q 9, .q 10, .m 11, .q 12, .q 13, .q 14, .q 15] [] (by kernel_rfl) (by kernel_rfl) ?_
      refine DW.q rfl (ok_move (v := V.one (.sc _)) (.inl rfl) rfl) rfl rfl (gle rfl) (fun _ _ _ _ h => h) ?_
      refine DW.q rfl (ok_move (v := V.one (.sc _)) (.inl rfl) rfl) rfl rfl (gle rfl) (fun _ _ _ _ h => h) ?_
      refine DW.q rfl (ok_move (v := V.one (.sc _)) (.inl rfl) rfl) rfl rfl (gle rfl) (fun _ _ _ _ h => h) ?_
      refine DW.q rfl (ok_s2 (x := .tmp 36) (x' := .tmp 37) (VScal.one rfl) (VScal.one rfl) (fun ρ h1 h2 w => by go_simp; (try go_bits); with_reducible rfl) rfl) rfl rfl (gle rfl) (fun _ _ _ _ h => h) ?_
      refine DW.q rfl (ok_move (v := V.one (.sc _)) (.inl rfl) rfl) rfl rfl (gle rfl) (fun _ _ _ _ h => h) ?_
      refine DW.split (d := 39) rfl (fun hg0 => ?_) (fun hg0 => ?_)
      · skip   -- g0.T
        have hil : i < l.length := by simpa using hg0
        obtain ⟨d, hd⟩ : ∃ d, l[i]? = some d := ⟨_, List.getElem?_eq_getElem hil⟩
        have hh := hitAt_some (c := c) hd
        refine DW.qY rfl (ok_move (v := V.one (.sc _)) (.inl rfl) rfl) rfl rfl rfl (gle rfl) rfl rfl rfl (gle rfl) (fun _ _ _ _ h => h) ?_
        refine DW.qY rfl (ok_move (v := V.one (.ro _)) (.inl rfl) rfl) rfl rfl rfl (gle rfl) rfl rfl rfl (gle rfl) (fun _ _ _ _ h => h) ?_
        refine DW.qY rfl (ok_move (v := V.one (.sc _)) (.inl rfl) rfl) rfl rfl rfl (gle rfl) rfl rfl rfl (gle rfl) (fun _ _ _ _ h => h) ?_
        refine DW.qY rfl (ok_index (n := 3) (lf := .ro _) rfl elt_impl_Client.und sz_impl_Client rfl rfl rfl (map_at hd)) rfl rfl rfl (gle rfl) rfl rfl rfl (gle rfl) (fun _ _ _ _ h => h) ?_
        refine DW.qY rfl (ok_load_rp (ag := true) (m := 3) (ys := [.sc _, .sc _, .sc _]) rfl rfl agg_impl_Client sz_impl_Client (fun h => by cases h) (gle rfl) rfl) rfl rfl rfl (gle rfl) rfl rfl rfl (gle rfl) (fun _ _ _ _ h => h) ?_
        refine DW.qY rfl (ok_load_bp (b := 0) (i := 0) (ag := true) (m := 3) (ys := [.sc _, .sc _, .sc _]) rfl rfl rfl agg_impl_Client sz_impl_Client (fun h => by cases h) rfl rfl (gle rfl)) rfl rfl rfl (gle rfl) rfl rfl rfl (gle rfl) (fun _ _ _ _ h => h) ?_
        refine DW.m' [] rfl (ok_callV (ls := [(false, [.sc _])]) rfl rfl rfl (fun h => by cases h) ⟨_, _, Try.func88, rfl, by decide⟩ (vcmpid_i d c) ⟨⟨[.sc _, .sc _, .sc _], rfl, ⟨rfl, rfl, rfl, trivial⟩⟩, ⟨[.sc _, .sc _, .sc _], rfl, ⟨rfl, rfl, rfl, trivial⟩⟩, trivial⟩ rfl (gle rfl)) (fun hr => wantedY hr rfl rfl rfl (gle rfl) rfl rfl) (gle rfl) (gle rfl) (.inl rfl) (fun j hj => by cases hj) ?_
        refine DW.qY rfl (ok_s2 (x := .tmp 46) (x' := .const ((Value.int IntKind.i64 0))) (VScal.one rfl) (VScal.one rfl) (fun ρ h1 h2 w => by go_simp; (try go_bits); with_reducible rfl) rfl) rfl rfl rfl (gle rfl) rfl rfl rfl (gle rfl) (fun _ _ _ _ h => h) ?_
        refine DW.q rfl (ok_pickT (v := V.one (.sc _)) rfl rfl rfl) rfl rfl (gle rfl) (fun _ _ _ _ h => h) ?_
        refine DW.q rfl (ok_move (v := V.one (.sc _)) (.inr rfl) rfl) rfl rfl (gle rfl) (fun _ _ _ _ h => h) ?_
        refine DW.q rfl (ok_move (v := V.one (.sc _)) (.inr rfl) rfl) rfl rfl (gle rfl) (fun _ _ _ _ h => h) ?_
        refine DW.stores ?_
        refine SV.zend ?_
        refine SV.tn ?_
        refine SV.ret ?_
        apply SV.done (hf := Try.results87) (ht := rfl) (he := .inl rfl)
        case hr => exact (ResAll.cons (ResOk.tmp (ag := false) (xs := [.sc _]) rfl) (ResAll.cons (ResOk.tmp (ag := false) (xs := [.sc _]) rfl) ResAll.nil'))
        case h2 => simp [two]
        refine ⟨rfl, ⟨?_, trivial⟩, ⟨rfl, ⟨?_, trivial⟩, trivial⟩⟩ <;> first | ((show some (T.lit (Value.int .i64 _)) = some (T.lit (Value.int .i64 _)); refine congrArg (fun z => some (T.lit (Value.int .i64 z))) ?_; omega)) | ((show some (T.lit (Value.bool _)) = some (T.lit (Value.bool _)); refine congrArg (fun z => some (T.lit (Value.bool z))) ?_; (rw [show k = i by omega, hh]; first | done | rfl | (rw [Bool.eq_iff_iff]; simp [cmpI_zero]))))
      · skip   -- g0.F
        have hh := hitAt_none (l := l) (k := i) (c := c) (by simpa using hg0)
        refine DW.qN (V' := V.one .dead) rfl rfl rfl rfl (gle rfl) rfl rfl rfl (gle rfl) (fun _ _ _ _ h => h) ?_
        refine DW.qN (V' := V.one .dead) rfl rfl rfl rfl (gle rfl) rfl rfl rfl (gle rfl) (fun _ _ _ _ h => h) ?_
        refine DW.qN (V' := V.one .dead) rfl rfl rfl rfl (gle rfl) rfl rfl rfl (gle rfl) (fun _ _ _ _ h => h) ?_
        refine DW.qN (V' := V.one .dead) rfl rfl rfl rfl (gle rfl) rfl rfl rfl (gle rfl) (fun _ _ _ _ h => h) ?_
        refine DW.qN (V' := V.one .dead) rfl rfl rfl rfl (gle rfl) rfl rfl rfl (gle rfl) (fun _ _ _ _ h => h) ?_
        refine DW.qN (V' := V.one .dead) rfl rfl rfl rfl (gle rfl) rfl rfl rfl (gle rfl) (fun _ _ _ _ h => h) ?_
        refine DW.mN rfl rfl rfl rfl (gle rfl) rfl rfl rfl (gle rfl) ?_
        refine DW.qN (V' := V.one .dead) rfl rfl rfl rfl (gle rfl) rfl rfl rfl (gle rfl) (fun _ _ _ _ h => h) ?_
        refine DW.q rfl (ok_pickF (v := V.one (.sc _)) rfl rfl rfl) rfl rfl (gle rfl) (fun _ _ _ _ h => h) ?_
        refine DW.q rfl (ok_move (v := V.one (.sc _)) (.inr rfl) rfl) rfl rfl (gle rfl) (fun _ _ _ _ h => h) ?_
        refine DW.q rfl (ok_move (v := V.one (.sc _)) (.inr rfl) rfl) rfl rfl (gle rfl) (fun _ _ _ _ h => h) ?_
        refine DW.stores ?_
        refine SV.zend ?_
        refine SV.tn ?_
        refine SV.ret ?_
        apply SV.done (hf := Try.results87) (ht := rfl) (he := .inl rfl)
        case hr => exact (ResAll.cons (ResOk.tmp (ag := false) (xs := [.sc _]) rfl) (ResAll.cons (ResOk.tmp (ag := false) (xs := [.sc _]) rfl) ResAll.nil'))
        case h2 => simp [two]
        refine ⟨rfl, ⟨?_, trivial⟩, ⟨rfl, ⟨?_, trivial⟩, trivial⟩⟩ <;> first | ((show some (T.lit (Value.int .i64 _)) = some (T.lit (Value.int .i64 _)); refine congrArg (fun z => some (T.lit (Value.int .i64 z))) ?_; omega)) | ((show some (T.lit (Value.bool _)) = some (T.lit (Value.bool _)); refine congrArg (fun z => some (T.lit (Value.bool z))) ?_; (rw [show k = i by omega, hh]; first | done | rfl | (rw [Bool.eq_iff_iff]; simp [cmpI_zero]))))
end Go.Proofs.Ytfghhjcfmmhacaa
/- The program's copies and comparisons of brokers: told by trees. -/
namespace Go.Proofs.Ytfghhjcfmmhacaa
open Go Go.RowKit V
set_option linter.unusedVariables false
set_option maxRecDepth 100000 in
set_option maxHeartbeats 2000000 in
theorem vclonec (X : List ClientD) (hX : X.length ≤ 350000000000) : VC Try.prog 84 [(false, [.seq 35 ((X).map tClient)])] false [(false, [.seq 35 ((X).map tClient)])] := by
  refine VC.enter Try.func84 rfl Try.ntmps84 (gle rfl) fun E hE => ?_
  refine SV.seq' ?_
  refine SV.region ?_
  refine SV.op (OpL.ok (nb := 0) (ok_move (v := V.one (.sc _)) (.inr rfl) rfl) rfl (gle rfl)) rfl ?_
  refine SV.nil ?_
  refine SV.tn ?_
  refine SV.seq' ?_
  refine SV.seq' ?_
  refine SV.region ?_
  refine SV.op (OpL.ok (nb := 0) (ok_move (v := V.one (.ro _)) (.inl rfl) rfl) rfl (gle rfl)) rfl ?_
  refine SV.isnil (d := 4) (x := .tmp 3) (y := .const ((Value.slice none 0 0))) rfl rfl rfl (gle rfl) rfl (fun ρ ad n c w h1 h2 => by (cases ad <;> (go_simp; first | done | rfl | (simp [h1, h2]; done)))) (fun hg0 => ?_) ?_
  · skip   -- g0.T
    refine SV.nil ?_
    refine SV.tn ?_
    refine SV.cond rfl (fun hc0 => ?_) (fun hc0 => ?_)
    · skip   -- c0.T
      refine SV.seq' ?_
      refine SV.region ?_
      refine SV.op (OpL.ok (nb := 0) (ok_move (v := V.one (.sc _)) (.inr rfl) rfl) rfl (gle rfl)) rfl ?_
      refine SV.nil ?_
      refine SV.tn ?_
      refine SV.ret ?_
      refine SV.tr ?_
      refine SV.nlsc (s := 2) (kk := 0) (n := 3) rfl rfl (by decide) sz_impl_Client (gle rfl) ?_
      apply SV.done (hf := Try.results84) (ht := rfl) (he := .inr rfl)
      case hr => exact (ResAll.cons (ResOk.tmp (ag := false) (xs := [.hd 0]) rfl) ResAll.nil')
      case h2 => simp [two]
      refine ⟨rfl, ⟨?_, trivial⟩, trivial⟩ <;> (show some (T.seq _ _) = some (T.seq _ _); first | rfl | (rw [hg0]; done) | (simp; done))
    · skip   -- c0.F
      cases hc0
  · skip   -- g0.F
    refine SV.nil ?_
    refine SV.tn ?_
    refine SV.cond rfl (fun hc1 => ?_) (fun hc1 => ?_)
    · skip   -- c1.T
      cases hc1
    · skip   -- c1.F
      refine SV.skip ?_
      refine SV.tn ?_
      refine SV.seq' ?_
      refine SV.region ?_
      refine SV.op (OpMk.ok (ok_lit0 (kk := 0) elt_impl_Client rfl rfl rfl (gle rfl))) rfl ?_
      refine SV.op (OpL.ok (nb := 0) (ok_move (v := V.one (.ro _)) (.inl rfl) rfl) rfl (gle rfl)) rfl ?_
      refine SV.op (OpMk.ok (ok_append_ro (kk := 1) elt_impl_Client (ls := .hd 0) (lx := .ro _) rfl rfl rfl rfl rfl rfl (flat_impl_Client _) (by simp; omega) rfl (gle rfl))) rfl ?_
      refine SV.op (OpL.ok (nb := 0) (ok_move (v := V.one (.hd 1)) (.inr rfl) rfl) rfl (gle rfl)) rfl ?_
      refine SV.nil ?_
      refine SV.tn ?_
      refine SV.ret ?_
      apply SV.done (hf := Try.results84) (ht := rfl) (he := .inl rfl)
      case hr => exact (ResAll.cons (ResOk.tmp (ag := false) (xs := [.hd 1]) rfl) ResAll.nil')
      case h2 => simp [two]
      refine ⟨rfl, ⟨?_, trivial⟩, trivial⟩ <;> (show some (T.seq _ _) = some (T.seq _ _); first | rfl | (rw [hg0]; done) | (simp; done))
set_option maxRecDepth 100000 in
set_option maxHeartbeats 2000000 in
theorem vcloneb_i (b : BrokerD) (hA : b.fActive.length ≤ 1000000000) (hW : b.fWaiting.length ≤ 1000000000) : VC Try.prog 60 [(true, tBroker b)] false [(true, tBroker (b))] := by
  refine VC.enter Try.func60 rfl Try.ntmps60 (gle rfl) fun E hE => ?_
  refine SV.seq' ?_
  refine SV.region ?_
  refine SV.op (OpMk.ok (ok_box (kk := 0) (ag := true) (xs := [.sc _, .sc _, .ro _, .ro _]) rfl rfl rfl (fun h => by cases h) rfl rfl (gle rfl))) rfl ?_
  refine SV.op (OpMk.ok (ok_alloc (kk := 1) (xs := [.sc _, .sc _, .nl _, .nl _]) rfl rfl zero_impl_Broker ⟨rfl, rfl, rfl, rfl, rfl, ⟨3, by decide, sz_impl_Client⟩, rfl, ⟨3, by decide, sz_impl_Client⟩, trivial⟩ rfl (gle rfl))) rfl ?_
  refine SV.nil ?_
  refine SV.tn ?_
  refine SV.seq' ?_
  refine SV.region ?_
  refine SV.op (OpL.ok (nb := 2) (ok_field_bp (b := 0) (o' := 0) (off := 2) rfl rfl fld_impl_Broker_2) rfl (gle rfl)) rfl ?_
  refine SV.op (OpL.ok (nb := 2) (ok_load_bp (b := 0) (i := 2) (ag := false) (m := 1) (ys := [.ro _]) rfl rfl rfl agg_s_impl_Client sz_s_impl_Client (fun _ => rfl) rfl rfl (gle rfl)) rfl (gle rfl)) rfl ?_
  refine SV.op (OpMk.ok (ok_call (ls := [(false, [.hd 0])]) rfl rfl ⟨_, _, Try.func84, rfl, by decide⟩ (vclonec b.fActive (by omega)) ⟨⟨[.ro _], rfl, ⟨rfl, trivial⟩⟩, trivial⟩ rfl (gle rfl))) rfl ?_
  refine SV.op (OpL.ok (nb := 2) (ok_field_bp (b := 0) (o' := 0) (off := 2) rfl rfl fld_impl_Broker_2) rfl (gle rfl)) rfl ?_
  refine SV.op (ok_store_bp (b := 0) (i := 2) (m := 1) (ag := false) (zs := [.hd 0]) (ys := [.sc _, .sc _, .hd 0, .ro _]) rfl rfl rfl rfl sz_s_impl_Client (fun _ => rfl) rfl (gle rfl) rfl rfl rfl) rfl ?_
  refine SV.nil ?_
  refine SV.tn ?_
  refine SV.seq' ?_
  refine SV.region ?_
  refine SV.op (OpL.ok (nb := 2) (ok_field_bp (b := 0) (o' := 0) (off := 3) rfl rfl fld_impl_Broker_3) rfl (gle rfl)) rfl ?_
  refine SV.op (OpL.ok (nb := 2) (ok_load_bp (b := 0) (i := 3) (ag := false) (m := 1) (ys := [.ro _]) rfl rfl rfl agg_s_impl_Client sz_s_impl_Client (fun _ => rfl) rfl rfl (gle rfl)) rfl (gle rfl)) rfl ?_
  refine SV.op (OpMk.ok (ok_call (ls := [(false, [.hd 1])]) rfl rfl ⟨_, _, Try.func84, rfl, by decide⟩ (vclonec b.fWaiting (by omega)) ⟨⟨[.ro _], rfl, ⟨rfl, trivial⟩⟩, trivial⟩ rfl (gle rfl))) rfl ?_
  refine SV.op (OpL.ok (nb := 2) (ok_field_bp (b := 0) (o' := 0) (off := 3) rfl rfl fld_impl_Broker_3) rfl (gle rfl)) rfl ?_
  refine SV.op (ok_store_bp (b := 0) (i := 3) (m := 1) (ag := false) (zs := [.hd 1]) (ys := [.sc _, .sc _, .hd 0, .hd 1]) rfl rfl rfl rfl sz_s_impl_Client (fun _ => rfl) rfl (gle rfl) rfl rfl rfl) rfl ?_
  refine SV.nil ?_
  refine SV.tn ?_
  refine SV.seq' ?_
  refine SV.region ?_
  refine SV.op (OpL.ok (nb := 2) (ok_load_bp (b := 0) (i := 0) (ag := true) (m := 4) (ys := [.sc _, .sc _, .hd 0, .hd 1]) rfl rfl rfl agg_impl_Broker sz_impl_Broker (fun h => by cases h) rfl rfl (gle rfl)) rfl (gle rfl)) rfl ?_
  refine SV.op (ok_store_bp (b := 1) (i := 0) (m := 4) (ag := true) (zs := [.sc _, .sc _, .hd 0, .hd 1]) (ys := [.sc _, .sc _, .hd 0, .hd 1]) rfl rfl rfl rfl sz_impl_Broker (fun h => by cases h) rfl (gle rfl) rfl rfl rfl) rfl ?_
  refine SV.nil ?_
  refine SV.tn ?_
  refine SV.ret ?_
  apply SV.done (hf := Try.results60) (ht := rfl) (he := .inl rfl)
  case hr => exact (ResAll.cons (ResOk.cell (b := 1) (ag := true) (xs := [.sc _, .sc _, .hd 0, .hd 1]) rfl rfl agg_impl_Broker sz_impl_Broker (fun h => by cases h)) ResAll.nil')
  case h2 => simp [two]
  refine ⟨rfl, ⟨?_, ?_, ?_, ?_, trivial⟩, trivial⟩ <;> rfl
set_option maxRecDepth 100000 in
set_option maxHeartbeats 2000000 in
theorem veqc (X Y : List ClientD) (hX : X.length ≤ 350000000000) : VC Try.prog 73 [(false, [.seq 35 ((X).map tClient)]), (false, [.seq 35 ((Y).map tClient)])] false [(false, [.lit (.bool (decide (X = Y)))])] := by
  refine VC.enter Try.func73 rfl Try.ntmps73 (gle rfl) fun E hE => ?_
  refine SV.seq' ?_
  refine SV.region ?_
  refine SV.op (OpL.ok (nb := 0) (ok_move (v := V.one (.sc _)) (.inr rfl) rfl) rfl (gle rfl)) rfl ?_
  refine SV.nil ?_
  refine SV.tn ?_
  refine SV.seq' ?_
  refine SV.seq' ?_
  refine SV.region ?_
  refine SV.op (OpL.ok (nb := 0) (ok_move (v := V.one (.ro _)) (.inl rfl) rfl) rfl (gle rfl)) rfl ?_
  refine SV.op (OpL.ok (nb := 0) (ok_len (lf := .ro _) rfl elt_impl_Client.und rfl rfl) rfl (gle rfl)) rfl ?_
  refine SV.op (OpL.ok (nb := 0) (ok_move (v := V.one (.ro _)) (.inl rfl) rfl) rfl (gle rfl)) rfl ?_
  refine SV.op (OpL.ok (nb := 0) (ok_len (lf := .ro _) rfl elt_impl_Client.und rfl rfl) rfl (gle rfl)) rfl ?_
  refine SV.op (OpL.ok (nb := 0) (ok_s2 (x := .tmp 7) (x' := .tmp 9) (VScal.one rfl) (VScal.one rfl) (fun ρ h1 h2 w => by go_simp; (try go_bits); with_reducible rfl) rfl) rfl (gle rfl)) rfl ?_
  refine SV.nil ?_
  refine SV.tn ?_
  refine SV.cond rfl (fun hc0 => ?_) (fun hc0 => ?_)
  · skip   -- c0.T
    have hne : X ≠ Y := fun e => by subst e; exact (by simp at hc0)
    refine SV.seq' ?_
    refine SV.region ?_
    refine SV.op (OpL.ok (nb := 0) (ok_move (v := V.one (.sc _)) (.inr rfl) rfl) rfl (gle rfl)) rfl ?_
    refine SV.nil ?_
    refine SV.tn ?_
    refine SV.ret ?_
    refine SV.tr ?_
    apply SV.done (hf := Try.results73) (ht := rfl) (he := .inl rfl)
    case hr => exact (ResAll.cons (ResOk.tmp (ag := false) (xs := [.sc _]) rfl) ResAll.nil')
    case h2 => simp [two]
    refine ⟨rfl, ⟨?_, trivial⟩, trivial⟩ <;> (show some (T.lit (Value.bool _)) = some (T.lit (Value.bool _)); refine congrArg (fun z => some (T.lit (Value.bool z))) ?_; first | (rw [decide_eq_true hXY]; done) | (rw [decide_eq_false hne]; done) | (simp [hXY]; done) | (simp [hne]; done))
  · skip   -- c0.F
    have hlen : X.length = Y.length := by simp at hc0; omega
    refine SV.skip ?_
    refine SV.tn ?_
    refine SV.seq' ?_
    refine SV.seq' ?_
    refine SV.region ?_
    refine SV.op (OpL.ok (nb := 0) (ok_move (v := V.one (.ro _)) (.inl rfl) rfl) rfl (gle rfl)) rfl ?_
    refine SV.op (OpL.ok (nb := 0) (ok_len (lf := .ro _) rfl elt_impl_Client.und rfl rfl) rfl (gle rfl)) rfl ?_
    refine SV.op (OpL.ok (nb := 0) (ok_move (v := V.one (.sc _)) (.inl rfl) rfl) rfl (gle rfl)) rfl ?_
    refine SV.nil ?_
    refine SV.tn ?_
    refine SV.block ?_
    refine SV.loopF (X := Nat) (fun (σ : VS) t => (((((VS.nil.put 0 (σ.tm 0)).put 1 (σ.tm 1)).put 4 (σ.tm 4)).put 12 (σ.tm 12)).put 13 (V.flat false [.sc (.int .i64 ((t : Int)))]))) (fun t => t ≤ X.length ∧ ∀ u, u < t → X[u]? = Y[u]?) (fun t => X.length - t) ?_ ?_
    · skip
      refine SV.again (fun i => [].getD i 0) 0 (⟨Nat.zero_le _, fun u h => absurd h (Nat.not_lt_zero u)⟩) (pins hE rfl rfl) (VS.le.mk' (le_put (le_put (le_put (le_put (le_put le_nil (V.le.keep (ag := false) (xs := [.ro _]) (ys := [.ro _]) rfl rfl ⟨rfl, trivial⟩)) (V.le.keep (ag := false) (xs := [.ro _]) (ys := [.ro _]) rfl rfl ⟨rfl, trivial⟩)) (V.le.keep (ag := false) (xs := [.sc _]) (ys := [.sc _]) rfl rfl ⟨rfl, trivial⟩)) (V.le.keep (ag := false) (xs := [.sc _]) (ys := [.sc _]) rfl rfl ⟨rfl, trivial⟩)) (V.le.keep (ag := false) (xs := [.sc _]) (ys := [.sc _]) rfl rfl ⟨(by first | rfl | (show Leaf.sc _ = Leaf.sc _; refine congrArg Leaf.sc ?_; first | rfl | go_num | (simp [cntAll]; done)) | (simp [cntAll]; done) | (simp; omega)), trivial⟩)) trivial trivial nil_ob (fun i j hi hj e => absurd hi (Nat.not_lt_zero i)))
    · rintro t ⟨ht, he⟩
      refine SV.seq' ?_
      refine SV.region ?_
      refine SV.op (OpL.ok (nb := 0) (ok_s2 (x := .tmp 13) (x' := .tmp 12) (VScal.one rfl) (VScal.one rfl) (fun ρ h1 h2 w => by go_simp; (try go_bits); with_reducible rfl) rfl) rfl (gle rfl)) rfl ?_
      refine SV.nil ?_
      refine SV.tn ?_
      refine SV.seq' ?_
      refine SV.cond rfl (fun hc1 => ?_) (fun hc1 => ?_)
      · skip   -- c1.T
        have htl : t < X.length := by simp at hc1; omega
        have hx : X[t]? = some X[t] := by simp [htl]
        have hy : Y[t]? = some Y[t] := by simp [← hlen, htl]
        refine SV.skip ?_
        refine SV.tn ?_
        refine SV.seq' ?_
        refine SV.block ?_
        refine SV.seq' ?_
        refine SV.region ?_
        refine SV.op (OpL.ok (nb := 0) (ok_move (v := V.one (.sc _)) (.inl rfl) rfl) rfl (gle rfl)) rfl ?_
        refine SV.op (OpL.ok (nb := 0) (ok_move (v := V.one (.sc _)) (.inr rfl) rfl) rfl (gle rfl)) rfl ?_
        refine SV.nil ?_
        refine SV.tn ?_
        refine SV.seq' ?_
        refine SV.draw [.q 0, .q 1, .q 2, .q 3, .q 4, .q 5, .q 6, .q 7, .q 8] [] (by kernel_rfl) (by kernel_rfl) ?_
        refine DW.q rfl (ok_move (v := V.one (.ro _)) (.inl rfl) rfl) rfl rfl (gle rfl) (fun _ _ _ _ h => h) ?_
        refine DW.q rfl (ok_move (v := V.one (.sc _)) (.inl rfl) rfl) rfl rfl (gle rfl) (fun _ _ _ _ h => h) ?_
        refine DW.q rfl (ok_index (n := 3) (lf := .ro _) rfl elt_impl_Client.und sz_impl_Client rfl rfl rfl (map_at hx)) rfl rfl (gle rfl) (fun _ _ _ _ h => h) ?_
        refine DW.q rfl (ok_load_rp (ag := true) (m := 3) (ys := [.sc _, .sc _, .sc _]) rfl rfl agg_impl_Client sz_impl_Client (fun h => by cases h) (gle rfl) rfl) rfl rfl (gle rfl) (fun _ _ _ _ h => h) ?_
        refine DW.q rfl (ok_move (v := V.one (.ro _)) (.inl rfl) rfl) rfl rfl (gle rfl) (fun _ _ _ _ h => h) ?_
        refine DW.q rfl (ok_move (v := V.one (.sc _)) (.inl rfl) rfl) rfl rfl (gle rfl) (fun _ _ _ _ h => h) ?_
        refine DW.q rfl (ok_index (n := 3) (lf := .ro _) rfl elt_impl_Client.und sz_impl_Client rfl rfl rfl (map_at hy)) rfl rfl (gle rfl) (fun _ _ _ _ h => h) ?_
        refine DW.q rfl (ok_load_rp (ag := true) (m := 3) (ys := [.sc _, .sc _, .sc _]) rfl rfl agg_impl_Client sz_impl_Client (fun h => by cases h) (gle rfl) rfl) rfl rfl (gle rfl) (fun _ _ _ _ h => h) ?_
        refine DW.q rfl (ok_s2 (v := .bool (decide (X[t] ≠ Y[t]))) (x := .tmp 19) (x' := .tmp 23) ⟨true, [_, _, _], rfl, rfl⟩ ⟨true, [_, _, _], rfl, rfl⟩ (fun ρ h1 h2 w => neq_impl_Client X[t] Y[t] ρ _ _ _ w rfl h1 h2) rfl) rfl rfl (gle rfl) (fun _ _ _ _ h => h) ?_
        refine DW.stores ?_
        refine SV.zend ?_
        refine SV.tn ?_
        refine SV.cond rfl (fun hc2 => ?_) (fun hc2 => ?_)
        · skip   -- c2.T
          have hne : X ≠ Y := fun e => by subst e; exact (by simp at hc2)
          refine SV.seq' ?_
          refine SV.region ?_
          refine SV.op (OpL.ok (nb := 0) (ok_move (v := V.one (.sc _)) (.inr rfl) rfl) rfl (gle rfl)) rfl ?_
          refine SV.nil ?_
          refine SV.tn ?_
          refine SV.ret ?_
          refine SV.br ?_
          refine SV.tr ?_
          refine SV.tr ?_
          refine SV.br ?_
          refine SV.tr ?_
          apply SV.done (hf := Try.results73) (ht := rfl) (he := .inl rfl)
          case hr => exact (ResAll.cons (ResOk.tmp (ag := false) (xs := [.sc _]) rfl) ResAll.nil')
          case h2 => simp [two]
          refine ⟨rfl, ⟨?_, trivial⟩, trivial⟩ <;> (show some (T.lit (Value.bool _)) = some (T.lit (Value.bool _)); refine congrArg (fun z => some (T.lit (Value.bool z))) ?_; first | (rw [decide_eq_true hXY]; done) | (rw [decide_eq_false hne]; done) | (simp [hXY]; done) | (simp [hne]; done))
        · skip   -- c2.F
          have hxy : X[t] = Y[t] := by simpa using hc2
          refine SV.skip ?_
          refine SV.bn ?_
          refine SV.tn ?_
          refine SV.region ?_
          refine SV.op (OpL.ok (nb := 0) (ok_s2 (x := .tmp 13) (x' := .const ((Value.int IntKind.i64 1))) (VScal.one rfl) (VScal.one rfl) (fun ρ h1 h2 w => by go_simp; (try go_bits); with_reducible rfl) rfl) rfl (gle rfl)) rfl ?_
          refine SV.op (OpL.ok (nb := 0) (ok_move (v := V.one (.sc _)) (.inl rfl) rfl) rfl (gle rfl)) rfl ?_
          refine SV.nil ?_
          refine SV.tn ?_
          refine SV.again (fun i => [].getD i 0) (t + 1) (⟨⟨by omega, fun u hu => by rcases Nat.lt_or_ge u t with h | h; exact he u h; rw [show u = t by omega, hx, hy, hxy]⟩, by omega⟩) (pins hE rfl rfl) (VS.le.mk' (le_put (le_put (le_put (le_put (le_put le_nil (V.le.keep (ag := false) (xs := [.ro _]) (ys := [.ro _]) rfl rfl ⟨rfl, trivial⟩)) (V.le.keep (ag := false) (xs := [.ro _]) (ys := [.ro _]) rfl rfl ⟨rfl, trivial⟩)) (V.le.keep (ag := false) (xs := [.sc _]) (ys := [.sc _]) rfl rfl ⟨rfl, trivial⟩)) (V.le.keep (ag := false) (xs := [.sc _]) (ys := [.sc _]) rfl rfl ⟨rfl, trivial⟩)) (V.le.keep (ag := false) (xs := [.sc _]) (ys := [.sc _]) rfl rfl ⟨(by first | rfl | (show Leaf.sc _ = Leaf.sc _; refine congrArg Leaf.sc ?_; first | rfl | go_num | (simp [cntAll]; done)) | (simp [cntAll]; done) | (simp; omega)), trivial⟩)) trivial trivial nil_ob (fun i j hi hj e => absurd hi (Nat.not_lt_zero i)))
      · skip   -- c1.F
        have hte : ¬ t < X.length := by simp at hc1; omega
        have hXY : X = Y := List.ext_getElem? fun u => by
          rcases Nat.lt_or_ge u t with h | h
          · exact he u h
          · rw [List.getElem?_eq_none (by omega), List.getElem?_eq_none (by omega)]
        refine SV.exit ?_
        refine SV.te ?_
        refine SV.te ?_
        refine SV.bh ?_
        refine SV.tn ?_
        refine SV.seq' ?_
        refine SV.region ?_
        refine SV.op (OpL.ok (nb := 0) (ok_move (v := V.one (.sc _)) (.inr rfl) rfl) rfl (gle rfl)) rfl ?_
        refine SV.nil ?_
        refine SV.tn ?_
        refine SV.ret ?_
        apply SV.done (hf := Try.results73) (ht := rfl) (he := .inl rfl)
        case hr => exact (ResAll.cons (ResOk.tmp (ag := false) (xs := [.sc _]) rfl) ResAll.nil')
        case h2 => simp [two]
        refine ⟨rfl, ⟨?_, trivial⟩, trivial⟩ <;> (show some (T.lit (Value.bool _)) = some (T.lit (Value.bool _)); refine congrArg (fun z => some (T.lit (Value.bool z))) ?_; first | (rw [decide_eq_true hXY]; done) | (rw [decide_eq_false hne]; done) | (simp [hXY]; done) | (simp [hne]; done))
set_option maxRecDepth 100000 in
set_option maxHeartbeats 2000000 in
theorem veqb_i (a b : BrokerD) (hA : a.fActive.length ≤ 1000000000 ∧ a.fWaiting.length ≤ 1000000000) (hB : b.fActive.length ≤ 1000000000 ∧ b.fWaiting.length ≤ 1000000000) : VC Try.prog 38 [(true, tBroker a), (true, tBroker b)] false [(false, [.lit (.bool (decide (a = b)))])] := by
  refine VC.enter Try.func38 rfl Try.ntmps38 (gle rfl) fun E hE => ?_
  refine SV.seq' ?_
  refine SV.region ?_
  refine SV.op (OpMk.ok (ok_box (kk := 0) (ag := true) (xs := [.sc _, .sc _, .ro _, .ro _]) rfl rfl rfl (fun h => by cases h) rfl rfl (gle rfl))) rfl ?_
  refine SV.op (OpMk.ok (ok_box (kk := 1) (ag := true) (xs := [.sc _, .sc _, .ro _, .ro _]) rfl rfl rfl (fun h => by cases h) rfl rfl (gle rfl))) rfl ?_
  refine SV.op (OpL.ok (nb := 2) (ok_move (v := V.one (.sc _)) (.inr rfl) rfl) rfl (gle rfl)) rfl ?_
  refine SV.nil ?_
  refine SV.tn ?_
  refine SV.seq' ?_
  refine SV.region ?_
  refine SV.op (OpL.ok (nb := 2) (ok_field_bp (b := 0) (o' := 0) (off := 0) rfl rfl fld_impl_Broker_0) rfl (gle rfl)) rfl ?_
  refine SV.op (OpL.ok (nb := 2) (ok_load_bp (b := 0) (i := 0) (ag := false) (m := 1) (ys := [.sc _]) rfl rfl rfl agg_int sz_int (fun _ => rfl) rfl rfl (gle rfl)) rfl (gle rfl)) rfl ?_
  refine SV.op (OpL.ok (nb := 2) (ok_field_bp (b := 1) (o' := 0) (off := 0) rfl rfl fld_impl_Broker_0) rfl (gle rfl)) rfl ?_
  refine SV.op (OpL.ok (nb := 2) (ok_load_bp (b := 1) (i := 0) (ag := false) (m := 1) (ys := [.sc _]) rfl rfl rfl agg_int sz_int (fun _ => rfl) rfl rfl (gle rfl)) rfl (gle rfl)) rfl ?_
  refine SV.op (OpL.ok (nb := 2) (ok_s2 (x := .tmp 6) (x' := .tmp 8) (VScal.one rfl) (VScal.one rfl) (fun ρ h1 h2 w => by go_simp; (try go_bits); with_reducible rfl) rfl) rfl (gle rfl)) rfl ?_
  refine SV.op (OpL.ok (nb := 2) (ok_move (v := V.one (.sc _)) (.inl rfl) rfl) rfl (gle rfl)) rfl ?_
  refine SV.split (d := 10) rfl (fun hg0 => ?_) (fun hg0 => ?_)
  · skip   -- g0.T
    refine SV.opY (OpL.ok (nb := 2) (ok_field_bp (b := 0) (o' := 0) (off := 1) rfl rfl fld_impl_Broker_1) rfl (gle rfl)) rfl rfl rfl (gle rfl) rfl rfl ?_
    refine SV.opY (OpL.ok (nb := 2) (ok_load_bp (b := 0) (i := 1) (ag := false) (m := 1) (ys := [.sc _]) rfl rfl rfl agg_int sz_int (fun _ => rfl) rfl rfl (gle rfl)) rfl (gle rfl)) rfl rfl rfl (gle rfl) rfl rfl ?_
    refine SV.opY (OpL.ok (nb := 2) (ok_field_bp (b := 1) (o' := 0) (off := 1) rfl rfl fld_impl_Broker_1) rfl (gle rfl)) rfl rfl rfl (gle rfl) rfl rfl ?_
    refine SV.opY (OpL.ok (nb := 2) (ok_load_bp (b := 1) (i := 1) (ag := false) (m := 1) (ys := [.sc _]) rfl rfl rfl agg_int sz_int (fun _ => rfl) rfl rfl (gle rfl)) rfl (gle rfl)) rfl rfl rfl (gle rfl) rfl rfl ?_
    refine SV.opY (OpL.ok (nb := 2) (ok_s2 (x := .tmp 12) (x' := .tmp 14) (VScal.one rfl) (VScal.one rfl) (fun ρ h1 h2 w => by go_simp; (try go_bits); with_reducible rfl) rfl) rfl (gle rfl)) rfl rfl rfl (gle rfl) rfl rfl ?_
    refine SV.op (OpL.ok (nb := 2) (ok_pickT (v := V.one (.sc _)) rfl rfl rfl) rfl (gle rfl)) rfl ?_
    refine SV.op (OpL.ok (nb := 2) (ok_move (v := V.one (.sc _)) (.inl rfl) rfl) rfl (gle rfl)) rfl ?_
    refine SV.split (d := 17) rfl (fun hg1 => ?_) (fun hg1 => ?_)
    · skip   -- g1.T
      refine SV.opY (OpL.ok (nb := 2) (ok_field_bp (b := 0) (o' := 0) (off := 2) rfl rfl fld_impl_Broker_2) rfl (gle rfl)) rfl rfl rfl (gle rfl) rfl rfl ?_
      refine SV.opY (OpL.ok (nb := 2) (ok_load_bp (b := 0) (i := 2) (ag := false) (m := 1) (ys := [.ro _]) rfl rfl rfl agg_s_impl_Client sz_s_impl_Client (fun _ => rfl) rfl rfl (gle rfl)) rfl (gle rfl)) rfl rfl rfl (gle rfl) rfl rfl ?_
      refine SV.opY (OpL.ok (nb := 2) (ok_field_bp (b := 1) (o' := 0) (off := 2) rfl rfl fld_impl_Broker_2) rfl (gle rfl)) rfl rfl rfl (gle rfl) rfl rfl ?_
      refine SV.opY (OpL.ok (nb := 2) (ok_load_bp (b := 1) (i := 2) (ag := false) (m := 1) (ys := [.ro _]) rfl rfl rfl agg_s_impl_Client sz_s_impl_Client (fun _ => rfl) rfl rfl (gle rfl)) rfl (gle rfl)) rfl rfl rfl (gle rfl) rfl rfl ?_
      refine SV.opY (OpMk.ok (ok_call (ls := [(false, [.sc _])]) rfl rfl ⟨_, _, Try.func73, rfl, by decide⟩ (veqc a.fActive b.fActive (by omega)) ⟨⟨[.ro _], rfl, ⟨rfl, trivial⟩⟩, ⟨[.ro _], rfl, ⟨rfl, trivial⟩⟩, trivial⟩ rfl (gle rfl))) rfl rfl rfl (gle rfl) rfl rfl ?_
      refine SV.op (OpL.ok (nb := 2) (ok_pickT (v := V.one (.sc _)) rfl rfl rfl) rfl (gle rfl)) rfl ?_
      refine SV.op (OpL.ok (nb := 2) (ok_move (v := V.one (.sc _)) (.inl rfl) rfl) rfl (gle rfl)) rfl ?_
      refine SV.split (d := 24) rfl (fun hg2 => ?_) (fun hg2 => ?_)
      · skip   -- g2.T
        refine SV.opY (OpL.ok (nb := 2) (ok_field_bp (b := 0) (o' := 0) (off := 3) rfl rfl fld_impl_Broker_3) rfl (gle rfl)) rfl rfl rfl (gle rfl) rfl rfl ?_
        refine SV.opY (OpL.ok (nb := 2) (ok_load_bp (b := 0) (i := 3) (ag := false) (m := 1) (ys := [.ro _]) rfl rfl rfl agg_s_impl_Client sz_s_impl_Client (fun _ => rfl) rfl rfl (gle rfl)) rfl (gle rfl)) rfl rfl rfl (gle rfl) rfl rfl ?_
        refine SV.opY (OpL.ok (nb := 2) (ok_field_bp (b := 1) (o' := 0) (off := 3) rfl rfl fld_impl_Broker_3) rfl (gle rfl)) rfl rfl rfl (gle rfl) rfl rfl ?_
        refine SV.opY (OpL.ok (nb := 2) (ok_load_bp (b := 1) (i := 3) (ag := false) (m := 1) (ys := [.ro _]) rfl rfl rfl agg_s_impl_Client sz_s_impl_Client (fun _ => rfl) rfl rfl (gle rfl)) rfl (gle rfl)) rfl rfl rfl (gle rfl) rfl rfl ?_
        refine SV.opY (OpMk.ok (ok_call (ls := [(false, [.sc _])]) rfl rfl ⟨_, _, Try.func73, rfl, by decide⟩ (veqc a.fWaiting b.fWaiting (by omega)) ⟨⟨[.ro _], rfl, ⟨rfl, trivial⟩⟩, ⟨[.ro _], rfl, ⟨rfl, trivial⟩⟩, trivial⟩ rfl (gle rfl))) rfl rfl rfl (gle rfl) rfl rfl ?_
        refine SV.op (OpL.ok (nb := 2) (ok_pickT (v := V.one (.sc _)) rfl rfl rfl) rfl (gle rfl)) rfl ?_
        refine SV.op (OpL.ok (nb := 2) (ok_move (v := V.one (.sc _)) (.inr rfl) rfl) rfl (gle rfl)) rfl ?_
        refine SV.nil ?_
        refine SV.tn ?_
        refine SV.ret ?_
        apply SV.done (hf := Try.results38) (ht := rfl) (he := .inl rfl)
        case hr => exact (ResAll.cons (ResOk.tmp (ag := false) (xs := [.sc _]) rfl) ResAll.nil')
        case h2 => simp [two]
        refine ⟨rfl, ⟨?_, trivial⟩, trivial⟩ <;> (show some (T.lit (Value.bool _)) = some (T.lit (Value.bool _)); refine congrArg (fun z => some (T.lit (Value.bool z))) ?_; (obtain ⟨a1, a2, a3, a4⟩ := a; obtain ⟨b1, b2, b3, b4⟩ := b; rw [Bool.eq_iff_iff]; simp only [BrokerD.mk.injEq, decide_eq_true_eq]; first | (simp_all; done) | (simp at *; simp_all; done) | (constructor <;> intro h <;> simp_all; done)))
      · skip   -- g2.F
        refine SV.opN rfl rfl rfl (gle rfl) rfl rfl rfl (gle rfl) ?_
        refine SV.opN rfl rfl rfl (gle rfl) rfl rfl rfl (gle rfl) ?_
        refine SV.opN rfl rfl rfl (gle rfl) rfl rfl rfl (gle rfl) ?_
        refine SV.opN rfl rfl rfl (gle rfl) rfl rfl rfl (gle rfl) ?_
        refine SV.opN rfl rfl rfl (gle rfl) rfl rfl rfl (gle rfl) ?_
        refine SV.op (OpL.ok (nb := 2) (ok_pickF (v := V.one (.sc _)) rfl rfl rfl) rfl (gle rfl)) rfl ?_
        refine SV.op (OpL.ok (nb := 2) (ok_move (v := V.one (.sc _)) (.inr rfl) rfl) rfl (gle rfl)) rfl ?_
        refine SV.nil ?_
        refine SV.tn ?_
        refine SV.ret ?_
        apply SV.done (hf := Try.results38) (ht := rfl) (he := .inl rfl)
        case hr => exact (ResAll.cons (ResOk.tmp (ag := false) (xs := [.sc _]) rfl) ResAll.nil')
        case h2 => simp [two]
        refine ⟨rfl, ⟨?_, trivial⟩, trivial⟩ <;> (show some (T.lit (Value.bool _)) = some (T.lit (Value.bool _)); refine congrArg (fun z => some (T.lit (Value.bool z))) ?_; (obtain ⟨a1, a2, a3, a4⟩ := a; obtain ⟨b1, b2, b3, b4⟩ := b; rw [Bool.eq_iff_iff]; simp only [BrokerD.mk.injEq, decide_eq_true_eq]; first | (simp_all; done) | (simp at *; simp_all; done) | (constructor <;> intro h <;> simp_all; done)))
    · skip   -- g1.F
      refine SV.opN rfl rfl rfl (gle rfl) rfl rfl rfl (gle rfl) ?_
      refine SV.opN rfl rfl rfl (gle rfl) rfl rfl rfl (gle rfl) ?_
      refine SV.opN rfl rfl rfl (gle rfl) rfl rfl rfl (gle rfl) ?_
      refine SV.opN rfl rfl rfl (gle rfl) rfl rfl rfl (gle rfl) ?_
      refine SV.opN rfl rfl rfl (gle rfl) rfl rfl rfl (gle rfl) ?_
      refine SV.op (OpL.ok (nb := 2) (ok_pickF (v := V.one (.sc _)) rfl rfl rfl) rfl (gle rfl)) rfl ?_
      refine SV.op (OpL.ok (nb := 2) (ok_move (v := V.one (.sc _)) (.inl rfl) rfl) rfl (gle rfl)) rfl ?_
      refine SV.opN rfl rfl rfl (gle rfl) rfl rfl rfl (gle rfl) ?_
      refine SV.opN rfl rfl rfl (gle rfl) rfl rfl rfl (gle rfl) ?_
      refine SV.opN rfl rfl rfl (gle rfl) rfl rfl rfl (gle rfl) ?_
      refine SV.opN rfl rfl rfl (gle rfl) rfl rfl rfl (gle rfl) ?_
      refine SV.opN rfl rfl rfl (gle rfl) rfl rfl rfl (gle rfl) ?_
      refine SV.op (OpL.ok (nb := 2) (ok_pickF (v := V.one (.sc _)) rfl rfl rfl) rfl (gle rfl)) rfl ?_
      refine SV.op (OpL.ok (nb := 2) (ok_move (v := V.one (.sc _)) (.inr rfl) rfl) rfl (gle rfl)) rfl ?_
      refine SV.nil ?_
      refine SV.tn ?_
      refine SV.ret ?_
      apply SV.done (hf := Try.results38) (ht := rfl) (he := .inl rfl)
      case hr => exact (ResAll.cons (ResOk.tmp (ag := false) (xs := [.sc _]) rfl) ResAll.nil')
      case h2 => simp [two]
      refine ⟨rfl, ⟨?_, trivial⟩, trivial⟩ <;> (show some (T.lit (Value.bool _)) = some (T.lit (Value.bool _)); refine congrArg (fun z => some (T.lit (Value.bool z))) ?_; (obtain ⟨a1, a2, a3, a4⟩ := a; obtain ⟨b1, b2, b3, b4⟩ := b; rw [Bool.eq_iff_iff]; simp only [BrokerD.mk.injEq, decide_eq_true_eq]; first | (simp_all; done) | (simp at *; simp_all; done) | (constructor <;> intro h <;> simp_all; done)))
  · skip   -- g0.F
    refine SV.opN rfl rfl rfl (gle rfl) rfl rfl rfl (gle rfl) ?_
    refine SV.opN rfl rfl rfl (gle rfl) rfl rfl rfl (gle rfl) ?_
    refine SV.opN rfl rfl rfl (gle rfl) rfl rfl rfl (gle rfl) ?_
    refine SV.opN rfl rfl rfl (gle rfl) rfl rfl rfl (gle rfl) ?_
    refine SV.opN rfl rfl rfl (gle rfl) rfl rfl rfl (gle rfl) ?_
    refine SV.op (OpL.ok (nb := 2) (ok_pickF (v := V.one (.sc _)) rfl rfl rfl) rfl (gle rfl)) rfl ?_
    refine SV.op (OpL.ok (nb := 2) (ok_move (v := V.one (.sc _)) (.inl rfl) rfl) rfl (gle rfl)) rfl ?_
    refine SV.opN rfl rfl rfl (gle rfl) rfl rfl rfl (gle rfl) ?_
    refine SV.opN rfl rfl rfl (gle rfl) rfl rfl rfl (gle rfl) ?_
    refine SV.opN rfl rfl rfl (gle rfl) rfl rfl rfl (gle rfl) ?_
    refine SV.opN rfl rfl rfl (gle rfl) rfl rfl rfl (gle rfl) ?_
    refine SV.opN rfl rfl rfl (gle rfl) rfl rfl rfl (gle rfl) ?_
    refine SV.op (OpL.ok (nb := 2) (ok_pickF (v := V.one (.sc _)) rfl rfl rfl) rfl (gle rfl)) rfl ?_
    refine SV.op (OpL.ok (nb := 2) (ok_move (v := V.one (.sc _)) (.inl rfl) rfl) rfl (gle rfl)) rfl ?_
    refine SV.opN rfl rfl rfl (gle rfl) rfl rfl rfl (gle rfl) ?_
    refine SV.opN rfl rfl rfl (gle rfl) rfl rfl rfl (gle rfl) ?_
    refine SV.opN rfl rfl rfl (gle rfl) rfl rfl rfl (gle rfl) ?_
    refine SV.opN rfl rfl rfl (gle rfl) rfl rfl rfl (gle rfl) ?_
    refine SV.opN rfl rfl rfl (gle rfl) rfl rfl rfl (gle rfl) ?_
    refine SV.op (OpL.ok (nb := 2) (ok_pickF (v := V.one (.sc _)) rfl rfl rfl) rfl (gle rfl)) rfl ?_
    refine SV.op (OpL.ok (nb := 2) (ok_move (v := V.one (.sc _)) (.inr rfl) rfl) rfl (gle rfl)) rfl ?_
    refine SV.nil ?_
    refine SV.tn ?_
    refine SV.ret ?_
    apply SV.done (hf := Try.results38) (ht := rfl) (he := .inl rfl)
    case hr => exact (ResAll.cons (ResOk.tmp (ag := false) (xs := [.sc _]) rfl) ResAll.nil')
    case h2 => simp [two]
    refine ⟨rfl, ⟨?_, trivial⟩, trivial⟩ <;> (show some (T.lit (Value.bool _)) = some (T.lit (Value.bool _)); refine congrArg (fun z => some (T.lit (Value.bool z))) ?_; (obtain ⟨a1, a2, a3, a4⟩ := a; obtain ⟨b1, b2, b3, b4⟩ := b; rw [Bool.eq_iff_iff]; simp only [BrokerD.mk.injEq, decide_eq_true_eq]; first | (simp_all; done) | (simp at *; simp_all; done) | (constructor <;> intro h <;> simp_all; done)))
end Go.Proofs.Ytfghhjcfmmhacaa
/- The library's slices.Insert of one client, by contract: the row is the call's own. -/
namespace Go.Proofs.Ytfghhjcfmmhacaa
open Go Go.RowKit V
set_option linter.unusedVariables false
theorem step_copyR {P : Program} {ops : Array Oper} {o : Oper} {a : Act} {w : World} {K : Act → World → Prop} {Q : Exit → Act → World → Prop} {E : Prop} (hg : o.guard = none) (d s : Operand) (t t' : TypeId) (ho : o.op = .call { callee := .builtin .copy, args := #[d, s], argTypes := #[t, t'] })
    (v u : Value) (hd : a.eval d = v) (hs : a.eval s = u) {v' : Value} {w' : World} (hr : (Builtin.copy_ #[t, t'] o.type #[v, u]).run P w = .ok v' w') (hK : K (a.put o.dst v') w') : if Region.wanted o (yielded ops a.tmps) = true then Oper.wp P o a w K Q else E := by
  have hw : Region.wanted o (yielded ops a.tmps) = true := by simp [Region.wanted, hg]
  rw [if_pos hw]
  unfold Oper.wp
  simp [execOp, ho, resolve, invoke, builtin, hd, hs, hr, Result.andThen]
  exact hK
theorem wpList_copyR {P : Program} {ops : Array Oper} {rest : List Oper} {o : Oper} {a : Act} {w : World} {Q : Exit → Act → World → Prop} (hg : o.guard = none) (d s : Operand) (t t' : TypeId) (ho : o.op = .call { callee := .builtin .copy, args := #[d, s], argTypes := #[t, t'] })
    (v u : Value) (hd : a.eval d = v) (hs : a.eval s = u) {v' : Value} {w' : World} (hr : (Builtin.copy_ #[t, t'] o.type #[v, u]).run P w = .ok v' w') (h : wpList P ops Q rest (a.put o.dst v') w') : wpList P ops Q (o :: rest) a w :=
  wpList_plain hg fun _ hK => by
    unfold Oper.wp
    simp only [execOp, ho, resolve, invoke, builtin, Sem.run_bind, Sem.run_pure, Result.andThen_ok, List.map_toArray, List.map_cons, List.map_nil, hd, hs, hr]
    exact hK _ _ h
theorem run_copy3 (w : World) (ty : TypeId) (b o dLen dCap : Nat) (x : Addr) (sLen sCap m : Nat) (cs : List Value) (hn : Nat.min sLen dLen = m) (hl : cs.length = m * 3)
    (hsrc : ∀ j v, cs[j]? = some v → w.cell? (x.add j) = some v) (hc : ∀ j, j < cs.length → (w.cell? ⟨b, o + j, none⟩).isSome = true) (hf : ∀ j, w.frozen? ⟨b, j, none⟩ = false) (h1 : ∀ v ∈ cs, v.oneCell' = true) :
    (Builtin.copy_ #[24, 24] ty #[.slice (some ⟨b, o, none⟩) dLen dCap, .slice (some x) sLen sCap]).run Try.prog w = .ok (goInt m) (w.setCells b o cs) := by
  have hld := run_loadCells_list (P := Try.prog) w x cs hsrc
  have hst := run_storeCells_cells (P := Try.prog) b o cs 0 w (by simpa using hc) (fun j _ => hf _) h1
  obtain ⟨I0, hI, hI3⟩ := sz_impl_Client
  simp [Builtin.copy_, run_underlying Try.underlying24, Builtin.lenOf, Builtin.firstCells, sizeOf, typeInfo, hI, hI3, hn, ← hl, hld, hst]
theorem rowIs_apart {g b : Nat} {t : TypeId} {n : Nat} {f : Nat → Value} (hne : b ≠ g) : ∀ (vs : List Value) (o : Nat) (w : World), w.rowIs b t n f → (w.setCells g o vs).rowIs b t n f
  | [], _, _, h => h
  | v :: r, o, w, h => rowIs_apart hne r (o + 1) _ (h.setOther (by exact hne) v)
theorem shape_row {w : World} {b n : Nat} {t : TypeId} {f : Nat → Value} (h : w.rowIs b t n f) : w.shape? b = some (t, n) := by
  obtain ⟨c, h1, h2, -⟩ := h
  simp [World.shape?, h1, h2]
set_option maxRecDepth 100000 in
set_option maxHeartbeats 4000000 in
theorem iinsB (g cap n i vb vc : Nat) (f fv : Nat → Value) (kv : Nat) (w : World) (hi : i < n) (hc : n + 1 ≤ cap) (hm : cap ≤ maxLen) (hrow : w.rowIs g 35 (cap * 3) f) (h1 : ∀ j, j < n * 3 → (f j).oneCell' = true)
    (hv : w.rowIs vb 35 kv fv) (hkv : 3 ≤ kv) (hv1 : ∀ j, j < 3 → (fv j).oneCell' = true) (hne : vb ≠ g) :
    Calls Try.prog 89 #[.slice (some ⟨g, 0, none⟩) n cap, .int .i64 i, .slice (some ⟨vb, 0, none⟩) 1 vc] w fun e w' =>
      e = .returned (.slice (some ⟨g, 0, none⟩) (n + 1) cap) ∧ w.grownBy w' (some g) ∧ ∃ f', w'.rowIs g 35 (cap * 3) f' ∧ ∀ j, j < (n + 1) * 3 → f' j = if j < i * 3 then f j else if j < i * 3 + 3 then fv (j - i * 3) else f (j - 3) := by
  unfold maxLen at hm
  have hov : ∀ lb cb, (callFunc 94 #[.slice (some ⟨vb, 0, none⟩) 1 vc, .slice (some ⟨g, (i + 1) * 3, none⟩) lb cb]).run Try.prog w = .ok (.value (.bool false)) w := fun lb cb => by
    rw [run_callFunc_extern Try.func94 (by kernel_rfl) (by kernel_rfl) (by kernel_rfl) (e := Extern.SlicesOverlaps.overlaps #[24, 24] #[4]) (by kernel_rfl),
      Lib.run_overlaps_apart w 24 4 35 Try.underlying24 3 Try.sizeOf35 ⟨vb, 0, none⟩ ⟨g, (i + 1) * 3, none⟩ 1 vc lb cb hne 35 35 kv (cap * 3) (shape_row hv) (shape_row hrow) (by omega) (hv.frozen _) (hv.frozen _)]
    rfl
  have z1 : ¬ ((1 : Nat) : Int) = 0 := by decide
  have z2 : ¬ (i : Int) = (n : Int) := by omega
  have z3 : ¬ (cap : Int) < (n : Int) + 1 := by omega
  have z4 : ¬ cap = i + 1 := by omega
  have z5 : ¬ cap = i := by omega
  have b1 : (0 : Int) ≤ (i : Int) := by omega
  have b2 : (i : Int) ≤ (n : Int) := by omega
  have b3 : (n : Int) + 1 ≤ (cap : Int) := by omega
  have b4 : (0 : Int) ≤ (n : Int) + 1 := by omega
  have b5 : (i : Int) + 1 ≤ (n : Int) + 1 := by omega
  have b6 : (0 : Int) ≤ (i : Int) + 1 := by omega
  have b7 : (i : Int) ≤ (n : Int) + 1 := by omega
  have t1 : ((i : Int) + 1).toNat = i + 1 := by omega
  have t2 : ((n : Int) + 1).toNat = n + 1 := by omega
  have w1 : IntKind.i64.wrap ((i : Int) + 1) = (i : Int) + 1 := by rw [IntKind.wrap_i64]; omega
  have w2 : IntKind.i64.wrap ((n : Int) + 1) = (n : Int) + 1 := by rw [IntKind.wrap_i64]; omega
  obtain ⟨tail, htail⟩ : ∃ l, l = (List.range ((n - i) * 3)).map fun j => f (i * 3 + j) := ⟨_, rfl⟩
  have htl : tail.length = (n - i) * 3 := by rw [htail]; simp
  have hc1 : ∀ ty dc sc, (Builtin.copy_ #[24, 24] ty #[.slice (some ⟨g, (i + 1) * 3, none⟩) (n - i) dc, .slice (some ⟨g, i * 3, none⟩) (n + 1 - i) sc]).run Try.prog w.drew = .ok (goInt ((n - i : Nat) : Int)) (w.drew.setCells g ((i + 1) * 3) tail) := fun ty dc sc =>
    run_copy3 w.drew ty g ((i + 1) * 3) (n - i) dc ⟨g, i * 3, none⟩ (n + 1 - i) sc (n - i) tail (by simp only [Nat.min_def]; split <;> omega) htl (fun j v hj => by
      have hjl := V.get_lt hj
      rw [htail, List.getElem?_map, List.getElem?_range (by omega)] at hj
      rw [← Option.some.inj hj, Addr.add_lit]
      exact hrow.cell (by omega)) (fun j hj => by show (w.cell? _).isSome = true; rw [hrow.cell (by omega)]; rfl) (fun j => hrow.frozen j) (fun v hv => by
      rw [htail] at hv
      obtain ⟨j, hj, rfl⟩ := List.mem_map.1 hv
      have := List.mem_range.1 hj
      exact h1 _ (by omega))
  have HC1 := Lib.hid hc1
  have HT := Lib.hid htail
  have HTL := Lib.hid htl
  have HR := Lib.hid hrow
  have HV := Lib.hid hv
  clear hrow h1 hv hc1 htail htl
  go_enter Try.func89, Try.ntmps89
  go_wp2_with (simp only [hov])
  go_region_law (refine step_copyR rfl _ _ 24 24 rfl (.slice (some ⟨g, (i + 1) * 3, none⟩) (n - i) (cap - (i + 1))) (.slice (some ⟨g, i * 3, none⟩) (n + 1 - i) (cap - i)) (by simp [Act.eval, Act.put]) (by simp [Act.eval, Act.put]) (HC1.out _ _ _) ?_)
  obtain ⟨W1, hW1⟩ : ∃ W, W = w.drew.setCells g ((i + 1) * 3) tail := ⟨_, rfl⟩
  rw [← hW1]
  have r1 := rowIs_setCells tail ((i + 1) * 3) w.drew f HR.out.drew
  have rv := rowIs_apart (g := g) hne tail ((i + 1) * 3) w.drew HV.out.drew
  have g1 : w.grownBy W1 (some g) := by rw [hW1]; exact grown_cells tail _ _ ⟨rfl, rfl, rfl, Nat.le_refl _, fun _ _ _ => rfl⟩
  rw [← hW1] at r1 rv
  have hc2 : ∀ ty dc, (Builtin.copy_ #[24, 24] ty #[.slice (some ⟨g, i * 3, none⟩) (n + 1 - i) dc, .slice (some ⟨vb, 0, none⟩) 1 vc]).run Try.prog W1 = .ok (goInt ((1 : Nat) : Int)) (W1.setCells g (i * 3) [fv 0, fv 1, fv 2]) := fun ty dc =>
    run_copy3 W1 ty g (i * 3) (n + 1 - i) dc ⟨vb, 0, none⟩ 1 vc 1 [fv 0, fv 1, fv 2] (by simp only [Nat.min_def]; split <;> omega) rfl (fun j v hj => by
      have hjl := V.get_lt hj
      rw [Addr.add_lit, rv.cell (by simp at hjl; omega)]
      match j, hjl with
      | 0, _ => exact hj
      | 1, _ => exact hj
      | 2, _ => exact hj) (fun j hj => by rw [r1.cell (by simp at hj; omega)]; rfl) (fun j => r1.frozen j) (fun v hv => by
      simp only [List.mem_cons, List.not_mem_nil, or_false] at hv
      rcases hv with rfl | rfl | rfl
      · exact hv1 0 (by omega)
      · exact hv1 1 (by omega)
      · exact hv1 2 (by omega))
  have R1 := Lib.hid r1
  have G1 := Lib.hid g1
  clear r1 rv g1 hW1
  go_wp2_with (at_builtin; refine wpList_copyR rfl _ _ 24 24 rfl _ _ rfl rfl (hc2 _ _) ?_)
  go_ret
  refine ⟨rfl, grown_cells _ _ _ G1.out, _, rowIs_setCells [fv 0, fv 1, fv 2] (i * 3) W1 _ R1.out, fun j hj => ?_⟩
  by_cases h3 : j < i * 3
  · rw [if_neg (by omega), if_neg (by omega), if_pos h3]
  · rw [if_neg h3]
    by_cases h4 : j < i * 3 + 3
    · have h5 : i * 3 ≤ j ∧ j < i * 3 + [fv 0, fv 1, fv 2].length := ⟨by omega, h4⟩
      rw [if_pos h4, if_pos h5]
      obtain ⟨q, hq⟩ : ∃ q, j - i * 3 = q := ⟨_, rfl⟩
      rw [hq]
      match q, (show q < 3 by omega) with
      | 0, _ => rfl
      | 1, _ => rfl
      | 2, _ => rfl
    · have h5 : ¬ (i * 3 ≤ j ∧ j < i * 3 + [fv 0, fv 1, fv 2].length) := fun h => h4 h.2
      have h6 : (i + 1) * 3 ≤ j ∧ j < (i + 1) * 3 + tail.length := by have := HTL.out; omega
      rw [if_neg h4, if_neg h5, if_pos h6, HT.out, List.getD_eq_getElem?_getD, List.getElem?_map, List.getElem?_range (by omega)]
      show f (i * 3 + (j - (i + 1) * 3)) = f (j - 3)
      congr 1
      omega
end Go.Proofs.Ytfghhjcfmmhacaa
/- The library's slices.Insert of one client at the row's end and where there is no room, by contract. -/
namespace Go.Proofs.Ytfghhjcfmmhacaa
open Go Go.RowKit V
set_option linter.unusedVariables false
set_option maxRecDepth 100000 in
set_option maxHeartbeats 4000000 in
theorem iinsA (base : Option Addr) (cap n vb vc : Nat) (xs : List Value) (fv : Nat → Value) (kv : Nat) (w : World) (hn : n ≤ 1000000000) (hcap : n ≤ cap) (hm : cap ≤ maxLen) (hform : (base = none ∧ n = 0 ∧ cap = 0) ∨ (∃ g, base = some ⟨g, 0, none⟩ ∧ n = cap) ∨ (∃ g, base = some ⟨g, 0, none⟩ ∧ ¬ cap = n)) (hown : w.ownsRow 0 35 3 (.slice base n cap) n xs)
    (hv : w.rowIs vb 35 kv fv) (hkv : 3 ≤ kv) (hv1 : ∀ j, j < 3 → (fv j).oneCell' = true) :
    Calls Try.prog 89 #[.slice base n cap, .int .i64 n, .slice (some ⟨vb, 0, none⟩) 1 vc] w fun e w' =>
      ∃ g' cap', e = .returned (.slice (some ⟨g', 0, none⟩) (n + 1) cap') ∧ w'.ownsRow 0 35 3 (.slice (some ⟨g', 0, none⟩) (n + 1) cap') (n + 1) (xs ++ [fv 0, fv 1, fv 2]) ∧ w.grownBy w' (Value.slice base n cap).ownBlock ∧ ((Value.slice base n cap).ownBlock = some g' ∨ g' = w.heap.size) := by
  unfold maxLen at hm
  obtain ⟨I0, hI, hz0, hz1, hz2⟩ := info_parts elt_impl_Client.inf
  have hnews : ∀ j u, [fv 0, fv 1, fv 2][j]? = some u → w.cell? ((⟨vb, 0, none⟩ : Addr).add j) = some u := fun j u hj => by
    have hjl := V.get_lt hj
    rw [Addr.add_lit, hv.cell (by simp at hjl; omega)]
    match j, hjl with
    | 0, _ => exact hj
    | 1, _ => exact hj
    | 2, _ => exact hj
  have hone : ∀ u ∈ [fv 0, fv 1, fv 2], u.oneCell' = true := fun v hv => by
    simp only [List.mem_cons, List.not_mem_nil, or_false] at hv
    rcases hv with rfl | rfl | rfl
    · exact hv1 0 (by omega)
    · exact hv1 1 (by omega)
    · exact hv1 2 (by omega)
  have z1 : ¬ ((1 : Nat) : Int) = 0 := by decide
  have b1 : (0 : Int) ≤ (n : Int) := by omega
  have b2 : (n : Int) ≤ (cap : Int) := by omega
  have HO := Lib.hid hown
  have HN := Lib.hid hnews
  have H1 := Lib.hid hone
  clear hown hnews hone hv
  rcases hform with ⟨rfl, rfl, rfl⟩ | ⟨g, rfl, rfl⟩ | ⟨g, rfl, hq⟩
  all_goals go_enter Try.func89, Try.ntmps89
  all_goals go_wp2_with (at_builtin; refine wpList_append_lies _ rfl _ _ 24 rfl 0 35 I0 _ 3 24 Try.underlying24 hI hz0 hz1 hz2 rfl (by decide) _ _ xs rfl HO.out ⟨vb, 0, none⟩ 1 vc [fv 0, fv 1, fv 2] rfl rfl HN.out H1.out (by decide) (by unfold maxLen; omega) (by omega) (Nat.zero_le _) _ rfl ?_)
  all_goals intro g' cap' w' q1 q2 q3 q4
  all_goals have Q1 := Lib.hid q1
  all_goals have Q2 := Lib.hid q2
  all_goals have Q3 := Lib.hid q3
  all_goals clear q1 q2 q3 q4
  all_goals go_wp2_with fail
  all_goals go_ret
  all_goals exact ⟨g', cap', rfl, Q1.out, Q2.out, Q3.out⟩
set_option maxRecDepth 100000 in
set_option maxHeartbeats 4000000 in
theorem iinsC (g cap n i vb vc : Nat) (f fv : Nat → Value) (kv : Nat) (w : World) (hi : i < n) (hn : n ≤ 1000000000) (hcn : n ≤ cap) (hc : cap < n + 1) (hrow : w.rowIs g 35 (cap * 3) f) (h1 : ∀ j, j < n * 3 → (f j).oneCell' = true)
    (hv : w.rowIs vb 35 kv fv) (hkv : 3 ≤ kv) (hv1 : ∀ j, j < 3 → (fv j).oneCell' = true) :
    Calls Try.prog 89 #[.slice (some ⟨g, 0, none⟩) n cap, .int .i64 i, .slice (some ⟨vb, 0, none⟩) 1 vc] w fun e w' =>
      ∃ g' cap', e = .returned (.slice (some ⟨g', 0, none⟩) (n + 1) cap') ∧ Below w.heap.size w w' ∧ g' = w.heap.size ∧ n + 1 ≤ cap' ∧ cap' ≤ maxLen ∧ ∃ f', w'.rowIs g' 35 (cap' * 3) f' ∧ ∀ j, j < (n + 1) * 3 → f' j = if j < i * 3 then f j else if j < i * 3 + 3 then fv (j - i * 3) else f (j - 3) := by
  obtain ⟨I0, hI, hz0, hz1, hz2⟩ := info_parts elt_impl_Client.inf
  have hcap : cap = n := by omega
  subst hcap
  obtain ⟨H, hH⟩ : ∃ H, H = w.heap.size := ⟨_, rfl⟩
  have hgH : g < H := by rw [hH]; exact hrow.lt
  have hvH : vb < H := by rw [hH]; exact hv.lt
  obtain ⟨olds, holds⟩ : ∃ l, l = (List.range (i * 3)).map f := ⟨_, rfl⟩
  have hol : olds.length = i * 3 := by rw [holds]; simp
  have hold : (Builtin.firstCells I0.size i (.slice (some ⟨g, 0, none⟩) i cap)).run Try.prog w.drew = .ok olds.toArray w.drew := by
    rw [hz1]
    exact run_firstCells_some w.drew 3 i ⟨g, 0, none⟩ i cap olds hol fun j v hj => by
      have hjl := V.get_lt hj
      rw [holds, List.getElem?_map, List.getElem?_range (by omega)] at hj
      rw [← Option.some.inj hj, Addr.add_lit, Nat.zero_add]
      exact hrow.cell (by omega)
  have hik : i + (cap + 1 - i) = cap + 1 := by omega
  have hkk : (cap : Int) + 1 - (i : Int) = ((cap + 1 - i : Nat) : Int) := by omega
  obtain ⟨G, hG⟩ : ∃ G, G = grownCap w (cap + 1) cap 35 := ⟨_, rfl⟩
  have hG1 : cap + 1 ≤ G := by rw [hG]; exact grownCap_ge w _ _ _
  have hG2 : G ≤ maxLen := by rw [hG]; exact grownCap_le_maxLen w (cap + 1) cap _ (by unfold maxLen; omega)
  obtain ⟨ROW, hROW⟩ : ∃ R : Array Value, R = olds.toArray ++ Builtin.zeroCells (Value.agg #[.int .i64 0, .int .i64 0, .int .i64 0]).cells (cap + 1 - i) ++ Builtin.zeroCells (Value.agg #[.int .i64 0, .int .i64 0, .int .i64 0]).cells (G - (cap + 1)) := ⟨_, rfl⟩
  obtain ⟨W1, hW1⟩ : ∃ W, W = w.drew.alloc (.cells ROW 35) := ⟨_, rfl⟩
  have hrz : ∀ ty, (Builtin.append_ #[24, 3] ty #[.slice (some ⟨g, 0, none⟩) i cap, .int .i64 ((cap : Int) + 1 - (i : Int))]).run Try.prog w = .ok (.slice (some ⟨H, 0, none⟩) (cap + 1) G) W1 := fun ty => by
    have h := Lib.run_append_grow_zeros w 24 3 ty 35 I0 _ .i64 .i64 Try.underlying24 Try.underlying3 hI hz0 (some ⟨g, 0, none⟩) i cap olds hold (cap + 1 - i) (by omega) (by omega) (by omega) (by omega) (by rw [hz2]; omega) (by rw [hz2, hik]; exact growslice_fits (by omega) (by omega))
    rw [hik, ← hG, ← hROW, ← hW1, ← hH] at h
    rw [hkk]
    exact h
  have hRs : ROW.size = G * 3 := by rw [hROW]; simp [Builtin.zeroCells, Value.cells, hol]; omega
  have hb0 : Below w.heap.size w W1 := by rw [hW1]; exact ((Below.refl _ _).drew).alloc (Nat.le_refl _) _
  have hrH : W1.rowIs H 35 (G * 3) (fun j => ROW.getD j undef) := ⟨ROW, by rw [hW1, hH]; exact heap_alloc_new w.drew _, hRs, fun j hj => by simp [Array.getD, hRs, hj]⟩
  have hR0 : ∀ j, j < i * 3 → ROW.getD j undef = f j := fun j hj => by
    have h2 : j < olds.toArray.size := by simp [hol]; omega
    have h3 : ROW[j]? = some (f j) := by
      rw [hROW, Array.append_assoc, Array.getElem?_append_left h2]
      simp [holds, List.getElem?_range hj, hj]
    simp [Array.getD_eq_getD_getElem?, h3]
  have hg1 : W1.rowIs g 35 (cap * 3) f := hrow.of_block (hb0.block g (by omega))
  have hv1' : W1.rowIs vb 35 kv fv := hv.of_block (hb0.block vb (by omega))
  have hcA : ∀ ty dc, (Builtin.copy_ #[24, 24] ty #[.slice (some ⟨H, i * 3, none⟩) (cap + 1 - i) dc, .slice (some ⟨vb, 0, none⟩) 1 vc]).run Try.prog W1 = .ok (goInt ((1 : Nat) : Int)) (W1.setCells H (i * 3) [fv 0, fv 1, fv 2]) := fun ty dc =>
    run_copy3 W1 ty H (i * 3) (cap + 1 - i) dc ⟨vb, 0, none⟩ 1 vc 1 [fv 0, fv 1, fv 2] (by simp only [Nat.min_def]; split <;> omega) rfl (fun j v hj => by
      have hjl := V.get_lt hj
      rw [Addr.add_lit, hv1'.cell (by simp at hjl; omega)]
      match j, hjl with
      | 0, _ => exact hj
      | 1, _ => exact hj
      | 2, _ => exact hj) (fun j hj => by rw [hrH.cell (by simp at hj; omega)]; rfl) (fun j => hrH.frozen j) (fun v hv => by
      simp only [List.mem_cons, List.not_mem_nil, or_false] at hv
      rcases hv with rfl | rfl | rfl
      · exact hv1 0 (by omega)
      · exact hv1 1 (by omega)
      · exact hv1 2 (by omega))
  obtain ⟨W2, hW2⟩ : ∃ W, W = W1.setCells H (i * 3) [fv 0, fv 1, fv 2] := ⟨_, rfl⟩
  have hr2 := rowIs_setCells [fv 0, fv 1, fv 2] (i * 3) W1 _ hrH
  have hg2 := rowIs_apart (g := H) (show g ≠ H by omega) [fv 0, fv 1, fv 2] (i * 3) W1 hg1
  have hb2 : Below w.heap.size w W2 := by
    have := grown_cells (w := W1) (g := H) [fv 0, fv 1, fv 2] (i * 3) W1 ⟨rfl, rfl, rfl, Nat.le_refl _, fun _ _ _ => rfl⟩
    rw [← hW2] at this
    exact hb0.grown this (by rw [← hH]; exact Nat.le_of_lt hrH.lt) fun k hk => by rw [← Option.some.inj hk]; exact Nat.le_of_eq hH.symm
  rw [← hW2] at hcA hr2 hg2
  obtain ⟨tail, htail⟩ : ∃ l, l = (List.range ((cap - i) * 3)).map fun j => f (i * 3 + j) := ⟨_, rfl⟩
  have htl : tail.length = (cap - i) * 3 := by rw [htail]; simp
  have hcB : ∀ ty dc sc, (Builtin.copy_ #[24, 24] ty #[.slice (some ⟨H, (i + 1) * 3, none⟩) (cap - i) dc, .slice (some ⟨g, i * 3, none⟩) (cap - i) sc]).run Try.prog W2.drew = .ok (goInt ((cap - i : Nat) : Int)) (W2.drew.setCells H ((i + 1) * 3) tail) := fun ty dc sc =>
    run_copy3 W2.drew ty H ((i + 1) * 3) (cap - i) dc ⟨g, i * 3, none⟩ (cap - i) sc (cap - i) tail (by simp only [Nat.min_def]; split <;> omega) htl (fun j v hj => by
      have hjl := V.get_lt hj
      rw [htail, List.getElem?_map, List.getElem?_range (by omega)] at hj
      rw [← Option.some.inj hj, Addr.add_lit]
      exact hg2.cell (by omega)) (fun j hj => by show (W2.cell? _).isSome = true; rw [hr2.cell (by omega)]; rfl) (fun j => hr2.frozen j) (fun v hv => by
      rw [htail] at hv
      obtain ⟨j, hj, rfl⟩ := List.mem_map.1 hv
      have := List.mem_range.1 hj
      exact h1 _ (by omega))
  have z1 : ¬ ((1 : Nat) : Int) = 0 := by decide
  have z2 : ¬ (i : Int) = (cap : Int) := by omega
  have z3 : (cap : Int) < (cap : Int) + 1 := by omega
  have z4 : ¬ G = i + 1 := by omega
  have z5 : ¬ G = i := by omega
  have z6 : ¬ cap = i := by omega
  have b1 : (0 : Int) ≤ (i : Int) := by omega
  have b2 : (i : Int) ≤ (cap : Int) := by omega
  have b5 : (i : Int) + 1 ≤ (cap : Int) + 1 := by omega
  have b6 : (0 : Int) ≤ (i : Int) + 1 := by omega
  have b7 : (i : Int) ≤ (cap : Int) + 1 := by omega
  have b8 : (cap : Int) + 1 ≤ (G : Int) := by omega
  have t1 : ((i : Int) + 1).toNat = i + 1 := by omega
  have t2 : ((cap : Int) + 1).toNat = cap + 1 := by omega
  have w1 : IntKind.i64.wrap ((i : Int) + 1) = (i : Int) + 1 := by rw [IntKind.wrap_i64]; omega
  have w2 : IntKind.i64.wrap ((cap : Int) + 1) = (cap : Int) + 1 := by rw [IntKind.wrap_i64]; omega
  have w3 : IntKind.i64.wrap ((cap : Int) + 1 - (i : Int)) = (cap : Int) + 1 - (i : Int) := by rw [IntKind.wrap_i64]; omega
  have hb3 : Below w.heap.size w (W2.drew.setCells H ((i + 1) * 3) tail) := by
    have := grown_cells (w := W2) (g := H) tail ((i + 1) * 3) W2.drew ⟨rfl, rfl, rfl, Nat.le_refl _, fun _ _ _ => rfl⟩
    exact hb2.grown this (by rw [← hH]; exact Nat.le_of_lt hr2.lt) fun k hk => by rw [← Option.some.inj hk]; exact Nat.le_of_eq hH.symm
  have fin : ∃ f', (W2.drew.setCells H ((i + 1) * 3) tail).rowIs H 35 (G * 3) f' ∧ ∀ j, j < (cap + 1) * 3 → f' j = if j < i * 3 then f j else if j < i * 3 + 3 then fv (j - i * 3) else f (j - 3) := by
    refine ⟨_, rowIs_setCells tail ((i + 1) * 3) W2.drew _ hr2.drew, fun j hj => ?_⟩
    by_cases h3 : j < i * 3
    · rw [if_neg (by omega), if_neg (by omega), if_pos h3]
      exact hR0 j h3
    · rw [if_neg h3]
      by_cases h4 : j < i * 3 + 3
      · have h5 : i * 3 ≤ j ∧ j < i * 3 + [fv 0, fv 1, fv 2].length := ⟨by omega, h4⟩
        rw [if_pos h4, if_neg (by omega), if_pos h5]
        obtain ⟨q, hq⟩ : ∃ q, j - i * 3 = q := ⟨_, rfl⟩
        rw [hq]
        match q, (show q < 3 by omega) with
        | 0, _ => rfl
        | 1, _ => rfl
        | 2, _ => rfl
      · have h6 : (i + 1) * 3 ≤ j ∧ j < (i + 1) * 3 + tail.length := by omega
        rw [if_neg h4, if_pos h6, htail, List.getD_eq_getElem?_getD, List.getElem?_map, List.getElem?_range (by omega)]
        show f (i * 3 + (j - (i + 1) * 3)) = f (j - 3)
        congr 1
        omega
  have FIN := Lib.hid fin
  have HB3 := Lib.hid hb3
  have HB := Lib.hid hcB
  have HZ := Lib.hid hrz
  have HG2 := Lib.hid hG2
  have HHS := Lib.hid hH
  unfold maxLen at hG2
  have z7 : G ≤ 9223372036854775807 := by omega
  clear htail htl hkk hik fin hb3 hcB hrz hG2 hb2 hg2 hr2 hW2 hv1' hg1 hR0 hrH hb0 hRs hW1 hROW hG hold hol holds hrow hv hH
  go_enter Try.func89, Try.ntmps89
  go_wp2_with (at_builtin; refine Lib.wpList_append_run _ rfl _ _ _ _ rfl _ _ rfl rfl _ _ (HZ.out _) ?_)
  go_region_law (refine step_copyR rfl _ _ 24 24 rfl (.slice (some ⟨H, (i + 1) * 3, none⟩) (cap - i) (G - (i + 1))) (.slice (some ⟨g, i * 3, none⟩) (cap - i) (cap - i)) (by simp [Act.eval, Act.put]) (by simp [Act.eval, Act.put]) (HB.out _ _ _) ?_)
  go_wp2_with fail
  go_ret
  exact ⟨H, G, rfl, HB3.out, HHS.out, by omega, HG2.out, FIN.out⟩
end Go.Proofs.Ytfghhjcfmmhacaa
/- The library's slices.Insert of one client: told by trees. -/
namespace Go.Proofs.Ytfghhjcfmmhacaa
open Go Go.RowKit V
set_option linter.unusedVariables false
theorem owns_row {w : World} {g cap n : Nat} {xs : List Value} (h : w.ownsRow 0 35 3 (.slice (some ⟨g, 0, none⟩) n cap) n xs) : n ≤ cap ∧ cap ≤ maxLen ∧ ∃ f, w.rowIs g 35 (cap * 3) f ∧ ∀ j u, xs[j]? = some u → f j = u := by
  obtain ⟨hxl, ⟨h0, -⟩ | ⟨g', cap', cur, h2, -, hh, hc, hm, hs, ht⟩⟩ := h
  · cases h0
  · injection h2 with e1 e2 e3
    injection e1 with e1
    injection e1 with e1
    subst e1 e3
    refine ⟨hc, hm, fun i => cur.getD i undef, ⟨cur, hh, hs, fun i hi => by simp [Array.getD, hs, hi]⟩, fun j u hj => ?_⟩
    have hjl := V.get_lt hj
    rw [← ht, List.getElem?_take, if_pos (by omega)] at hj
    have h4 : j < cur.size := by omega
    rw [Array.getElem?_toList, Array.getElem?_eq_getElem h4] at hj
    simp [Array.getD, h4, Option.some.inj hj]
theorem row_owns {w : World} {g cap n : Nat} {f : Nat → Value} (hrow : w.rowIs g 35 (cap * 3) f) (hc : n ≤ cap) (hm : cap ≤ maxLen) : w.ownsRow 0 35 3 (.slice (some ⟨g, 0, none⟩) n cap) n ((List.range (n * 3)).map f) := by
  obtain ⟨cur, hh, hs, hcell⟩ := hrow
  refine ⟨by simp, .inr ⟨g, cap, cur, rfl, Nat.zero_le _, hh, hc, hm, hs, ?_⟩⟩
  apply List.ext_getElem?
  intro j
  rw [List.getElem?_take]
  by_cases hj : j < n * 3
  · rw [if_pos hj, Array.getElem?_toList, hcell j (by omega), List.getElem?_map, List.getElem?_range hj]; rfl
  · rw [if_neg hj, List.getElem?_eq_none (by simp; omega)]
theorem ins_get {L : List ClientD} {c d : ClientD} {i t : Nat} (hi : i ≤ L.length) (h : (L.take i ++ c :: L.drop i)[t]? = some d) : (t < i ∧ L[t]? = some d) ∨ (t = i ∧ d = c) ∨ (i < t ∧ L[t - 1]? = some d) := by
  have hl : (L.take i).length = i := by simp; omega
  rcases Nat.lt_trichotomy t i with h1 | h1 | h1
  · rw [List.getElem?_append_left (by omega), List.getElem?_take, if_pos h1] at h
    exact .inl ⟨h1, h⟩
  · subst h1
    rw [List.getElem?_append_right (by omega), hl, Nat.sub_self] at h
    exact .inr (.inl ⟨rfl, by simpa using h.symm⟩)
  · rw [List.getElem?_append_right (by omega), hl, show t - i = (t - i - 1) + 1 by omega, List.getElem?_cons_succ, List.getElem?_drop, show i + (t - i - 1) = t - 1 by omega] at h
    exact .inr (.inr ⟨h1, h⟩)
theorem ins_clF {L : List ClientD} {c : ClientD} {i : Nat} {f fv f' : Nat → Value} (hi : i ≤ L.length) (hf : ClF f L) (hv : ClF fv [c]) (h : ∀ j, j < (L.length + 1) * 3 → f' j = if j < i * 3 then f j else if j < i * 3 + 3 then fv (j - i * 3) else f (j - 3)) : ClF f' (L.take i ++ c :: L.drop i) := fun t d ht => by
  have hlen : (L.take i ++ c :: L.drop i).length = L.length + 1 := by simp; omega
  have htl := V.get_lt ht
  rw [hlen] at htl
  rw [h _ (by omega), h _ (by omega), h _ (by omega)]
  rcases ins_get hi ht with ⟨h1, h2⟩ | ⟨h1, h2⟩ | ⟨h1, h2⟩
  · rw [if_pos (by omega), if_pos (by omega), if_pos (by omega)]
    exact hf t d h2
  · subst h1 h2
    rw [if_neg (show ¬ t * 3 < t * 3 by omega), if_neg (show ¬ t * 3 + 1 < t * 3 by omega), if_neg (show ¬ t * 3 + 2 < t * 3 by omega), if_pos (show t * 3 < t * 3 + 3 by omega), if_pos (show t * 3 + 1 < t * 3 + 3 by omega), if_pos (show t * 3 + 2 < t * 3 + 3 by omega)]
    have h3 := hv 0 d rfl
    rw [Nat.sub_self, show t * 3 + 1 - t * 3 = 1 by omega, show t * 3 + 2 - t * 3 = 2 by omega]
    exact h3
  · rw [if_neg (by omega), if_neg (by omega), if_neg (by omega), if_neg (by omega), if_neg (by omega), if_neg (by omega)]
    have h3 := hf _ d h2
    rw [show t * 3 - 3 = (t - 1) * 3 by omega, show t * 3 + 1 - 3 = (t - 1) * 3 + 1 by omega, show t * 3 + 2 - 3 = (t - 1) * 3 + 2 by omega]
    exact h3
theorem grown_any {w w' : World} {g : Nat} (h : Below w.heap.size w w') : w.grownBy w' (some g) := ⟨h.os, h.tape, h.output, h.size, fun b hb _ => h.block b hb⟩
theorem vins (L : List ClientD) (c : ClientD) (i : Nat) (hi : i ≤ L.length) (hL : L.length ≤ 1000000000) : VX Try.prog 89 [(false, [.ln 0]), (false, [.rd (.lit (.int .i64 (i : Int)))]), (false, [.ln 1])] [.seq 35 (L.map tClient), .seq 35 [tClient c]] false [(false, [.seq 35 ((L.take i ++ c :: L.drop i).map tClient)])] := fun w lv F hF vs h1 h2 hv => by
  have hvs : vs = [lv 0, .int .i64 (i : Int), lv 1] := by
    obtain ⟨hl, ha⟩ := hv
    match vs, hl with
    | [v0, v1, v2], _ =>
      obtain ⟨u0, a1, a2, a3⟩ := ha 0 false [.ln 0] v0 rfl rfl
      obtain ⟨u1, b1, b2, b3⟩ := ha 1 false [.rd (.lit (.int .i64 (i : Int)))] v1 rfl rfl
      obtain ⟨u2, c1, c2, c3⟩ := ha 2 false [.ln 1] v2 rfl rfl
      match u0, a2 with
      | [x], _ =>
        match u1, b2 with
        | [y], _ =>
          match u2, c2 with
          | [z], _ =>
            have g1 : x = lv 0 := (a3 0 (.ln 0) x rfl rfl).2
            have g2 : Inn _ _ (.lit (.int .i64 (i : Int))) y := b3 0 (.rd (.lit (.int .i64 (i : Int)))) y rfl rfl
            have g3 : z = lv 1 := (c3 0 (.ln 1) z rfl rfl).2
            rw [a1, b1, c1, inn_lit g2, g1, g3]
            rfl
  obtain ⟨vb, vc, fv, hlv, hFv, hvc, -, hvr, hvf⟩ : ∃ (g cap : Nat) (f : Nat → Value), lv 1 = .slice (some ⟨g, 0, none⟩) 1 cap ∧ F 1 g ∧ 1 ≤ cap ∧ cap ≤ maxLen ∧ w.rowIs g 35 (cap * 3) f ∧ ClF f [c] := by
    rcases own_row (L := [c]) (h1 1 _ rfl).1 with ⟨-, h0⟩ | h
    · cases h0
    · exact h
  have hv1 : ∀ j, j < 3 → (fv j).oneCell' = true := fun j hj => hvf.one (by simpa using hj)
  have hlen : (L.take i ++ c :: L.drop i).length = L.length + 1 := by simp; omega
  rw [hvs, hlv]
  rcases own_row (h1 0 _ rfl).1 with ⟨hl, h0⟩ | ⟨g, cap, f, hl, hFg, hc, hm, hrow, hf⟩
  · subst h0
    have hi0 : i = 0 := by simpa using hi
    subst hi0
    rw [hl]
    have hown := (h1 0 _ rfl).1
    have hcall := iinsA none 0 0 vb vc [] fv (vc * 3) w (by decide) (Nat.le_refl _) (by unfold maxLen; decide) (.inl ⟨rfl, rfl, rfl⟩) ⟨rfl, .inl ⟨rfl, rfl⟩⟩ hvr (by omega) hv1
    refine hcall.mono fun e w' ⟨g', cap', q1, q2, q3, q4⟩ => ?_
    obtain ⟨e1, e2, f', e3, e4⟩ := owns_row q2
    rw [q1]
    refine gives_row (L := [c]) (i0 := 1) (g0 := vb) (F := F) ⟨show (1 : Nat) < 2 by decide, hFv⟩ ⟨q3.os, q3.tape, q3.output, q3.size, fun b hb _ => q3.block b hb (by simp [Value.ownBlock])⟩ (.inr (by rcases q4 with q4 | q4; (simp [Value.ownBlock] at q4); (omega))) e3 (fun t d ht => ?_) e1 e2
    have ht0 : t = 0 := by have := V.get_lt ht; simpa using this
    subst ht0
    cases ht
    obtain ⟨k0, k1, k2⟩ := hvf 0 c rfl
    exact ⟨(e4 0 _ rfl).trans k0, (e4 1 _ rfl).trans k1, (e4 2 _ rfl).trans k2⟩
  · rw [hl]
    have hne : vb ≠ g := fun e => h2 0 1 g (show (0 : Nat) < 2 by decide) (show (1 : Nat) < 2 by decide) (by decide) hFg (e ▸ hFv)
    rcases Nat.eq_or_lt_of_le hi with hin | hin
    · subst hin
      have hcall := iinsA (some ⟨g, 0, none⟩) cap L.length vb vc _ fv (vc * 3) w hL hc hm (by by_cases h : L.length = cap; exact .inr (.inl ⟨g, rfl, h⟩); exact .inr (.inr ⟨g, rfl, fun e => h e.symm⟩)) (row_owns hrow hc hm) hvr (by omega) hv1
      refine hcall.mono fun e w' ⟨g', cap', q1, q2, q3, q4⟩ => ?_
      obtain ⟨e1, e2, f', e3, e4⟩ := owns_row q2
      rw [q1, ← hlen]
      refine gives_row (i0 := 0) (g0 := g) (F := F) ⟨show (0 : Nat) < 2 by decide, hFg⟩ q3 (by rcases q4 with q4 | q4; (exact .inl (Option.some.inj q4).symm); (exact .inr (by omega))) e3 (ins_clF (Nat.le_refl _) hf hvf fun j hj => ?_) (by rw [hlen]; exact e1) e2
      by_cases h3 : j < L.length * 3
      · rw [if_pos h3]
        exact e4 j _ (by rw [List.getElem?_append_left (by simpa using h3), List.getElem?_map, List.getElem?_range h3]; rfl)
      · rw [if_neg h3, if_pos (by omega)]
        refine e4 j _ ?_
        rw [List.getElem?_append_right (by simp; omega)]
        simp only [List.length_map, List.length_range]
        obtain ⟨q, hq⟩ : ∃ q, j - L.length * 3 = q := ⟨_, rfl⟩
        rw [hq]
        match q, (show q < 3 by omega) with
        | 0, _ => rfl
        | 1, _ => rfl
        | 2, _ => rfl
    · by_cases hroom : L.length + 1 ≤ cap
      · have hcall := iinsB g cap L.length i vb vc f fv (vc * 3) w hin hroom hm hrow (fun j hj => hf.one hj) hvr (by omega) hv1 hne
        refine hcall.mono fun e w' ⟨q1, q2, f', q3, q4⟩ => ?_
        rw [q1, ← hlen]
        exact gives_row (i0 := 0) (g0 := g) (F := F) ⟨show (0 : Nat) < 2 by decide, hFg⟩ q2 (.inl rfl) q3 (ins_clF hi hf hvf q4) (by omega) hm
      · have hcall := iinsC g cap L.length i vb vc f fv (vc * 3) w hin hL hc (by omega) hrow (fun j hj => hf.one hj) hvr (by omega) hv1
        refine hcall.mono fun e w' ⟨g', cap', q1, q2, q3, q4, q5, f', q6, q7⟩ => ?_
        rw [q1, ← hlen]
        exact gives_row (i0 := 0) (g0 := g) (F := F) ⟨show (0 : Nat) < 2 by decide, hFg⟩ (grown_any q2) (.inr (by omega)) q6 (ins_clF hi hf hvf q7) (by omega) q5
end Go.Proofs.Ytfghhjcfmmhacaa
