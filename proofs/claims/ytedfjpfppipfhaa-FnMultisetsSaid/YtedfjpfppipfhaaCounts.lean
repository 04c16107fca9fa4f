/- How often each row occurs, kept in a map that the call made: keys, look-ups, 'm[k]++'; no function of the program is walked here. -/
import Derived.Test.YtedfjpfppipfhaaMine
import Derived.Test.YtedfjpfppipfhaaOpenRow
import Derived.Test.YtedfjpfppipfhaaBag
import Derived.Maps.OwnOps
import Derived.Maps.Ext
import Derived.Maps.OwnSet
import Derived.WideKeyEntry
import Derived.DeepKeys4
import Derived.MapViews
namespace Go.Proofs.Ytedfjpfppipfhaa
open Go Go.RowKit Go.Maps Go.WideElems Go.ChangeShapes Go.ChangeMaps Go.MapKept Go.WideShapes Go.Deep Go.Joins
open Go.WideMaps (KeyLaw)

/-- A row's key. -/
def kl (r : R) : Lit := (R.dat (H := Unit) r).asKey
theorem laidOut : laidOutB Try.prog = true := by kernel_rfl
theorem rowIsType : (28 : TypeId) < Try.prog.types.size := of_decide_eq_true (by kernel_rfl)
theorem rowWide : (match Try.prog.underlying 28 with | some (.array _ _) | some (.struct _) => true | _ => false) = true := by kernel_rfl
theorem rowDeep : Try.prog.keyTypeAt (Try.prog.types.size + 1) 28 = true := by kernel_rfl
theorem rowLaw : KeyLaw Try.prog 28 := deep_law_laid laidOut (m := 3) (by omega) rowIsType (by kernel_rfl) rowWide
theorem rowKeyed : Keyed Try.prog 28 := Keyed.of_law rowLaw
theorem implRowCells : Try.prog.cellsOf 28 = 3 := by kernel_rfl
set_option maxRecDepth 100000 in
theorem shut_irow {H : Type} {enc : TypeId × Value → H} {w : World} {base : Nat} {spare : Nat → Bool} {held : Bool} (q : R) (hq : q.wf) : DataW.Trod enc Try.prog w base spare held 28 q.val q.dat [] :=
  shut_agg3 (y0 := (.lit (.int .i64 q.key), [])) (y1 := (.lit (.int .i64 q.value), [])) (y2 := (.lit (.int .i64 q.width), [])) Try.underlying28 (by kernel_rfl) implRowCells
    ⟨1, by simp [DataW.trod, Try.underlying3, lit_wf hq.1]⟩ ⟨1, by simp [DataW.trod, Try.underlying3, lit_wf hq.2.1]⟩ ⟨1, by simp [DataW.trod, Try.underlying3, lit_wf hq.2.2]⟩
theorem formedRow (r : R) : r.val.formed Try.prog 28 = true := by
  simp [Value.formed, R.val, Try.underlying28, implRowCells]
theorem keyRow (r : R) (hr : r.wf) : keyOf Try.prog 28 r.val = some (kl r) :=
  (keyOf_asKey rowDeep rowWide (formedRow r) (shut_irow (H := Unit) (enc := fun _ => ()) (w := World.mk #[] (fun _ _ => 0) 0 default #[]) (base := 0) (spare := fun _ => false) (held := false) r hr)).1
theorem kl_inj {r s : R} (hr : r.wf) (hs : s.wf) (h : kl r = kl s) : r = s := by
  have := rowKeyed.inj (keyRow r hr) (h ▸ keyRow s hs)
  obtain ⟨a, b, c⟩ := r
  obtain ⟨a', b', c'⟩ := s
  simpa [R.val] using this
theorem kl_key (r : R) (hr : r.wf) : WideAt.IsKeyLit (kl r) := rowKeyed.key (keyRow r hr)
theorem zeroInt (w : World) : (zeroValue 3).run Try.prog w = .ok (.int .i64 0) w := Try.zeroValue3 w
/-- The map reads, at each row, as C of it. -/
def AtD (D : DataW Unit) (C : R → Int) : Prop := ∀ r, r.wf → D.atKey (kl r) (.lit (.int .i64 0)) = .lit (.int .i64 (C r))
/-- It has an entry at the rows of L alone. -/
def HasD (D : DataW Unit) (L : List R) : Prop := ∀ k, Maps.has D k = true ↔ ∃ r, r ∈ L ∧ k = kl r
abbrev Own (w : World) (b n : Nat) (D : DataW Unit) : Prop := w.ownsMap Try.prog 28 (plainElem Try.prog 3) b n D
theorem Own.heap {w w' : World} {b n : Nat} {D : DataW Unit} (h : Own w b n D) (e : w'.heap[b]? = w.heap[b]?) : Own w' b n D := by
  obtain ⟨es, clock, hb, F, hs, hD⟩ := h
  exact ⟨es, clock, e.trans hb, F, hs, hD⟩
theorem Own.look {w : World} {b n : Nat} {D : DataW Unit} (h : Own w b n D) {C : R → Int} (hC : AtD D C) (r : R) (hr : r.wf) :
    (Instr.lookup 58 (.map (some b)) r.val false).run Try.prog w = .ok (.int .i64 (C r)) w := by
  obtain ⟨c, hrun, hat, -⟩ := h.lookup_int rowKeyed Try.underlying58 Try.underlying3 (zeroInt w) (keyRow r hr)
  rw [hC r hr] at hat
  injection hat with hat
  injection hat with _ hat
  rw [hat]
  exact hrun
/-- 'm[k] op= ..': the entry is taken, looked up before or behind that, and stored into. -/
theorem Own.entry {w : World} {b n : Nat} {D : DataW Unit} (h : Own w b n D) (hn : n < maxLen) {C : R → Int} (hC : AtD D C) (r : R) (hr : r.wf) (x : Int) (hx : (Lit.int .i64 x).wf = true) :
    ∃ (st : Nat) (W1 W2 : World), (Instr.mapEntry 58 (.map (some b)) r.val).run Try.prog w = .ok (.tuple #[.int .i64 (C r), goInt st]) W1 ∧
      (Instr.lookup 58 (.map (some b)) r.val false).run Try.prog W1 = .ok (.int .i64 (C r)) W1 ∧
      (Instr.entryStore 58 (.map (some b)) (goInt st) (.int .i64 x)).run Try.prog W1 = .ok () W2 ∧
      Own W2 b (n + 1) (D.put (kl r) (.lit (.int .i64 x))) ∧ w.grownBy W2 (some b) := by
  have hlook := h.look hC r hr
  have ht := Try.underlying58
  have hkey := keyRow r hr
  obtain ⟨W2, hupd, hown2, hg2⟩ := h.update rowKeyed ht hn hkey (plainElem_int (H := Unit) Try.underlying3 hx)
  have hwhole := h
  obtain ⟨es, clock, hb, F, hs, hD⟩ := h
  obtain ⟨v0, st, es1, clock1, hE, hv0, hS⟩ := entry_then_store rowLaw ht (fun u => zeroInt u) hb F hkey
  obtain ⟨es', clock', hst, hup⟩ := hS (setBlock w b (.map es1 clock1)) (.int .i64 x) (heap_setBlock_same hb _)
  have hW2 : setBlock (setBlock w b (.map es1 clock1)) b (.map es' clock') = W2 := by
    rw [hupd] at hup
    injection hup with _ hup
    rw [hup]
    simp [setBlock]
  rw [hW2] at hst
  have key : v0 = .int .i64 (C r) ∧ (Instr.lookup 58 (.map (some b)) r.val false).run Try.prog (setBlock w b (.map es1 clock1)) = .ok (.int .i64 (C r)) (setBlock w b (.map es1 clock1)) := by
    rcases rowLaw.find w hkey es.toList F.keys with ⟨h1, h2⟩ | ⟨j, e0, h1, h2, h3⟩
    · have hL : (Instr.lookup 58 (.map (some b)) r.val false).run Try.prog w = .ok (.int .i64 0) w := by
        simp [Instr.lookup, run_underlying ht, MapKept.run_getObj_map hb, rowLaw.check w es.isEmpty hkey, h1, Result.andThen]
      have hE' : (Instr.mapEntry 58 (.map (some b)) r.val).run Try.prog w = .ok (.tuple #[.int .i64 0, goInt clock]) (setBlock w b (.map (es.push ⟨r.val, .int .i64 0, clock⟩) (clock + 1))) := by
        simp [Instr.mapEntry, run_underlying ht, MapKept.run_getObj_map hb, rowLaw.check w false hkey, h1, MapKept.run_setObj_map _ hb, Result.andThen, setBlock]
      have hU : (Instr.mapUpdate 58 (.map (some b)) r.val (.int .i64 0)).run Try.prog w = .ok () (setBlock w b (.map (es.push ⟨r.val, .int .i64 0, clock⟩) (clock + 1))) := by
        simp [Instr.mapUpdate, run_underlying ht, MapKept.run_getObj_map hb, rowLaw.check w false hkey, h1, MapKept.run_setObj_map _ hb, Result.andThen, setBlock]
      rw [hL] at hlook
      injection hlook with hc _
      rw [hE] at hE'
      injection hE' with e1 e2
      rw [e2]
      obtain ⟨W3, hupd3, hown3, -⟩ := hwhole.update rowKeyed ht hn hkey (plainElem_int (H := Unit) Try.underlying3 (a := 0) (by decide))
      rw [hU] at hupd3
      injection hupd3 with _ e3
      rw [← e3] at hown3
      have hD0 : IsMap D := ⟨_, hD⟩
      obtain ⟨c, hrun, hat, -⟩ := hown3.lookup_int rowKeyed ht Try.underlying3 (zeroInt _) hkey
      rw [atKey_put_same hD0 (kl_key r hr)] at hat
      injection hat with hat
      injection hat with _ hat
      rw [← hat, hc] at hrun
      rw [← hc]
      refine ⟨?_, by rw [hc]; exact hrun⟩
      injection e1 with e1
      have := congrArg (fun z => z[0]?) e1
      simpa using this
    · have hj : es[j]? = some e0 := by simpa using h2
      have hL : (Instr.lookup 58 (.map (some b)) r.val false).run Try.prog w = .ok e0.val w := by
        simp [Instr.lookup, run_underlying ht, MapKept.run_getObj_map hb, rowLaw.check w es.isEmpty hkey, h1, Result.andThen]
      have hsame : es.modify j (fun e => { e with key := r.val }) = es := by
        apply Array.ext'
        rw [Array.toList_modify, modify_eq_set _ _ _ _ h2]
        have : ({ e0 with key := r.val } : MapEntry) = e0 := by rw [← h3]
        rw [this]
        exact set_self _ _ _ h2
      have hE' : (Instr.mapEntry 58 (.map (some b)) r.val).run Try.prog w = .ok (.tuple #[e0.val, goInt e0.born]) (setBlock w b (.map es clock)) := by
        simp [Instr.mapEntry, run_underlying ht, MapKept.run_getObj_map hb, rowLaw.check w false hkey, h1, hj, h3, rowLaw.stays w hkey, hsame, MapKept.run_setObj_map _ hb, Result.andThen, setBlock]
      rw [hL] at hlook
      injection hlook with hc _
      rw [hE] at hE'
      injection hE' with e1 e2
      rw [e2]
      refine ⟨?_, (hwhole.heap ((heap_setBlock_same hb _).trans hb.symm)).look hC r hr⟩
      injection e1 with e1
      have := congrArg (fun z => z[0]?) e1
      rw [← hc]
      simpa using this
  rw [key.1] at hE
  exact ⟨st, setBlock w b (.map es1 clock1), W2, hE, key.2, hst, hown2, hg2⟩
theorem Own.map {w : World} {b n : Nat} {D : DataW Unit} (h : Own w b n D) : IsMap D := by
  obtain ⟨es, clock, hb, F, hs, hD⟩ := h
  exact ⟨_, hD⟩
theorem atD_put {D : DataW Unit} {C : R → Int} (hD : IsMap D) (hC : AtD D C) (r : R) (hr : r.wf) (x : Int) : AtD (D.put (kl r) (.lit (.int .i64 x))) (fun s => if s = r then x else C s) := by
  intro s hs
  by_cases he : s = r
  · subst he
    rw [atKey_put_same hD (kl_key s hs)]
    simp
  · rw [atKey_put_other (fun e => he (kl_inj hs hr e)), hC s hs]
    simp [he]
theorem hasD_put {D : DataW Unit} {L : List R} (hD : IsMap D) (hL : HasD D L) (r : R) (hr : r.wf) (x : DataW Unit) : HasD (D.put (kl r) x) (L ++ [r]) := by
  intro k
  by_cases he : k = kl r
  · subst he
    rw [has_put_same hD (kl_key r hr)]
    exact ⟨fun _ => ⟨r, by simp, rfl⟩, fun _ => rfl⟩
  · rw [has_put_other he, hL k]
    constructor
    · rintro ⟨s, hs, e⟩
      exact ⟨s, by simp [hs], e⟩
    · rintro ⟨s, hs, e⟩
      rcases List.mem_append.1 hs with h | h
      · exact ⟨s, h, e⟩
      · rw [List.mem_singleton.1 h] at e
        exact absurd e he
theorem atD_none : AtD (.map []) (fun _ => 0) := fun _ _ => rfl
theorem hasD_none : HasD (.map []) [] := fun k => Iff.intro (fun h => by cases h) (fun ⟨r, hr, _⟩ => by cases hr)
end Go.Proofs.Ytedfjpfppipfhaa
