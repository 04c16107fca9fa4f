/- strings.SplitN over the program: what it asks of the library's own variable, and how that is kept. -/
import Derived.Test.YtoiobaiiammehaaDoorLaid
import Derived.Test.YtoiobaiiammehaaDoorMath
import Derived.Test.YtoiobaiiammehaaDoorStrs
import Derived.Shelf.Strings.SplitShaped
namespace Go.Proofs.YtoiobaiiammehaaDoor
open Go Go.RowKit Go.Shelf

/-- internal/bytealg.MaxLen holds some int. -/
def Mx (w : World) : Prop := ∃ m, w.cell? ⟨0, 0, none⟩ = some (.int .i64 m)
theorem mx_of {w : World} (h : w.ShapedOpen Tryd.prog) : Mx w := Tryd.laysM147.s1_3 w h
theorem Mx.stay {w w' : World} (h : Mx w) (hb : Below w.heap.size w w') : Mx w' := by
  obtain ⟨m, h⟩ := h
  exact ⟨m, (hb.cell (World.block_lt_of_cell? w _ h)).trans h⟩
theorem splitn (s sep : ByteArray) (n : Nat) (w : World) (hm : Mx w) (hs : s.size < 4294967281) (h1 : 1 ≤ sep.size) (hn : 1 ≤ n) (hn63 : n ≤ 9223372036854775807) :
    Calls Tryd.prog 57 #[.string s, .string sep, .int .i64 n] w fun e w' =>
      e = .returned (.slice (some ⟨w.heap.size, 0, none⟩) (Lib.splitB sep 0 (min n (s.size + 1) - 1) s).length (min n (s.size + 1))) ∧ w' = w.alloc (.cells (Lib.cellsOf (Lib.splitB sep 0 (min n (s.size + 1) - 1) s) (min n (s.size + 1))) 9) := by
  obtain ⟨m, hm⟩ := hm
  exact Any.strings_SplitN { Tryd.laysM147 with } Tryd.laysM147.i9 s sep n m w hs hm h1 hn hn63
theorem size_data (s : ByteArray) : s.data.toList.length = s.size := by simp
/-- strings.SplitN at a sign: all pieces, or n of them where there are more. -/
theorem splitn_sign (s : ByteArray) (b : UInt8) (n : Nat) (w : World) (hm : Mx w) (hs : s.size < 4294967281) (hn : 1 ≤ n) (hn63 : n ≤ 9223372036854775807) :
    Calls Tryd.prog 57 #[.string s, .string ⟨#[b]⟩, .int .i64 n] w fun e w' =>
      ∃ len cap, e = .returned (.slice (some ⟨w.heap.size, 0, none⟩) len cap) ∧ Below w.heap.size w w' ∧ (((Cut.cut b s.data.toList).length ≤ n ∧ len = (Cut.cut b s.data.toList).length ∧ IsStrs w' w.heap.size (Cut.cut b s.data.toList)) ∨ (n < (Cut.cut b s.data.toList).length ∧ len = n)) := by
  refine (splitn s ⟨#[b]⟩ n w hm hs (Nat.le_refl 1) hn hn63).mono ?_
  rintro e w' ⟨rfl, rfl⟩
  refine ⟨_, _, rfl, (Below.refl _ _).alloc (Nat.le_refl _) _, ?_⟩
  have hd := Lib.splitB_data ⟨#[b]⟩ 0 (min n (s.size + 1) - 1) s
  have hsl := size_data s
  have e : (⟨#[b]⟩ : ByteArray).data.toList = [b] := rfl
  rw [e] at hd
  have hl : (Lib.splitB ⟨#[b]⟩ 0 (min n (s.size + 1) - 1) s).length = (Lib.splitK [b] 0 (min n (s.size + 1) - 1) s.data.toList).length := by rw [← hd, List.length_map]
  rw [hl]
  rcases Cut.splitN_sign b n hn s.data.toList with ⟨h1, h2⟩ | ⟨h1, h2⟩
  · left
    rw [hsl] at h1
    rw [h1] at hd ⊢
    refine ⟨h2, rfl, ⟨_, _, heap_alloc_new _ _⟩, fun t ht => ?_⟩
    have hq : (Lib.splitB ⟨#[b]⟩ 0 (min n (s.size + 1) - 1) s).length = (Cut.cut b s.data.toList).length := by rw [← hd, List.length_map]
    have ht' : t < (Lib.splitB ⟨#[b]⟩ 0 (min n (s.size + 1) - 1) s).length := by rw [hq]; exact ht
    have hp : (Lib.splitB ⟨#[b]⟩ 0 (min n (s.size + 1) - 1) s)[t].data.toList = (Cut.cut b s.data.toList)[t] := by
      have : ((Lib.splitB ⟨#[b]⟩ 0 (min n (s.size + 1) - 1) s).map (·.data.toList))[t]? = some ((Cut.cut b s.data.toList)[t]) := by rw [hd, List.getElem?_eq_getElem ht]
      rw [List.getElem?_map, List.getElem?_eq_getElem ht', Option.map_some] at this
      exact Option.some.inj this
    have hv : Value.string (Lib.splitB ⟨#[b]⟩ 0 (min n (s.size + 1) - 1) s)[t] = .string ⟨((Cut.cut b s.data.toList)[t]).toArray⟩ := by rw [← hp, Joins.bytes_eta]
    rw [← hv]
    simp only [World.cell?, heap_alloc_new]
    simp only [Lib.cellsOf, List.getElem?_toArray]
    rw [List.getElem?_append_left (by simpa using ht'), List.getElem?_map, List.getElem?_eq_getElem ht']
    rfl
  · right
    rw [hsl] at h1
    exact ⟨h2, h1⟩
end Go.Proofs.YtoiobaiiammehaaDoor
