/- strings.CutPrefix and strings.Cut at one sign, by the library's contracts. -/
import Derived.Test.YtoiobaiiammehaaDoorSplitN
namespace Go.Proofs.YtoiobaiiammehaaDoor
open Go Go.RowKit Go.Shelf

theorem below_drewN {B : Nat} {a w : World} (h : Below B a w) (n : Nat) : Below B a (w.drewN n) := ⟨h.os, h.tape, h.output, h.size, h.block⟩
theorem bytes_list (s : ByteArray) : (⟨s.data.toList.toArray⟩ : ByteArray) = s := by simp
theorem cutsign (s : ByteArray) (b : UInt8) (w : World) (hm : Mx w) (hs : s.size < 4294967281) :
    Calls Tryd.prog 41 #[.string s, .string ⟨#[b]⟩] w fun e w' => Below w.heap.size w w' ∧
      ((b ∉ s.data.toList ∧ e = .returned (.tuple #[.string s, .string ⟨#[]⟩, .bool false])) ∨
        ∃ x y, s.data.toList = x ++ b :: y ∧ b ∉ x ∧ e = .returned (.tuple #[.string ⟨x.toArray⟩, .string ⟨y.toArray⟩, .bool true])) := by
  obtain ⟨m, hm⟩ := hm
  refine (Any.strings_Cut { Tryd.laysM145 with } s ⟨#[b]⟩ m w hs hm).mono ?_
  rintro e w' ⟨rfl, n, rfl⟩
  refine ⟨below_drewN (Below.refl _ _) n, ?_⟩
  have hd : (⟨#[b]⟩ : ByteArray).data.toList = [b] := rfl
  rw [hd]
  unfold Lib.cut
  rcases Cut.index_sign b s.data.toList with ⟨h1, h2⟩ | ⟨i, h1, h2, h3, h4⟩
  · left
    refine ⟨h2, ?_⟩
    rw [if_neg (by rw [h1]; omega), bytes_list]
  · right
    refine ⟨s.data.toList.take i, s.data.toList.drop (i + 1), h4, h3, ?_⟩
    rw [if_pos (by rw [h1]; omega), h1]
    rfl
theorem cutpre (s : ByteArray) (b : UInt8) (w : World) :
    Calls Tryd.prog 40 #[.string s, .string ⟨#[b]⟩] w fun e w' => w' = w ∧
      ((s.data.toList.head? ≠ some b ∧ e = .returned (.tuple #[.string s, .bool false])) ∨
        ∃ q, s.data.toList = b :: q ∧ e = .returned (.tuple #[.string ⟨q.toArray⟩, .bool true])) := by
  refine (Tryd.strings_CutPrefix s ⟨#[b]⟩ w).mono ?_
  rintro e w' ⟨rfl, rfl⟩
  refine ⟨rfl, ?_⟩
  have hd : (⟨#[b]⟩ : ByteArray).data.toList = [b] := rfl
  rw [hd]
  unfold Lib.trimPrefix Lib.hasPrefix
  cases hl : s.data.toList with
  | nil =>
    left
    refine ⟨by simp, ?_⟩
    have hs : s = ⟨#[]⟩ := by
      apply ByteArray.ext
      apply Array.toList_inj.1
      exact hl
    rw [hs]; rfl
  | cons c q =>
    by_cases hc : b = c
    · right
      subst hc
      refine ⟨q, rfl, ?_⟩
      simp [List.isPrefixOf]
    · left
      refine ⟨by simpa using fun e => hc e.symm, ?_⟩
      have e : [b].isPrefixOf (c :: q) = false := by simp [List.isPrefixOf, hc]
      rw [e, ← hl]
      simp
end Go.Proofs.YtoiobaiiammehaaDoor
