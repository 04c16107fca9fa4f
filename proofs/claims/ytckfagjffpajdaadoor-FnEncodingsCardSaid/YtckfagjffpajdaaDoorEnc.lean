/- The law FnEncodings, walked: one case of the number that is drawn. -/
import Derived.Test.YtckfagjffpajdaaDoorDrawn
import Derived.Test.YtckfagjffpajdaaDoorDecV
import Derived.Test.YtckfagjffpajdaaDoorDecFixi
import Derived.Test.YtckfagjffpajdaaDoorUnhexi
import Derived.Test.YtckfagjffpajdaaDoorParsei
namespace Go.Proofs.YtckfagjffpajdaaDoor
open Go Go.RowKit Num Dec

theorem cat_data (V T : List UInt8) : ((⟨V.toArray⟩ : ByteArray) ++ ⟨T.toArray⟩).data.toList = V ++ T := by rw [ByteArray.mk_append_mk]
theorem isEmpty_of_length {l : List UInt8} (h : 1 ≤ l.length) : l.isEmpty = false := by cases l <;> simp at h ⊢
theorem small49 (n : Int) (h0 : 0 ≤ n) (h1 : n ≤ 562949953421311) : n.toNat < 128 ^ 7 := by simp; omega
theorem encFixed7_length (n : Int) : (encFixed n 7).length ≤ 7 := by
  unfold encFixed
  split
  · rw [be_length]; exact Nat.le_refl _
  · simp
theorem fix7_eq (n : Int) (h0 : 0 ≤ n) (h1 : n < 72057594037927936) : encFixed n 7 = be 7 n.toNat := fix_yes n 7 (by omega) (by omega) h0 (by show n.toNat < 256 ^ 7; simp; omega)
theorem fix7_ne (n : Int) (h0 : 0 ≤ n) (h1 : n < 72057594037927936) : (encFixed n 7).isEmpty = false := isEmpty_of_length (by rw [fix7_eq n h0 h1, be_length]; omega)
theorem fix7_len (n : Int) (h0 : 0 ≤ n) (h1 : n < 72057594037927936) : (encFixed n 7).length = 7 := by rw [fix7_eq n h0 h1, be_length]
theorem fix7_back (n : Int) (h0 : 0 ≤ n) (h1 : n < 72057594037927936) (r : List UInt8) : ((decFixed (encFixed n 7 ++ r) 7 : Nat) : Int) = n ∧ decFixedOk (encFixed n 7 ++ r) 7 = true := by
  have hlen := fix7_len n h0 h1
  have hok : decFixedOk (encFixed n 7 ++ r) 7 = true := by unfold decFixedOk; rw [List.length_append, hlen, decide_eq_true (by omega)]
  refine ⟨?_, hok⟩
  unfold decFixed
  rw [hok, if_pos rfl, show (7 : Int).toNat = (encFixed n 7).length from hlen.symm, List.take_left', fix7_eq n h0 h1, bval_be, Nat.mod_eq_of_lt (by simp; omega)]
  · omega
  · rfl
end Go.Proofs.YtckfagjffpajdaaDoor
