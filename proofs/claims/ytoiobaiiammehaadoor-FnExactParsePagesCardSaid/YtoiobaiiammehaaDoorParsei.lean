/- ParseInt of the program: the number whose numeral the string is, if it has at most nine digits, for every string. -/
import Derived.Test.YtoiobaiiammehaaDoorLaid
import Derived.Test.YtoiobaiiammehaaDoorMath
import Derived.Lib.AtoiBound
import Derived.Lib.ConvBytes
namespace Go.Proofs.YtoiobaiiammehaaDoor
open Go Go.RowKit Dec

/-- What both ParseInt answer. -/
def ParAns (l : List UInt8) (e : Ending) : Prop := e = .returned (.tuple #[.int .i64 ((parse l).getD 0), .bool (parse l).isSome])
theorem parans_no {l : List UInt8} (h : parse l = none) : ParAns l (.returned (.tuple #[.int .i64 0, .bool false])) := by unfold ParAns; rw [h]; rfl
theorem parans_yes {l : List UInt8} {n : Int} (h : parse l = some n) : ParAns l (.returned (.tuple #[.int .i64 n, .bool true])) := by unfold ParAns; rw [h]; rfl
theorem trim_any (s : ByteArray) (T : List UInt8) (w : World) (hT : T = Lib.trimPrefix s.data.toList [45]) :
    Calls Tryd.prog 76 #[.string s, .string ⟨#[45]⟩] w fun e w' => e = .returned (.string ⟨T.toArray⟩) ∧ w = w' := by
  refine (Tryd.strings_TrimPrefix s ⟨#[45]⟩ w).mono fun e w' ⟨he, hw⟩ => ⟨?_, hw.symm⟩
  rw [he, hT]
theorem below_bytes (w : World) (e : TypeId) (t : ByteArray) : Below w.heap.size w (Lib.bytesWorld w e t) :=
  ⟨rfl, rfl, rfl, by rw [Lib.bytesWorld_size]; exact Nat.le_succ _, fun k hk => Lib.bytesWorld_at_old w e t k hk⟩
theorem atoi_ok (s : ByteArray) (n : Int) (hl : s.size ≤ 18) (h : Lib.atoi s.data.toList = some n) (w : World) :
    Calls Tryd.prog 77 #[.string s] w fun e w' => e = .returned (.tuple #[.int .i64 n, .nilIface]) ∧ Below w.heap.size w w' := by
  refine (Tryd.strconv_Atoi s n hl h w).mono fun e w' ⟨he, hw⟩ => ⟨he, ?_⟩
  obtain ⟨t, rfl⟩ := hw
  exact below_bytes w _ t
theorem atoi_bad (s : ByteArray) (hl : s.size ≤ 18) (h : Lib.atoi s.data.toList = none) (w : World) (hv : Syn w) :
    Calls Tryd.prog 77 #[.string s] w fun e w' => ∃ N, e = .returned (.tuple #[.int .i64 0, .iface 117 (.pointer (some ⟨N, 0, none⟩))]) ∧ Below w.heap.size w w' := by
  obtain ⟨tp, p, hv⟩ := hv
  refine (Tryd.strconv_Atoi_err_var s hl h tp p w hv).mono fun e w' hh => ?_
  obtain ⟨N, he, _, _, hb⟩ := hh
  exact ⟨N, he, hb⟩

theorem iparse_long (s : ByteArray) (w : World) (h : 9 < (Lib.trimPrefix s.data.toList [45]).length) :
    Calls Tryd.prog 66 #[.string s] w fun e w' => ParAns s.data.toList e ∧ Below w.heap.size w w' := by
  have hans := parans_no (parse_long _ h)
  obtain ⟨T, hT⟩ : ∃ T, T = Lib.trimPrefix s.data.toList [45] := ⟨_, rfl⟩
  rw [← hT] at h
  have HT := Lib.hid hT
  clear hT
  go_enter Tryd.func66, Tryd.ntmps66
  go_wp2_with fail
  refine (trim_any s T _ HT.out).mono ?_
  rintro e w1 ⟨rfl, rfl⟩
  go_wp2_with fail
  go_ret2
  exact ⟨hans, Below.refl _ _⟩
theorem iparse_bad (s : ByteArray) (w : World) (hv : Syn w) (h : ¬ 9 < (Lib.trimPrefix s.data.toList [45]).length) (ha : Lib.atoi s.data.toList = none) :
    Calls Tryd.prog 66 #[.string s] w fun e w' => ParAns s.data.toList e ∧ Below w.heap.size w w' := by
  have hans := parans_no (parse_bad _ ha)
  have hsz : s.size ≤ 18 := by have := trim_length s.data.toList; simp at this; omega
  obtain ⟨T, hT⟩ : ∃ T, T = Lib.trimPrefix s.data.toList [45] := ⟨_, rfl⟩
  rw [← hT] at h
  have HT := Lib.hid hT
  have HA := Lib.hid ha
  have HV := Lib.hid hv
  clear hT ha hv
  go_enter Tryd.func66, Tryd.ntmps66
  go_wp2_with fail
  refine (trim_any s T _ HT.out).mono ?_
  rintro e w1 ⟨rfl, rfl⟩
  go_wp2_with fail
  refine (atoi_bad s hsz HA.out _ HV.out).mono ?_
  rintro e w2 ⟨N, rfl, b2⟩
  go_wp2_with fail
  go_ret2
  exact ⟨hans, b2⟩
theorem iparse_ok (s : ByteArray) (w : World) (ht : Tab w) (n : Int) (h : ¬ 9 < (Lib.trimPrefix s.data.toList [45]).length) (ha : Lib.atoi s.data.toList = some n) :
    Calls Tryd.prog 66 #[.string s] w fun e w' => ParAns s.data.toList e ∧ Below w.heap.size w w' := by
  have hsz : s.size ≤ 18 := by have := trim_length s.data.toList; simp at this; omega
  have hbd := Lib.atoi_bound ha (by simpa using hsz)
  have hsl : Hid (s.toList = s.data.toList) := ByteArray.toList_eq s
  have hyes : Lib.itoa n = s.data.toList → ParAns s.data.toList (.returned (.tuple #[.int .i64 n, .bool true])) := fun he => parans_yes (parse_same _ n he (by omega))
  have hno : Lib.itoa n ≠ s.data.toList → ParAns s.data.toList (.returned (.tuple #[.int .i64 0, .bool false])) := fun he => parans_no (parse_other _ n ha he)
  have HY := Lib.hid hyes
  have HN := Lib.hid hno
  obtain ⟨T, hT⟩ : ∃ T, T = Lib.trimPrefix s.data.toList [45] := ⟨_, rfl⟩
  rw [← hT] at h
  have HT := Lib.hid hT
  have HA := Lib.hid ha
  have HV := Lib.hid ht
  clear hT ha ht hyes hno
  go_enter Tryd.func66, Tryd.ntmps66
  go_wp2_with fail
  refine (trim_any s T _ HT.out).mono ?_
  rintro e w1 ⟨rfl, rfl⟩
  go_wp2_with fail
  refine (atoi_ok s n hsz HA.out _).mono ?_
  rintro e w2 ⟨rfl, b2⟩
  have HW := Lib.hid (HV.out.stay b2)
  go_wp2_with fail
  refine (ifmt n _ (by omega) (by omega) HW.out).mono ?_
  rintro e w3 ⟨rfl, b3⟩
  go_wp2_with fail
  · have hne : (!(Lib.itoa n == s.toList)) = true := by assumption
    rw [hsl.out] at hne
    go_ret2
    exact ⟨HN.out (by simpa using hne), b2.trans (b3.mono b2.size)⟩
  · have heq : (!(Lib.itoa n == s.toList)) = false := by assumption
    rw [hsl.out] at heq
    go_ret2
    exact ⟨HY.out (by simpa using heq), b2.trans (b3.mono b2.size)⟩
theorem iparse (s : ByteArray) (w : World) (ht : Tab w) (hv : Syn w) :
    Calls Tryd.prog 66 #[.string s] w fun e w' => ParAns s.data.toList e ∧ Below w.heap.size w w' := by
  by_cases h : 9 < (Lib.trimPrefix s.data.toList [45]).length
  · exact iparse_long s w h
  · cases ha : Lib.atoi s.data.toList with
    | none => exact iparse_bad s w hv h ha
    | some n => exact iparse_ok s w ht n h ha
end Go.Proofs.YtoiobaiiammehaaDoor
