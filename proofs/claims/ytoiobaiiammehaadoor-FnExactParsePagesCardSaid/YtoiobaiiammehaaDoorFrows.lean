/- The reference's FormatRow, by contract. -/
import Derived.Test.YtoiobaiiammehaaDoorValids
import Derived.Test.YtoiobaiiammehaaDoorFmt
import Derived.Deep.RegionHeld3
namespace Go.Proofs.YtoiobaiiammehaaDoor
open Go.RowKit Go.Lib

/-- The row lies in its box, and what was there at w's time is as it was. -/
structure Boxed (w : World) (r : R) (v : World) : Prop where
  c0 : v.cell? ⟨w.heap.size, 0, none⟩ = some (.int .i64 r.key)
  c1 : v.cell? ⟨w.heap.size, 1, none⟩ = some (.int .i64 r.value)
  c2 : v.cell? ⟨w.heap.size, 2, none⟩ = some (.int .i64 r.width)
  old : Below w.heap.size w v
  big : w.heap.size < v.heap.size
theorem Boxed.drew {w v : World} {r : R} (h : Boxed w r v) : Boxed w r v.drew := ⟨h.c0, h.c1, h.c2, h.old.drew, h.big⟩
theorem Boxed.next {w v v' : World} {r : R} (h : Boxed w r v) (hb : Below v.heap.size v v') : Boxed w r v' :=
  ⟨(hb.cell h.big).trans h.c0, (hb.cell h.big).trans h.c1, (hb.cell h.big).trans h.c2, h.old.trans (hb.mono (Nat.le_of_lt h.big)), Nat.lt_of_lt_of_le h.big hb.size⟩
theorem boxed_start {w w' : World} {r : R} {t : TypeId} (hb : Below (w.alloc (.cells #[.int .i64 r.key, .int .i64 r.value, .int .i64 r.width] t)).heap.size (w.alloc (.cells #[.int .i64 r.key, .int .i64 r.value, .int .i64 r.width] t)) w') : Boxed w r w' := by
  obtain ⟨⟨c0, c1, c2⟩, b⟩ := box_row (r := r) hb
  exact ⟨c0, by simpa using c1, by simpa using c2, b, box_lt hb⟩
theorem Boxed.facts {w v : World} {r : R} (h : Boxed w r v) : v.cell? ⟨w.heap.size, 0, none⟩ = some (.int .i64 r.key) ∧ v.cell? ⟨w.heap.size, 1, none⟩ = some (.int .i64 r.value) ∧ v.cell? ⟨w.heap.size, 2, none⟩ = some (.int .i64 r.width) ∧ Hid (Boxed w r v) := ⟨h.c0, h.c1, h.c2, h⟩
theorem fmt_str (a b c : List UInt8) : (⟨a.toArray⟩ : ByteArray) ++ ⟨#[46]⟩ ++ ⟨b.toArray⟩ ++ ⟨#[46]⟩ ++ ⟨c.toArray⟩ = ⟨(a ++ 46 :: (b ++ 46 :: c)).toArray⟩ := by
  have e : (⟨#[46]⟩ : ByteArray) = ⟨[46].toArray⟩ := rfl
  rw [e, ByteArray.mk_append_mk, ByteArray.mk_append_mk, ByteArray.mk_append_mk, ByteArray.mk_append_mk]
  simp
set_option maxRecDepth 100000 in
theorem sfrow (r : R) (w : World) : Calls Tryd.prog 31 #[r.val] w fun e w' => e = .returned (.string ⟨r.fmt.toArray⟩) ∧ Below w.heap.size w w' := by
  have HV := Lib.hid (svalid r)
  cases hok : r.ok with
  | false =>
    have hf : r.fmt = [] := by unfold R.fmt; rw [hok]; rfl
    have HF := Lib.hid hf
    rw [hok] at HV
    clear hf hok
    unfold R.val at HV ⊢
    go_enter Tryd.func31, Tryd.ntmps31
    go_wp2_with fail
    refine (HV.out _).mono ?_
    rintro e w1 ⟨rfl, b1⟩
    have HB := Lib.hid (boxed_start b1)
    clear b1
    go_wp2_with fail
    go_ret
    exact ⟨by rw [HF.out]; rfl, HB.out.old⟩
  | true =>
    have hf : r.fmt = itoa r.key ++ 46 :: (itoa r.value ++ 46 :: itoa r.width) := by unfold R.fmt; rw [hok]; rfl
    have HF := Lib.hid hf
    have hk := R.ok_iff.1 hok
    have l0 := dd_small r.key (by omega) (by omega)
    have l1 := dd_small r.value (by omega) (by omega)
    have l2 := dd_small r.width (by omega) (by omega)
    have F0 := Lib.hid fun w => sfmt r.key w (by omega) (by omega)
    have F1 := Lib.hid fun w => sfmt r.value w (by omega) (by omega)
    have F2 := Lib.hid fun w => sfmt r.width w (by omega) (by omega)
    rw [hok] at HV
    clear hf hok hk
    obtain ⟨a, ha⟩ : ∃ a, a = itoa r.key := ⟨_, rfl⟩
    obtain ⟨b, hb⟩ : ∃ a, a = itoa r.value := ⟨_, rfl⟩
    obtain ⟨c, hc⟩ : ∃ a, a = itoa r.width := ⟨_, rfl⟩
    rw [← ha] at F0 HF l0
    rw [← hb] at F1 HF l1
    rw [← hc] at F2 HF l2
    clear ha hb hc
    have n0 : ¬ 9223372036854775807 < a.length + 1 := by omega
    have n1 : ¬ 9223372036854775807 < a.length + 1 + b.length := by omega
    have n2 : ¬ 9223372036854775807 < a.length + 1 + b.length + 1 := by omega
    have n3 : ¬ 9223372036854775807 < a.length + 1 + b.length + 1 + c.length := by omega
    unfold R.val at HV ⊢
    go_enter Tryd.func31, Tryd.ntmps31
    go_wp2_with fail
    refine (HV.out _).mono ?_
    rintro e w1 ⟨rfl, b1⟩
    have HB := Lib.hid (boxed_start b1).drew
    have hb := boxed_start b1
    obtain ⟨c0, c1, c2, _, _⟩ := hb
    clear b1
    go_wp2_with fail
    go_region_held3 (fun v => v.cell? ⟨w.heap.size, 0, none⟩ = some (.int .i64 r.key) ∧ v.cell? ⟨w.heap.size, 1, none⟩ = some (.int .i64 r.value) ∧ v.cell? ⟨w.heap.size, 2, none⟩ = some (.int .i64 r.width) ∧ Hid (Boxed w r v)) (first | assumption | exact HB.out.facts | exact (Boxed.next (Hid.out (And.right (And.right (And.right (by assumption))))) (by assumption)).facts) (first | (go_at_call_of 46 r.key; refine (F0.out _).mono ?_; rintro e w' ⟨rfl, b2⟩) | (go_at_call_of 46 r.value; refine (F1.out _).mono ?_; rintro e w' ⟨rfl, b2⟩) | (go_at_call_of 46 r.width; refine (F2.out _).mono ?_; rintro e w' ⟨rfl, b2⟩))
    have hold := (Hid.out (And.right (And.right (And.right (by assumption : _ ∧ _ ∧ _ ∧ Hid (Boxed w r w'))))) : Boxed w r w').old
    go_wp2_with fail
    go_ret
    exact ⟨by rw [HF.out, ← fmt_str]; rfl, hold⟩
end Go.Proofs.YtoiobaiiammehaaDoor
