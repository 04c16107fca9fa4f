/- What the programs' types are to the model: sizes, zeros, fields, elements; no function of program or reference. -/
import Derived.Test.YtjdjceohlcimaaaVG
namespace Go.Proofs.Ytjdjceohlcimaaa.V
open Go Go.RowKit
set_option linter.unusedVariables false
set_option maxRecDepth 10000
theorem sz_bool : Sz 4 1 := Sz.of (by kernel_rfl)
theorem agg_bool (w : World) : (isAgg 4).run Try.prog w = .ok false w := by go_simp <;> rfl
theorem zero_bool (w : World) : (zeroValue 4).run Try.prog w = .ok (.bool false) w := by go_simp <;> rfl
theorem sz_impl_Account : Sz 25 4 := Sz.of (by kernel_rfl)
theorem agg_impl_Account (w : World) : (isAgg 25).run Try.prog w = .ok true w := by go_simp <;> rfl
theorem zero_impl_Account (w : World) : (zeroValue 25).run Try.prog w = .ok (.agg #[.int .i64 0, .int .i64 0, .int .i64 0, .int .i64 0]) w := by go_simp <;> rfl
theorem fld_impl_Account_0 (ad : Addr) (w : World) (h : ad.spot = none) : (Instr.fieldAt 25 (.pointer (some ad)) 0).run Try.prog w = .ok (.pointer (some ⟨ad.block, ad.off + 0, none⟩)) w := by
  obtain ⟨b, o, s⟩ := ad
  subst h
  go_simp
theorem fld_impl_Account_1 (ad : Addr) (w : World) (h : ad.spot = none) : (Instr.fieldAt 25 (.pointer (some ad)) 1).run Try.prog w = .ok (.pointer (some ⟨ad.block, ad.off + 1, none⟩)) w := by
  obtain ⟨b, o, s⟩ := ad
  subst h
  go_simp
theorem fld_impl_Account_2 (ad : Addr) (w : World) (h : ad.spot = none) : (Instr.fieldAt 25 (.pointer (some ad)) 2).run Try.prog w = .ok (.pointer (some ⟨ad.block, ad.off + 2, none⟩)) w := by
  obtain ⟨b, o, s⟩ := ad
  subst h
  go_simp
theorem fld_impl_Account_3 (ad : Addr) (w : World) (h : ad.spot = none) : (Instr.fieldAt 25 (.pointer (some ad)) 3).run Try.prog w = .ok (.pointer (some ⟨ad.block, ad.off + 3, none⟩)) w := by
  obtain ⟨b, o, s⟩ := ad
  subst h
  go_simp
theorem bld_impl_Account (vs : Array (Nat × Value)) (r : Array Value) (w : World) (h : Instr.fill (fun i => ([(0, 1), (1, 1), (2, 1), (3, 1)] : List (Nat × Nat))[i]?) (Value.cells (.agg #[.int .i64 0, .int .i64 0, .int .i64 0, .int .i64 0])) vs.toList = some r) : (Instr.build 25 vs).run Try.prog w = .ok (.agg r) w := by
  have h2 := h
  simp only [Value.cells] at h2
  unfold Instr.build
  simp only [Sem.run_bind, zero_impl_Account, Result.andThen_ok]
  go_simp
theorem sz_int : Sz 3 1 := Sz.of (by kernel_rfl)
theorem agg_int (w : World) : (isAgg 3).run Try.prog w = .ok false w := by go_simp <;> rfl
theorem zero_int (w : World) : (zeroValue 3).run Try.prog w = .ok (.int .i64 0) w := by go_simp <;> rfl
theorem sz_int64 : Sz 2 1 := Sz.of (by kernel_rfl)
theorem agg_int64 (w : World) : (isAgg 2).run Try.prog w = .ok false w := by go_simp <;> rfl
theorem zero_int64 (w : World) : (zeroValue 2).run Try.prog w = .ok (.int .i64 0) w := by go_simp <;> rfl
theorem sz_laws_Account : Sz 36 4 := Sz.of (by kernel_rfl)
theorem agg_laws_Account (w : World) : (isAgg 36).run Try.prog w = .ok true w := by go_simp <;> rfl
theorem zero_laws_Account (w : World) : (zeroValue 36).run Try.prog w = .ok (.agg #[.int .i64 0, .int .i64 0, .int .i64 0, .int .i64 0]) w := by go_simp <;> rfl
theorem fld_laws_Account_0 (ad : Addr) (w : World) (h : ad.spot = none) : (Instr.fieldAt 36 (.pointer (some ad)) 0).run Try.prog w = .ok (.pointer (some ⟨ad.block, ad.off + 0, none⟩)) w := by
  obtain ⟨b, o, s⟩ := ad
  subst h
  go_simp
theorem fld_laws_Account_1 (ad : Addr) (w : World) (h : ad.spot = none) : (Instr.fieldAt 36 (.pointer (some ad)) 1).run Try.prog w = .ok (.pointer (some ⟨ad.block, ad.off + 1, none⟩)) w := by
  obtain ⟨b, o, s⟩ := ad
  subst h
  go_simp
theorem fld_laws_Account_2 (ad : Addr) (w : World) (h : ad.spot = none) : (Instr.fieldAt 36 (.pointer (some ad)) 2).run Try.prog w = .ok (.pointer (some ⟨ad.block, ad.off + 2, none⟩)) w := by
  obtain ⟨b, o, s⟩ := ad
  subst h
  go_simp
theorem fld_laws_Account_3 (ad : Addr) (w : World) (h : ad.spot = none) : (Instr.fieldAt 36 (.pointer (some ad)) 3).run Try.prog w = .ok (.pointer (some ⟨ad.block, ad.off + 3, none⟩)) w := by
  obtain ⟨b, o, s⟩ := ad
  subst h
  go_simp
theorem bld_laws_Account (vs : Array (Nat × Value)) (r : Array Value) (w : World) (h : Instr.fill (fun i => ([(0, 1), (1, 1), (2, 1), (3, 1)] : List (Nat × Nat))[i]?) (Value.cells (.agg #[.int .i64 0, .int .i64 0, .int .i64 0, .int .i64 0])) vs.toList = some r) : (Instr.build 36 vs).run Try.prog w = .ok (.agg r) w := by
  have h2 := h
  simp only [Value.cells] at h2
  unfold Instr.build
  simp only [Sem.run_bind, zero_laws_Account, Result.andThen_ok]
  go_simp
theorem sz_spec_l1Cur : Sz 49 3 := Sz.of (by kernel_rfl)
theorem agg_spec_l1Cur (w : World) : (isAgg 49).run Try.prog w = .ok true w := by go_simp <;> rfl
theorem zero_spec_l1Cur (w : World) : (zeroValue 49).run Try.prog w = .ok (.agg #[.slice none 0 0, .int .i64 0, .int .i64 0]) w := by go_simp <;> rfl
theorem fld_spec_l1Cur_0 (ad : Addr) (w : World) (h : ad.spot = none) : (Instr.fieldAt 49 (.pointer (some ad)) 0).run Try.prog w = .ok (.pointer (some ⟨ad.block, ad.off + 0, none⟩)) w := by
  obtain ⟨b, o, s⟩ := ad
  subst h
  go_simp
theorem fld_spec_l1Cur_1 (ad : Addr) (w : World) (h : ad.spot = none) : (Instr.fieldAt 49 (.pointer (some ad)) 1).run Try.prog w = .ok (.pointer (some ⟨ad.block, ad.off + 1, none⟩)) w := by
  obtain ⟨b, o, s⟩ := ad
  subst h
  go_simp
theorem fld_spec_l1Cur_2 (ad : Addr) (w : World) (h : ad.spot = none) : (Instr.fieldAt 49 (.pointer (some ad)) 2).run Try.prog w = .ok (.pointer (some ⟨ad.block, ad.off + 2, none⟩)) w := by
  obtain ⟨b, o, s⟩ := ad
  subst h
  go_simp
theorem bld_spec_l1Cur (vs : Array (Nat × Value)) (r : Array Value) (w : World) (h : Instr.fill (fun i => ([(0, 1), (1, 1), (2, 1)] : List (Nat × Nat))[i]?) (Value.cells (.agg #[.slice none 0 0, .int .i64 0, .int .i64 0])) vs.toList = some r) : (Instr.build 49 vs).run Try.prog w = .ok (.agg r) w := by
  have h2 := h
  simp only [Value.cells] at h2
  unfold Instr.build
  simp only [Sem.run_bind, zero_spec_l1Cur, Result.andThen_ok]
  go_simp
theorem sz_string : Sz 9 1 := Sz.of (by kernel_rfl)
theorem agg_string (w : World) : (isAgg 9).run Try.prog w = .ok false w := by go_simp <;> rfl
theorem zero_string (w : World) : (zeroValue 9).run Try.prog w = .ok (.string ByteArray.empty) w := by go_simp <;> rfl
theorem sz_uint8 : Sz 5 1 := Sz.of (by kernel_rfl)
theorem agg_uint8 (w : World) : (isAgg 5).run Try.prog w = .ok false w := by go_simp <;> rfl
theorem zero_uint8 (w : World) : (zeroValue 5).run Try.prog w = .ok (.int .u8 0) w := by go_simp <;> rfl
theorem sz_s_int : Sz 45 1 := Sz.of (by kernel_rfl)
theorem agg_s_int (w : World) : (isAgg 45).run Try.prog w = .ok false w := by go_simp <;> rfl
theorem zero_s_int (w : World) : (zeroValue 45).run Try.prog w = .ok (.slice none 0 0) w := by go_simp <;> rfl
theorem sz_s_uint8 : Sz 22 1 := Sz.of (by kernel_rfl)
theorem agg_s_uint8 (w : World) : (isAgg 22).run Try.prog w = .ok false w := by go_simp <;> rfl
theorem zero_s_uint8 (w : World) : (zeroValue 22).run Try.prog w = .ok (.slice none 0 0) w := by go_simp <;> rfl
theorem elt_int : ElT 45 3 1 (.int .i64 0) 8 := ⟨Try.underlying45, by kernel_rfl, rfl, by decide, by decide, by decide⟩
theorem elt_uint8 : ElT 22 5 1 (.int .u8 0) 1 := ⟨Try.underlying22, by kernel_rfl, rfl, by decide, by decide, by decide⟩
end Go.Proofs.Ytjdjceohlcimaaa.V
