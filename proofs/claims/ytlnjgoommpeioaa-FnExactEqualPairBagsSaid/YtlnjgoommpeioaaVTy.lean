/- What the programs' types are to the model: sizes, zeros, fields, elements; no function of program or reference. -/
import Derived.Test.YtlnjgoommpeioaaVG
namespace Go.Proofs.Ytlnjgoommpeioaa.V
open Go Go.RowKit
set_option linter.unusedVariables false
set_option maxRecDepth 10000
theorem sz_bool : Sz 4 1 := Sz.of (by kernel_rfl)
theorem agg_bool (w : World) : (isAgg 4).run Try.prog w = .ok false w := by go_simp <;> rfl
theorem zero_bool (w : World) : (zeroValue 4).run Try.prog w = .ok (.bool false) w := by go_simp <;> rfl
theorem sz_impl_Pair : Sz 32 7 := Sz.of (by kernel_rfl)
theorem agg_impl_Pair (w : World) : (isAgg 32).run Try.prog w = .ok true w := by go_simp <;> rfl
theorem zero_impl_Pair (w : World) : (zeroValue 32).run Try.prog w = .ok (.agg #[.int .i64 0, .int .i64 0, .int .i64 0, .int .i64 0, .int .i64 0, .int .i64 0, .bool false]) w := by go_simp <;> rfl
theorem fld_impl_Pair_0 (ad : Addr) (w : World) (h : ad.spot = none) : (Instr.fieldAt 32 (.pointer (some ad)) 0).run Try.prog w = .ok (.pointer (some ⟨ad.block, ad.off + 0, none⟩)) w := by
  obtain ⟨b, o, s⟩ := ad
  subst h
  go_simp
theorem fld_impl_Pair_1 (ad : Addr) (w : World) (h : ad.spot = none) : (Instr.fieldAt 32 (.pointer (some ad)) 1).run Try.prog w = .ok (.pointer (some ⟨ad.block, ad.off + 3, none⟩)) w := by
  obtain ⟨b, o, s⟩ := ad
  subst h
  go_simp
theorem fld_impl_Pair_2 (ad : Addr) (w : World) (h : ad.spot = none) : (Instr.fieldAt 32 (.pointer (some ad)) 2).run Try.prog w = .ok (.pointer (some ⟨ad.block, ad.off + 6, none⟩)) w := by
  obtain ⟨b, o, s⟩ := ad
  subst h
  go_simp
theorem bld_impl_Pair (vs : Array (Nat × Value)) (r : Array Value) (w : World) (h : Instr.fill (fun i => ([(0, 3), (3, 3), (6, 1)] : List (Nat × Nat))[i]?) (Value.cells (.agg #[.int .i64 0, .int .i64 0, .int .i64 0, .int .i64 0, .int .i64 0, .int .i64 0, .bool false])) vs.toList = some r) : (Instr.build 32 vs).run Try.prog w = .ok (.agg r) w := by
  have h2 := h
  simp only [Value.cells] at h2
  unfold Instr.build
  simp only [Sem.run_bind, zero_impl_Pair, Result.andThen_ok]
  go_simp
theorem sz_impl_Row : Sz 30 3 := Sz.of (by kernel_rfl)
theorem agg_impl_Row (w : World) : (isAgg 30).run Try.prog w = .ok true w := by go_simp <;> rfl
theorem zero_impl_Row (w : World) : (zeroValue 30).run Try.prog w = .ok (.agg #[.int .i64 0, .int .i64 0, .int .i64 0]) w := by go_simp <;> rfl
theorem fld_impl_Row_0 (ad : Addr) (w : World) (h : ad.spot = none) : (Instr.fieldAt 30 (.pointer (some ad)) 0).run Try.prog w = .ok (.pointer (some ⟨ad.block, ad.off + 0, none⟩)) w := by
  obtain ⟨b, o, s⟩ := ad
  subst h
  go_simp
theorem fld_impl_Row_1 (ad : Addr) (w : World) (h : ad.spot = none) : (Instr.fieldAt 30 (.pointer (some ad)) 1).run Try.prog w = .ok (.pointer (some ⟨ad.block, ad.off + 1, none⟩)) w := by
  obtain ⟨b, o, s⟩ := ad
  subst h
  go_simp
theorem fld_impl_Row_2 (ad : Addr) (w : World) (h : ad.spot = none) : (Instr.fieldAt 30 (.pointer (some ad)) 2).run Try.prog w = .ok (.pointer (some ⟨ad.block, ad.off + 2, none⟩)) w := by
  obtain ⟨b, o, s⟩ := ad
  subst h
  go_simp
theorem bld_impl_Row (vs : Array (Nat × Value)) (r : Array Value) (w : World) (h : Instr.fill (fun i => ([(0, 1), (1, 1), (2, 1)] : List (Nat × Nat))[i]?) (Value.cells (.agg #[.int .i64 0, .int .i64 0, .int .i64 0])) vs.toList = some r) : (Instr.build 30 vs).run Try.prog w = .ok (.agg r) w := by
  have h2 := h
  simp only [Value.cells] at h2
  unfold Instr.build
  simp only [Sem.run_bind, zero_impl_Row, Result.andThen_ok]
  go_simp
theorem sz_int : Sz 3 1 := Sz.of (by kernel_rfl)
theorem agg_int (w : World) : (isAgg 3).run Try.prog w = .ok false w := by go_simp <;> rfl
theorem zero_int (w : World) : (zeroValue 3).run Try.prog w = .ok (.int .i64 0) w := by go_simp <;> rfl
theorem sz_int64 : Sz 2 1 := Sz.of (by kernel_rfl)
theorem agg_int64 (w : World) : (isAgg 2).run Try.prog w = .ok false w := by go_simp <;> rfl
theorem zero_int64 (w : World) : (zeroValue 2).run Try.prog w = .ok (.int .i64 0) w := by go_simp <;> rfl
theorem sz_laws_Pair : Sz 44 7 := Sz.of (by kernel_rfl)
theorem agg_laws_Pair (w : World) : (isAgg 44).run Try.prog w = .ok true w := by go_simp <;> rfl
theorem zero_laws_Pair (w : World) : (zeroValue 44).run Try.prog w = .ok (.agg #[.int .i64 0, .int .i64 0, .int .i64 0, .int .i64 0, .int .i64 0, .int .i64 0, .bool false]) w := by go_simp <;> rfl
theorem fld_laws_Pair_0 (ad : Addr) (w : World) (h : ad.spot = none) : (Instr.fieldAt 44 (.pointer (some ad)) 0).run Try.prog w = .ok (.pointer (some ⟨ad.block, ad.off + 0, none⟩)) w := by
  obtain ⟨b, o, s⟩ := ad
  subst h
  go_simp
theorem fld_laws_Pair_1 (ad : Addr) (w : World) (h : ad.spot = none) : (Instr.fieldAt 44 (.pointer (some ad)) 1).run Try.prog w = .ok (.pointer (some ⟨ad.block, ad.off + 3, none⟩)) w := by
  obtain ⟨b, o, s⟩ := ad
  subst h
  go_simp
theorem fld_laws_Pair_2 (ad : Addr) (w : World) (h : ad.spot = none) : (Instr.fieldAt 44 (.pointer (some ad)) 2).run Try.prog w = .ok (.pointer (some ⟨ad.block, ad.off + 6, none⟩)) w := by
  obtain ⟨b, o, s⟩ := ad
  subst h
  go_simp
theorem bld_laws_Pair (vs : Array (Nat × Value)) (r : Array Value) (w : World) (h : Instr.fill (fun i => ([(0, 3), (3, 3), (6, 1)] : List (Nat × Nat))[i]?) (Value.cells (.agg #[.int .i64 0, .int .i64 0, .int .i64 0, .int .i64 0, .int .i64 0, .int .i64 0, .bool false])) vs.toList = some r) : (Instr.build 44 vs).run Try.prog w = .ok (.agg r) w := by
  have h2 := h
  simp only [Value.cells] at h2
  unfold Instr.build
  simp only [Sem.run_bind, zero_laws_Pair, Result.andThen_ok]
  go_simp
theorem sz_laws_Row : Sz 42 3 := Sz.of (by kernel_rfl)
theorem agg_laws_Row (w : World) : (isAgg 42).run Try.prog w = .ok true w := by go_simp <;> rfl
theorem zero_laws_Row (w : World) : (zeroValue 42).run Try.prog w = .ok (.agg #[.int .i64 0, .int .i64 0, .int .i64 0]) w := by go_simp <;> rfl
theorem fld_laws_Row_0 (ad : Addr) (w : World) (h : ad.spot = none) : (Instr.fieldAt 42 (.pointer (some ad)) 0).run Try.prog w = .ok (.pointer (some ⟨ad.block, ad.off + 0, none⟩)) w := by
  obtain ⟨b, o, s⟩ := ad
  subst h
  go_simp
theorem fld_laws_Row_1 (ad : Addr) (w : World) (h : ad.spot = none) : (Instr.fieldAt 42 (.pointer (some ad)) 1).run Try.prog w = .ok (.pointer (some ⟨ad.block, ad.off + 1, none⟩)) w := by
  obtain ⟨b, o, s⟩ := ad
  subst h
  go_simp
theorem fld_laws_Row_2 (ad : Addr) (w : World) (h : ad.spot = none) : (Instr.fieldAt 42 (.pointer (some ad)) 2).run Try.prog w = .ok (.pointer (some ⟨ad.block, ad.off + 2, none⟩)) w := by
  obtain ⟨b, o, s⟩ := ad
  subst h
  go_simp
theorem bld_laws_Row (vs : Array (Nat × Value)) (r : Array Value) (w : World) (h : Instr.fill (fun i => ([(0, 1), (1, 1), (2, 1)] : List (Nat × Nat))[i]?) (Value.cells (.agg #[.int .i64 0, .int .i64 0, .int .i64 0])) vs.toList = some r) : (Instr.build 42 vs).run Try.prog w = .ok (.agg r) w := by
  have h2 := h
  simp only [Value.cells] at h2
  unfold Instr.build
  simp only [Sem.run_bind, zero_laws_Row, Result.andThen_ok]
  go_simp
theorem sz_spec_l1Cur : Sz 69 3 := Sz.of (by kernel_rfl)
theorem agg_spec_l1Cur (w : World) : (isAgg 69).run Try.prog w = .ok true w := by go_simp <;> rfl
theorem zero_spec_l1Cur (w : World) : (zeroValue 69).run Try.prog w = .ok (.agg #[.slice none 0 0, .int .i64 0, .int .i64 0]) w := by go_simp <;> rfl
theorem fld_spec_l1Cur_0 (ad : Addr) (w : World) (h : ad.spot = none) : (Instr.fieldAt 69 (.pointer (some ad)) 0).run Try.prog w = .ok (.pointer (some ⟨ad.block, ad.off + 0, none⟩)) w := by
  obtain ⟨b, o, s⟩ := ad
  subst h
  go_simp
theorem fld_spec_l1Cur_1 (ad : Addr) (w : World) (h : ad.spot = none) : (Instr.fieldAt 69 (.pointer (some ad)) 1).run Try.prog w = .ok (.pointer (some ⟨ad.block, ad.off + 1, none⟩)) w := by
  obtain ⟨b, o, s⟩ := ad
  subst h
  go_simp
theorem fld_spec_l1Cur_2 (ad : Addr) (w : World) (h : ad.spot = none) : (Instr.fieldAt 69 (.pointer (some ad)) 2).run Try.prog w = .ok (.pointer (some ⟨ad.block, ad.off + 2, none⟩)) w := by
  obtain ⟨b, o, s⟩ := ad
  subst h
  go_simp
theorem bld_spec_l1Cur (vs : Array (Nat × Value)) (r : Array Value) (w : World) (h : Instr.fill (fun i => ([(0, 1), (1, 1), (2, 1)] : List (Nat × Nat))[i]?) (Value.cells (.agg #[.slice none 0 0, .int .i64 0, .int .i64 0])) vs.toList = some r) : (Instr.build 69 vs).run Try.prog w = .ok (.agg r) w := by
  have h2 := h
  simp only [Value.cells] at h2
  unfold Instr.build
  simp only [Sem.run_bind, zero_spec_l1Cur, Result.andThen_ok]
  go_simp
theorem sz_string : Sz 9 1 := Sz.of (by kernel_rfl)
theorem agg_string (w : World) : (isAgg 9).run Try.prog w = .ok false w := by go_simp <;> rfl
theorem zero_string (w : World) : (zeroValue 9).run Try.prog w = .ok (.string ByteArray.empty) w := by go_simp <;> rfl
theorem sz_uint8 : Sz 5 1 := Sz.of (by kernel_rfl)
theorem agg_uint8 (w : World) : (isAgg 5).run Try.prog w = .ok false w := by go_simp <;> rfl
theorem zero_uint8 (w : World) : (zeroValue 5).run Try.prog w = .ok (.int .u8 0) w := by go_simp <;> rfl
theorem sz_s_impl_Pair : Sz 27 1 := Sz.of (by kernel_rfl)
theorem agg_s_impl_Pair (w : World) : (isAgg 27).run Try.prog w = .ok false w := by go_simp <;> rfl
theorem zero_s_impl_Pair (w : World) : (zeroValue 27).run Try.prog w = .ok (.slice none 0 0) w := by go_simp <;> rfl
theorem sz_s_impl_Row : Sz 24 1 := Sz.of (by kernel_rfl)
theorem agg_s_impl_Row (w : World) : (isAgg 24).run Try.prog w = .ok false w := by go_simp <;> rfl
theorem zero_s_impl_Row (w : World) : (zeroValue 24).run Try.prog w = .ok (.slice none 0 0) w := by go_simp <;> rfl
theorem sz_s_int : Sz 72 1 := Sz.of (by kernel_rfl)
theorem agg_s_int (w : World) : (isAgg 72).run Try.prog w = .ok false w := by go_simp <;> rfl
theorem zero_s_int (w : World) : (zeroValue 72).run Try.prog w = .ok (.slice none 0 0) w := by go_simp <;> rfl
theorem sz_s_laws_Pair : Sz 48 1 := Sz.of (by kernel_rfl)
theorem agg_s_laws_Pair (w : World) : (isAgg 48).run Try.prog w = .ok false w := by go_simp <;> rfl
theorem zero_s_laws_Pair (w : World) : (zeroValue 48).run Try.prog w = .ok (.slice none 0 0) w := by go_simp <;> rfl
theorem sz_s_laws_Row : Sz 35 1 := Sz.of (by kernel_rfl)
theorem agg_s_laws_Row (w : World) : (isAgg 35).run Try.prog w = .ok false w := by go_simp <;> rfl
theorem zero_s_laws_Row (w : World) : (zeroValue 35).run Try.prog w = .ok (.slice none 0 0) w := by go_simp <;> rfl
theorem sz_s_uint8 : Sz 22 1 := Sz.of (by kernel_rfl)
theorem agg_s_uint8 (w : World) : (isAgg 22).run Try.prog w = .ok false w := by go_simp <;> rfl
theorem zero_s_uint8 (w : World) : (zeroValue 22).run Try.prog w = .ok (.slice none 0 0) w := by go_simp <;> rfl
theorem elt_impl_Pair : ElT 27 32 7 (.agg #[.int .i64 0, .int .i64 0, .int .i64 0, .int .i64 0, .int .i64 0, .int .i64 0, .bool false]) 56 := ⟨Try.underlying27, by kernel_rfl, rfl, by decide, by decide, by decide⟩
theorem elt_impl_Row : ElT 24 30 3 (.agg #[.int .i64 0, .int .i64 0, .int .i64 0]) 24 := ⟨Try.underlying24, by kernel_rfl, rfl, by decide, by decide, by decide⟩
theorem elt_int : ElT 72 3 1 (.int .i64 0) 8 := ⟨Try.underlying72, by kernel_rfl, rfl, by decide, by decide, by decide⟩
theorem elt_laws_Pair : ElT 48 44 7 (.agg #[.int .i64 0, .int .i64 0, .int .i64 0, .int .i64 0, .int .i64 0, .int .i64 0, .bool false]) 56 := ⟨Try.underlying48, by kernel_rfl, rfl, by decide, by decide, by decide⟩
theorem elt_laws_Row : ElT 35 42 3 (.agg #[.int .i64 0, .int .i64 0, .int .i64 0]) 24 := ⟨Try.underlying35, by kernel_rfl, rfl, by decide, by decide, by decide⟩
theorem elt_uint8 : ElT 22 5 1 (.int .u8 0) 1 := ⟨Try.underlying22, by kernel_rfl, rfl, by decide, by decide, by decide⟩
end Go.Proofs.Ytlnjgoommpeioaa.V
