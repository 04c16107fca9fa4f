/- What the programs' types are to the model: sizes, zeros, fields, elements; no function of program or reference. -/
import Derived.Test.YtmlcdhblofjpbaaDoorVG
namespace Go.Proofs.YtmlcdhblofjpbaaDoor.V
open Go Go.RowKit
set_option linter.unusedVariables false
set_option maxRecDepth 10000
theorem sz_bool : Sz 4 1 := Sz.of (by kernel_rfl)
theorem agg_bool (w : World) : (isAgg 4).run Tryd.prog w = .ok false w := by go_simp <;> rfl
theorem zero_bool (w : World) : (zeroValue 4).run Tryd.prog w = .ok (.bool false) w := by go_simp <;> rfl
theorem sz_impl_Disk : Sz 55 2 := Sz.of (by kernel_rfl)
theorem agg_impl_Disk (w : World) : (isAgg 55).run Tryd.prog w = .ok true w := by go_simp <;> rfl
theorem zero_impl_Disk (w : World) : (zeroValue 55).run Tryd.prog w = .ok (.agg #[.slice none 0 0, .int .i64 0]) w := by go_simp <;> rfl
theorem fld_impl_Disk_0 (ad : Addr) (w : World) (h : ad.spot = none) : (Instr.fieldAt 55 (.pointer (some ad)) 0).run Tryd.prog w = .ok (.pointer (some ⟨ad.block, ad.off + 0, none⟩)) w := by
  obtain ⟨b, o, s⟩ := ad
  subst h
  go_simp
theorem fld_impl_Disk_1 (ad : Addr) (w : World) (h : ad.spot = none) : (Instr.fieldAt 55 (.pointer (some ad)) 1).run Tryd.prog w = .ok (.pointer (some ⟨ad.block, ad.off + 1, none⟩)) w := by
  obtain ⟨b, o, s⟩ := ad
  subst h
  go_simp
theorem bld_impl_Disk (vs : Array (Nat × Value)) (r : Array Value) (w : World) (h : Instr.fill (fun i => ([(0, 1), (1, 1)] : List (Nat × Nat))[i]?) (Value.cells (.agg #[.slice none 0 0, .int .i64 0])) vs.toList = some r) : (Instr.build 55 vs).run Tryd.prog w = .ok (.agg r) w := by
  have h2 := h
  simp only [Value.cells] at h2
  unfold Instr.build
  simp only [Sem.run_bind, zero_impl_Disk, Result.andThen_ok]
  go_simp
theorem sz_impl_File : Sz 102 4 := Sz.of (by kernel_rfl)
theorem agg_impl_File (w : World) : (isAgg 102).run Tryd.prog w = .ok true w := by go_simp <;> rfl
theorem zero_impl_File (w : World) : (zeroValue 102).run Tryd.prog w = .ok (.agg #[.int .i64 0, .slice none 0 0, .int .i64 0, .bool false]) w := by go_simp <;> rfl
theorem fld_impl_File_0 (ad : Addr) (w : World) (h : ad.spot = none) : (Instr.fieldAt 102 (.pointer (some ad)) 0).run Tryd.prog w = .ok (.pointer (some ⟨ad.block, ad.off + 0, none⟩)) w := by
  obtain ⟨b, o, s⟩ := ad
  subst h
  go_simp
theorem fld_impl_File_1 (ad : Addr) (w : World) (h : ad.spot = none) : (Instr.fieldAt 102 (.pointer (some ad)) 1).run Tryd.prog w = .ok (.pointer (some ⟨ad.block, ad.off + 1, none⟩)) w := by
  obtain ⟨b, o, s⟩ := ad
  subst h
  go_simp
theorem fld_impl_File_2 (ad : Addr) (w : World) (h : ad.spot = none) : (Instr.fieldAt 102 (.pointer (some ad)) 2).run Tryd.prog w = .ok (.pointer (some ⟨ad.block, ad.off + 2, none⟩)) w := by
  obtain ⟨b, o, s⟩ := ad
  subst h
  go_simp
theorem fld_impl_File_3 (ad : Addr) (w : World) (h : ad.spot = none) : (Instr.fieldAt 102 (.pointer (some ad)) 3).run Tryd.prog w = .ok (.pointer (some ⟨ad.block, ad.off + 3, none⟩)) w := by
  obtain ⟨b, o, s⟩ := ad
  subst h
  go_simp
theorem bld_impl_File (vs : Array (Nat × Value)) (r : Array Value) (w : World) (h : Instr.fill (fun i => ([(0, 1), (1, 1), (2, 1), (3, 1)] : List (Nat × Nat))[i]?) (Value.cells (.agg #[.int .i64 0, .slice none 0 0, .int .i64 0, .bool false])) vs.toList = some r) : (Instr.build 102 vs).run Tryd.prog w = .ok (.agg r) w := by
  have h2 := h
  simp only [Value.cells] at h2
  unfold Instr.build
  simp only [Sem.run_bind, zero_impl_File, Result.andThen_ok]
  go_simp
theorem sz_impl_Group : Sz 33 5 := Sz.of (by kernel_rfl)
theorem agg_impl_Group (w : World) : (isAgg 33).run Tryd.prog w = .ok true w := by go_simp <;> rfl
theorem zero_impl_Group (w : World) : (zeroValue 33).run Tryd.prog w = .ok (.agg #[.int .i64 0, .int .i64 0, .int .i64 0, .int .i64 0, .int .i64 0]) w := by go_simp <;> rfl
theorem fld_impl_Group_0 (ad : Addr) (w : World) (h : ad.spot = none) : (Instr.fieldAt 33 (.pointer (some ad)) 0).run Tryd.prog w = .ok (.pointer (some ⟨ad.block, ad.off + 0, none⟩)) w := by
  obtain ⟨b, o, s⟩ := ad
  subst h
  go_simp
theorem fld_impl_Group_1 (ad : Addr) (w : World) (h : ad.spot = none) : (Instr.fieldAt 33 (.pointer (some ad)) 1).run Tryd.prog w = .ok (.pointer (some ⟨ad.block, ad.off + 1, none⟩)) w := by
  obtain ⟨b, o, s⟩ := ad
  subst h
  go_simp
theorem fld_impl_Group_2 (ad : Addr) (w : World) (h : ad.spot = none) : (Instr.fieldAt 33 (.pointer (some ad)) 2).run Tryd.prog w = .ok (.pointer (some ⟨ad.block, ad.off + 2, none⟩)) w := by
  obtain ⟨b, o, s⟩ := ad
  subst h
  go_simp
theorem fld_impl_Group_3 (ad : Addr) (w : World) (h : ad.spot = none) : (Instr.fieldAt 33 (.pointer (some ad)) 3).run Tryd.prog w = .ok (.pointer (some ⟨ad.block, ad.off + 3, none⟩)) w := by
  obtain ⟨b, o, s⟩ := ad
  subst h
  go_simp
theorem fld_impl_Group_4 (ad : Addr) (w : World) (h : ad.spot = none) : (Instr.fieldAt 33 (.pointer (some ad)) 4).run Tryd.prog w = .ok (.pointer (some ⟨ad.block, ad.off + 4, none⟩)) w := by
  obtain ⟨b, o, s⟩ := ad
  subst h
  go_simp
theorem bld_impl_Group (vs : Array (Nat × Value)) (r : Array Value) (w : World) (h : Instr.fill (fun i => ([(0, 1), (1, 1), (2, 1), (3, 1), (4, 1)] : List (Nat × Nat))[i]?) (Value.cells (.agg #[.int .i64 0, .int .i64 0, .int .i64 0, .int .i64 0, .int .i64 0])) vs.toList = some r) : (Instr.build 33 vs).run Tryd.prog w = .ok (.agg r) w := by
  have h2 := h
  simp only [Value.cells] at h2
  unfold Instr.build
  simp only [Sem.run_bind, zero_impl_Group, Result.andThen_ok]
  go_simp
theorem sz_impl_Page : Sz 72 1 := Sz.of (by kernel_rfl)
theorem agg_impl_Page (w : World) : (isAgg 72).run Tryd.prog w = .ok true w := by go_simp <;> rfl
theorem zero_impl_Page (w : World) : (zeroValue 72).run Tryd.prog w = .ok (.agg #[.slice none 0 0]) w := by go_simp <;> rfl
theorem fld_impl_Page_0 (ad : Addr) (w : World) (h : ad.spot = none) : (Instr.fieldAt 72 (.pointer (some ad)) 0).run Tryd.prog w = .ok (.pointer (some ⟨ad.block, ad.off + 0, none⟩)) w := by
  obtain ⟨b, o, s⟩ := ad
  subst h
  go_simp
theorem bld_impl_Page (vs : Array (Nat × Value)) (r : Array Value) (w : World) (h : Instr.fill (fun i => ([(0, 1)] : List (Nat × Nat))[i]?) (Value.cells (.agg #[.slice none 0 0])) vs.toList = some r) : (Instr.build 72 vs).run Tryd.prog w = .ok (.agg r) w := by
  have h2 := h
  simp only [Value.cells] at h2
  unfold Instr.build
  simp only [Sem.run_bind, zero_impl_Page, Result.andThen_ok]
  go_simp
theorem sz_impl_Row : Sz 41 3 := Sz.of (by kernel_rfl)
theorem agg_impl_Row (w : World) : (isAgg 41).run Tryd.prog w = .ok true w := by go_simp <;> rfl
theorem zero_impl_Row (w : World) : (zeroValue 41).run Tryd.prog w = .ok (.agg #[.int .i64 0, .int .i64 0, .int .i64 0]) w := by go_simp <;> rfl
theorem fld_impl_Row_0 (ad : Addr) (w : World) (h : ad.spot = none) : (Instr.fieldAt 41 (.pointer (some ad)) 0).run Tryd.prog w = .ok (.pointer (some ⟨ad.block, ad.off + 0, none⟩)) w := by
  obtain ⟨b, o, s⟩ := ad
  subst h
  go_simp
theorem fld_impl_Row_1 (ad : Addr) (w : World) (h : ad.spot = none) : (Instr.fieldAt 41 (.pointer (some ad)) 1).run Tryd.prog w = .ok (.pointer (some ⟨ad.block, ad.off + 1, none⟩)) w := by
  obtain ⟨b, o, s⟩ := ad
  subst h
  go_simp
theorem fld_impl_Row_2 (ad : Addr) (w : World) (h : ad.spot = none) : (Instr.fieldAt 41 (.pointer (some ad)) 2).run Tryd.prog w = .ok (.pointer (some ⟨ad.block, ad.off + 2, none⟩)) w := by
  obtain ⟨b, o, s⟩ := ad
  subst h
  go_simp
theorem bld_impl_Row (vs : Array (Nat × Value)) (r : Array Value) (w : World) (h : Instr.fill (fun i => ([(0, 1), (1, 1), (2, 1)] : List (Nat × Nat))[i]?) (Value.cells (.agg #[.int .i64 0, .int .i64 0, .int .i64 0])) vs.toList = some r) : (Instr.build 41 vs).run Tryd.prog w = .ok (.agg r) w := by
  have h2 := h
  simp only [Value.cells] at h2
  unfold Instr.build
  simp only [Sem.run_bind, zero_impl_Row, Result.andThen_ok]
  go_simp
theorem sz_int : Sz 3 1 := Sz.of (by kernel_rfl)
theorem agg_int (w : World) : (isAgg 3).run Tryd.prog w = .ok false w := by go_simp <;> rfl
theorem zero_int (w : World) : (zeroValue 3).run Tryd.prog w = .ok (.int .i64 0) w := by go_simp <;> rfl
theorem sz_int64 : Sz 2 1 := Sz.of (by kernel_rfl)
theorem agg_int64 (w : World) : (isAgg 2).run Tryd.prog w = .ok false w := by go_simp <;> rfl
theorem zero_int64 (w : World) : (zeroValue 2).run Tryd.prog w = .ok (.int .i64 0) w := by go_simp <;> rfl
theorem sz_laws_Disk : Sz 51 2 := Sz.of (by kernel_rfl)
theorem agg_laws_Disk (w : World) : (isAgg 51).run Tryd.prog w = .ok true w := by go_simp <;> rfl
theorem zero_laws_Disk (w : World) : (zeroValue 51).run Tryd.prog w = .ok (.agg #[.slice none 0 0, .int .i64 0]) w := by go_simp <;> rfl
theorem fld_laws_Disk_0 (ad : Addr) (w : World) (h : ad.spot = none) : (Instr.fieldAt 51 (.pointer (some ad)) 0).run Tryd.prog w = .ok (.pointer (some ⟨ad.block, ad.off + 0, none⟩)) w := by
  obtain ⟨b, o, s⟩ := ad
  subst h
  go_simp
theorem fld_laws_Disk_1 (ad : Addr) (w : World) (h : ad.spot = none) : (Instr.fieldAt 51 (.pointer (some ad)) 1).run Tryd.prog w = .ok (.pointer (some ⟨ad.block, ad.off + 1, none⟩)) w := by
  obtain ⟨b, o, s⟩ := ad
  subst h
  go_simp
theorem bld_laws_Disk (vs : Array (Nat × Value)) (r : Array Value) (w : World) (h : Instr.fill (fun i => ([(0, 1), (1, 1)] : List (Nat × Nat))[i]?) (Value.cells (.agg #[.slice none 0 0, .int .i64 0])) vs.toList = some r) : (Instr.build 51 vs).run Tryd.prog w = .ok (.agg r) w := by
  have h2 := h
  simp only [Value.cells] at h2
  unfold Instr.build
  simp only [Sem.run_bind, zero_laws_Disk, Result.andThen_ok]
  go_simp
theorem sz_laws_File : Sz 141 4 := Sz.of (by kernel_rfl)
theorem agg_laws_File (w : World) : (isAgg 141).run Tryd.prog w = .ok true w := by go_simp <;> rfl
theorem zero_laws_File (w : World) : (zeroValue 141).run Tryd.prog w = .ok (.agg #[.int .i64 0, .slice none 0 0, .int .i64 0, .bool false]) w := by go_simp <;> rfl
theorem fld_laws_File_0 (ad : Addr) (w : World) (h : ad.spot = none) : (Instr.fieldAt 141 (.pointer (some ad)) 0).run Tryd.prog w = .ok (.pointer (some ⟨ad.block, ad.off + 0, none⟩)) w := by
  obtain ⟨b, o, s⟩ := ad
  subst h
  go_simp
theorem fld_laws_File_1 (ad : Addr) (w : World) (h : ad.spot = none) : (Instr.fieldAt 141 (.pointer (some ad)) 1).run Tryd.prog w = .ok (.pointer (some ⟨ad.block, ad.off + 1, none⟩)) w := by
  obtain ⟨b, o, s⟩ := ad
  subst h
  go_simp
theorem fld_laws_File_2 (ad : Addr) (w : World) (h : ad.spot = none) : (Instr.fieldAt 141 (.pointer (some ad)) 2).run Tryd.prog w = .ok (.pointer (some ⟨ad.block, ad.off + 2, none⟩)) w := by
  obtain ⟨b, o, s⟩ := ad
  subst h
  go_simp
theorem fld_laws_File_3 (ad : Addr) (w : World) (h : ad.spot = none) : (Instr.fieldAt 141 (.pointer (some ad)) 3).run Tryd.prog w = .ok (.pointer (some ⟨ad.block, ad.off + 3, none⟩)) w := by
  obtain ⟨b, o, s⟩ := ad
  subst h
  go_simp
theorem bld_laws_File (vs : Array (Nat × Value)) (r : Array Value) (w : World) (h : Instr.fill (fun i => ([(0, 1), (1, 1), (2, 1), (3, 1)] : List (Nat × Nat))[i]?) (Value.cells (.agg #[.int .i64 0, .slice none 0 0, .int .i64 0, .bool false])) vs.toList = some r) : (Instr.build 141 vs).run Tryd.prog w = .ok (.agg r) w := by
  have h2 := h
  simp only [Value.cells] at h2
  unfold Instr.build
  simp only [Sem.run_bind, zero_laws_File, Result.andThen_ok]
  go_simp
theorem sz_laws_Group : Sz 98 5 := Sz.of (by kernel_rfl)
theorem agg_laws_Group (w : World) : (isAgg 98).run Tryd.prog w = .ok true w := by go_simp <;> rfl
theorem zero_laws_Group (w : World) : (zeroValue 98).run Tryd.prog w = .ok (.agg #[.int .i64 0, .int .i64 0, .int .i64 0, .int .i64 0, .int .i64 0]) w := by go_simp <;> rfl
theorem fld_laws_Group_0 (ad : Addr) (w : World) (h : ad.spot = none) : (Instr.fieldAt 98 (.pointer (some ad)) 0).run Tryd.prog w = .ok (.pointer (some ⟨ad.block, ad.off + 0, none⟩)) w := by
  obtain ⟨b, o, s⟩ := ad
  subst h
  go_simp
theorem fld_laws_Group_1 (ad : Addr) (w : World) (h : ad.spot = none) : (Instr.fieldAt 98 (.pointer (some ad)) 1).run Tryd.prog w = .ok (.pointer (some ⟨ad.block, ad.off + 1, none⟩)) w := by
  obtain ⟨b, o, s⟩ := ad
  subst h
  go_simp
theorem fld_laws_Group_2 (ad : Addr) (w : World) (h : ad.spot = none) : (Instr.fieldAt 98 (.pointer (some ad)) 2).run Tryd.prog w = .ok (.pointer (some ⟨ad.block, ad.off + 2, none⟩)) w := by
  obtain ⟨b, o, s⟩ := ad
  subst h
  go_simp
theorem fld_laws_Group_3 (ad : Addr) (w : World) (h : ad.spot = none) : (Instr.fieldAt 98 (.pointer (some ad)) 3).run Tryd.prog w = .ok (.pointer (some ⟨ad.block, ad.off + 3, none⟩)) w := by
  obtain ⟨b, o, s⟩ := ad
  subst h
  go_simp
theorem fld_laws_Group_4 (ad : Addr) (w : World) (h : ad.spot = none) : (Instr.fieldAt 98 (.pointer (some ad)) 4).run Tryd.prog w = .ok (.pointer (some ⟨ad.block, ad.off + 4, none⟩)) w := by
  obtain ⟨b, o, s⟩ := ad
  subst h
  go_simp
theorem bld_laws_Group (vs : Array (Nat × Value)) (r : Array Value) (w : World) (h : Instr.fill (fun i => ([(0, 1), (1, 1), (2, 1), (3, 1), (4, 1)] : List (Nat × Nat))[i]?) (Value.cells (.agg #[.int .i64 0, .int .i64 0, .int .i64 0, .int .i64 0, .int .i64 0])) vs.toList = some r) : (Instr.build 98 vs).run Tryd.prog w = .ok (.agg r) w := by
  have h2 := h
  simp only [Value.cells] at h2
  unfold Instr.build
  simp only [Sem.run_bind, zero_laws_Group, Result.andThen_ok]
  go_simp
theorem sz_laws_Page : Sz 181 1 := Sz.of (by kernel_rfl)
theorem agg_laws_Page (w : World) : (isAgg 181).run Tryd.prog w = .ok true w := by go_simp <;> rfl
theorem zero_laws_Page (w : World) : (zeroValue 181).run Tryd.prog w = .ok (.agg #[.slice none 0 0]) w := by go_simp <;> rfl
theorem fld_laws_Page_0 (ad : Addr) (w : World) (h : ad.spot = none) : (Instr.fieldAt 181 (.pointer (some ad)) 0).run Tryd.prog w = .ok (.pointer (some ⟨ad.block, ad.off + 0, none⟩)) w := by
  obtain ⟨b, o, s⟩ := ad
  subst h
  go_simp
theorem bld_laws_Page (vs : Array (Nat × Value)) (r : Array Value) (w : World) (h : Instr.fill (fun i => ([(0, 1)] : List (Nat × Nat))[i]?) (Value.cells (.agg #[.slice none 0 0])) vs.toList = some r) : (Instr.build 181 vs).run Tryd.prog w = .ok (.agg r) w := by
  have h2 := h
  simp only [Value.cells] at h2
  unfold Instr.build
  simp only [Sem.run_bind, zero_laws_Page, Result.andThen_ok]
  go_simp
theorem sz_laws_Row : Sz 202 3 := Sz.of (by kernel_rfl)
theorem agg_laws_Row (w : World) : (isAgg 202).run Tryd.prog w = .ok true w := by go_simp <;> rfl
theorem zero_laws_Row (w : World) : (zeroValue 202).run Tryd.prog w = .ok (.agg #[.int .i64 0, .int .i64 0, .int .i64 0]) w := by go_simp <;> rfl
theorem fld_laws_Row_0 (ad : Addr) (w : World) (h : ad.spot = none) : (Instr.fieldAt 202 (.pointer (some ad)) 0).run Tryd.prog w = .ok (.pointer (some ⟨ad.block, ad.off + 0, none⟩)) w := by
  obtain ⟨b, o, s⟩ := ad
  subst h
  go_simp
theorem fld_laws_Row_1 (ad : Addr) (w : World) (h : ad.spot = none) : (Instr.fieldAt 202 (.pointer (some ad)) 1).run Tryd.prog w = .ok (.pointer (some ⟨ad.block, ad.off + 1, none⟩)) w := by
  obtain ⟨b, o, s⟩ := ad
  subst h
  go_simp
theorem fld_laws_Row_2 (ad : Addr) (w : World) (h : ad.spot = none) : (Instr.fieldAt 202 (.pointer (some ad)) 2).run Tryd.prog w = .ok (.pointer (some ⟨ad.block, ad.off + 2, none⟩)) w := by
  obtain ⟨b, o, s⟩ := ad
  subst h
  go_simp
theorem bld_laws_Row (vs : Array (Nat × Value)) (r : Array Value) (w : World) (h : Instr.fill (fun i => ([(0, 1), (1, 1), (2, 1)] : List (Nat × Nat))[i]?) (Value.cells (.agg #[.int .i64 0, .int .i64 0, .int .i64 0])) vs.toList = some r) : (Instr.build 202 vs).run Tryd.prog w = .ok (.agg r) w := by
  have h2 := h
  simp only [Value.cells] at h2
  unfold Instr.build
  simp only [Sem.run_bind, zero_laws_Row, Result.andThen_ok]
  go_simp
theorem sz_spec_l1Cur : Sz 121 3 := Sz.of (by kernel_rfl)
theorem agg_spec_l1Cur (w : World) : (isAgg 121).run Tryd.prog w = .ok true w := by go_simp <;> rfl
theorem zero_spec_l1Cur (w : World) : (zeroValue 121).run Tryd.prog w = .ok (.agg #[.slice none 0 0, .int .i64 0, .int .i64 0]) w := by go_simp <;> rfl
theorem fld_spec_l1Cur_0 (ad : Addr) (w : World) (h : ad.spot = none) : (Instr.fieldAt 121 (.pointer (some ad)) 0).run Tryd.prog w = .ok (.pointer (some ⟨ad.block, ad.off + 0, none⟩)) w := by
  obtain ⟨b, o, s⟩ := ad
  subst h
  go_simp
theorem fld_spec_l1Cur_1 (ad : Addr) (w : World) (h : ad.spot = none) : (Instr.fieldAt 121 (.pointer (some ad)) 1).run Tryd.prog w = .ok (.pointer (some ⟨ad.block, ad.off + 1, none⟩)) w := by
  obtain ⟨b, o, s⟩ := ad
  subst h
  go_simp
theorem fld_spec_l1Cur_2 (ad : Addr) (w : World) (h : ad.spot = none) : (Instr.fieldAt 121 (.pointer (some ad)) 2).run Tryd.prog w = .ok (.pointer (some ⟨ad.block, ad.off + 2, none⟩)) w := by
  obtain ⟨b, o, s⟩ := ad
  subst h
  go_simp
theorem bld_spec_l1Cur (vs : Array (Nat × Value)) (r : Array Value) (w : World) (h : Instr.fill (fun i => ([(0, 1), (1, 1), (2, 1)] : List (Nat × Nat))[i]?) (Value.cells (.agg #[.slice none 0 0, .int .i64 0, .int .i64 0])) vs.toList = some r) : (Instr.build 121 vs).run Tryd.prog w = .ok (.agg r) w := by
  have h2 := h
  simp only [Value.cells] at h2
  unfold Instr.build
  simp only [Sem.run_bind, zero_spec_l1Cur, Result.andThen_ok]
  go_simp
theorem sz_string : Sz 9 1 := Sz.of (by kernel_rfl)
theorem agg_string (w : World) : (isAgg 9).run Tryd.prog w = .ok false w := by go_simp <;> rfl
theorem zero_string (w : World) : (zeroValue 9).run Tryd.prog w = .ok (.string ByteArray.empty) w := by go_simp <;> rfl
theorem sz_uint8 : Sz 5 1 := Sz.of (by kernel_rfl)
theorem agg_uint8 (w : World) : (isAgg 5).run Tryd.prog w = .ok false w := by go_simp <;> rfl
theorem zero_uint8 (w : World) : (zeroValue 5).run Tryd.prog w = .ok (.int .u8 0) w := by go_simp <;> rfl
theorem sz_s_impl_File : Sz 53 1 := Sz.of (by kernel_rfl)
theorem agg_s_impl_File (w : World) : (isAgg 53).run Tryd.prog w = .ok false w := by go_simp <;> rfl
theorem zero_s_impl_File (w : World) : (zeroValue 53).run Tryd.prog w = .ok (.slice none 0 0) w := by go_simp <;> rfl
theorem sz_s_impl_Group : Sz 26 1 := Sz.of (by kernel_rfl)
theorem agg_s_impl_Group (w : World) : (isAgg 26).run Tryd.prog w = .ok false w := by go_simp <;> rfl
theorem zero_s_impl_Group (w : World) : (zeroValue 26).run Tryd.prog w = .ok (.slice none 0 0) w := by go_simp <;> rfl
theorem sz_s_impl_Page : Sz 67 1 := Sz.of (by kernel_rfl)
theorem agg_s_impl_Page (w : World) : (isAgg 67).run Tryd.prog w = .ok false w := by go_simp <;> rfl
theorem zero_s_impl_Page (w : World) : (zeroValue 67).run Tryd.prog w = .ok (.slice none 0 0) w := by go_simp <;> rfl
theorem sz_s_impl_Row : Sz 24 1 := Sz.of (by kernel_rfl)
theorem agg_s_impl_Row (w : World) : (isAgg 24).run Tryd.prog w = .ok false w := by go_simp <;> rfl
theorem zero_s_impl_Row (w : World) : (zeroValue 24).run Tryd.prog w = .ok (.slice none 0 0) w := by go_simp <;> rfl
theorem sz_s_int : Sz 137 1 := Sz.of (by kernel_rfl)
theorem agg_s_int (w : World) : (isAgg 137).run Tryd.prog w = .ok false w := by go_simp <;> rfl
theorem zero_s_int (w : World) : (zeroValue 137).run Tryd.prog w = .ok (.slice none 0 0) w := by go_simp <;> rfl
theorem sz_s_laws_File : Sz 49 1 := Sz.of (by kernel_rfl)
theorem agg_s_laws_File (w : World) : (isAgg 49).run Tryd.prog w = .ok false w := by go_simp <;> rfl
theorem zero_s_laws_File (w : World) : (zeroValue 49).run Tryd.prog w = .ok (.slice none 0 0) w := by go_simp <;> rfl
theorem sz_s_laws_Group : Sz 45 1 := Sz.of (by kernel_rfl)
theorem agg_s_laws_Group (w : World) : (isAgg 45).run Tryd.prog w = .ok false w := by go_simp <;> rfl
theorem zero_s_laws_Group (w : World) : (zeroValue 45).run Tryd.prog w = .ok (.slice none 0 0) w := by go_simp <;> rfl
theorem sz_s_laws_Page : Sz 139 1 := Sz.of (by kernel_rfl)
theorem agg_s_laws_Page (w : World) : (isAgg 139).run Tryd.prog w = .ok false w := by go_simp <;> rfl
theorem zero_s_laws_Page (w : World) : (zeroValue 139).run Tryd.prog w = .ok (.slice none 0 0) w := by go_simp <;> rfl
theorem sz_s_laws_Row : Sz 179 1 := Sz.of (by kernel_rfl)
theorem agg_s_laws_Row (w : World) : (isAgg 179).run Tryd.prog w = .ok false w := by go_simp <;> rfl
theorem zero_s_laws_Row (w : World) : (zeroValue 179).run Tryd.prog w = .ok (.slice none 0 0) w := by go_simp <;> rfl
theorem sz_s_string : Sz 87 1 := Sz.of (by kernel_rfl)
theorem agg_s_string (w : World) : (isAgg 87).run Tryd.prog w = .ok false w := by go_simp <;> rfl
theorem zero_s_string (w : World) : (zeroValue 87).run Tryd.prog w = .ok (.slice none 0 0) w := by go_simp <;> rfl
theorem sz_s_uint8 : Sz 22 1 := Sz.of (by kernel_rfl)
theorem agg_s_uint8 (w : World) : (isAgg 22).run Tryd.prog w = .ok false w := by go_simp <;> rfl
theorem zero_s_uint8 (w : World) : (zeroValue 22).run Tryd.prog w = .ok (.slice none 0 0) w := by go_simp <;> rfl
theorem elt_impl_File : ElT 53 102 4 (.agg #[.int .i64 0, .slice none 0 0, .int .i64 0, .bool false]) 48 := ⟨Tryd.underlying53, by kernel_rfl, rfl, by decide, by decide, by decide⟩
theorem elt_impl_Group : ElT 26 33 5 (.agg #[.int .i64 0, .int .i64 0, .int .i64 0, .int .i64 0, .int .i64 0]) 40 := ⟨Tryd.underlying26, by kernel_rfl, rfl, by decide, by decide, by decide⟩
theorem elt_impl_Page : ElT 67 72 1 (.agg #[.slice none 0 0]) 24 := ⟨Tryd.underlying67, by kernel_rfl, rfl, by decide, by decide, by decide⟩
theorem elt_impl_Row : ElT 24 41 3 (.agg #[.int .i64 0, .int .i64 0, .int .i64 0]) 24 := ⟨Tryd.underlying24, by kernel_rfl, rfl, by decide, by decide, by decide⟩
theorem elt_int : ElT 137 3 1 (.int .i64 0) 8 := ⟨Tryd.underlying137, by kernel_rfl, rfl, by decide, by decide, by decide⟩
theorem elt_laws_File : ElT 49 141 4 (.agg #[.int .i64 0, .slice none 0 0, .int .i64 0, .bool false]) 48 := ⟨Tryd.underlying49, by kernel_rfl, rfl, by decide, by decide, by decide⟩
theorem elt_laws_Group : ElT 45 98 5 (.agg #[.int .i64 0, .int .i64 0, .int .i64 0, .int .i64 0, .int .i64 0]) 40 := ⟨Tryd.underlying45, by kernel_rfl, rfl, by decide, by decide, by decide⟩
theorem elt_laws_Page : ElT 139 181 1 (.agg #[.slice none 0 0]) 24 := ⟨Tryd.underlying139, by kernel_rfl, rfl, by decide, by decide, by decide⟩
theorem elt_laws_Row : ElT 179 202 3 (.agg #[.int .i64 0, .int .i64 0, .int .i64 0]) 24 := ⟨Tryd.underlying179, by kernel_rfl, rfl, by decide, by decide, by decide⟩
theorem elt_string : ElT 87 9 1 (.string ByteArray.empty) 16 := ⟨Tryd.underlying87, by kernel_rfl, rfl, by decide, by decide, by decide⟩
theorem elt_uint8 : ElT 22 5 1 (.int .u8 0) 1 := ⟨Tryd.underlying22, by kernel_rfl, rfl, by decide, by decide, by decide⟩
end Go.Proofs.YtmlcdhblofjpbaaDoor.V
