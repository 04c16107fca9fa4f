/- Spill files: the checksum, valid disks and what each operation answers, as mathematics; no function of program or reference is walked here. -/
import Derived.Test.YthbifibnnhikjaaTDisk
import Derived.Test.YthbifibnnhikjaaMath
namespace Go.Proofs.Ythbifibnnhikjaa
open Go.RowKit
set_option linter.unusedVariables false

def ckStep (n : Nat) (b : UInt8) : Nat := (n * 37 + b.toNat + 1) % 65521
/-- The checksum of bytes. -/
def ck (l : List UInt8) : Nat := l.foldl ckStep 11
theorem ckFold_lt : ∀ (l : List UInt8) (n : Nat), n < 65521 → l.foldl ckStep n < 65521
  | [], _, h => h
  | b :: l, n, h => ckFold_lt l _ (Nat.mod_lt _ (by decide))
theorem ck_lt (l : List UInt8) : ck l < 65521 := ckFold_lt l 11 (by decide)
theorem ck_next (l : List UInt8) (t : Nat) (h : t < l.length) : ck (l.take (t + 1)) = ckStep (ck (l.take t)) l[t] := by
  unfold ck
  rw [List.take_succ_eq_append_getElem h, List.foldl_append]
  rfl
/-- All pages are valid, and the checksum of an unsealed file is 0. -/
def FileD.ok (f : FileD) : Bool := R.allPages f.fPages && (f.fSealed || decide (f.fChecksum = 0))
/-- It is sealed and its checksum is that of its pages. -/
def FileD.whole (f : FileD) : Bool := f.fSealed && decide (f.fChecksum = (ck (R.fmtPages f.fPages) : Int))
theorem flat_wt (P : List (List R)) : P.flatten.length ≤ wtPages P := by
  unfold wtPages wtAll
  induction P with
  | nil => exact Nat.le_refl _
  | cons p P ih =>
    have h3 : wtPage p = p.length := rfl
    simp only [List.map_cons, List.sum_cons, List.length_cons, List.flatten_cons, List.length_append] at ih ⊢
    omega
namespace DiskD
def count (F : List FileD) : Nat := (F.map fun f => f.fPages.length).sum
theorem count_next (F : List FileD) (t : Nat) (h : t < F.length) : count (F.take (t + 1)) = count (F.take t) + F[t].fPages.length := sum_next _ F t h
theorem count_take (F : List FileD) (t : Nat) : count (F.take t) ≤ count F := sum_take _ F t
theorem count_wt (F : List FileD) : count F ≤ wtFiles F := by
  unfold count wtFiles wtAll
  induction F with
  | nil => exact Nat.le_refl _
  | cons f F ih =>
    have h1 : f.fPages.length ≤ wtFile f := wt_page_len f.fPages
    simp only [List.map_cons, List.sum_cons, List.length_cons] at ih ⊢
    omega
theorem count_cons (f : FileD) (F : List FileD) : count (f :: F) = f.fPages.length + count F := by simp [count]
theorem count_append (F G : List FileD) : count (F ++ G) = count F + count G := by simp [count]
/-- The least name that the next file may have. -/
def low (F : List FileD) : Nat → Int
  | 0 => 0
  | t + 1 => (F[t]?.map fun f => f.fName + 1).getD 0
def okAt (nx : Int) (F : List FileD) (t : Nat) : Bool := match F[t]? with
  | some f => decide (low F t ≤ f.fName ∧ f.fName < nx) && f.ok
  | none => true
/-- A valid disk. -/
def okD (d : DiskD) : Bool := decide (0 ≤ d.fNextName ∧ d.fNextName ≤ 1000) && decide (count d.fFiles ≤ 40) && (List.range d.fFiles.length).all (okAt d.fNextName d.fFiles)
theorem okAt_some {nx : Int} {F : List FileD} {t : Nat} {f : FileD} (h : F[t]? = some f) : okAt nx F t = (decide (low F t ≤ f.fName ∧ f.fName < nx) && f.ok) := by unfold okAt; rw [h]
theorem low_next {F : List FileD} {t : Nat} {f : FileD} (h : F[t]? = some f) : low F (t + 1) = f.fName + 1 := by show (F[t]?.map _).getD 0 = _; rw [h]; rfl
theorem okD_bad {d : DiskD} {t : Nat} (ht : t < d.fFiles.length) (h : okAt d.fNextName d.fFiles t = false) : okD d = false := by
  unfold okD
  have : (List.range d.fFiles.length).all (okAt d.fNextName d.fFiles) = false := by
    rw [List.all_eq_false]
    exact ⟨t, List.mem_range.2 ht, by rw [h]; simp⟩
  rw [this, Bool.and_false]
theorem okD_all {d : DiskD} (h : ∀ t, t < d.fFiles.length → okAt d.fNextName d.fFiles t = true) : okD d = (decide (0 ≤ d.fNextName ∧ d.fNextName ≤ 1000) && decide (count d.fFiles ≤ 40)) := by
  unfold okD
  rw [List.all_eq_true.2 fun t ht => h t (List.mem_range.1 ht), Bool.and_true]
/-- The same, said file by file. -/
structure Ok (d : DiskD) : Prop where
  lo : 0 ≤ d.fNextName
  hi : d.fNextName ≤ 1000
  few : count d.fFiles ≤ 40
  each : ∀ f ∈ d.fFiles, 0 ≤ f.fName ∧ f.fName < d.fNextName ∧ f.ok = true
  asc : ∀ (i j : Nat) (f g : FileD), d.fFiles[i]? = some f → d.fFiles[j]? = some g → i < j → f.fName < g.fName
theorem Ok.of {d : DiskD} (h : okD d = true) : Ok d := by
  unfold okD at h
  rw [Bool.and_eq_true, Bool.and_eq_true, decide_eq_true_eq, decide_eq_true_eq, List.all_eq_true] at h
  obtain ⟨⟨⟨h1, h2⟩, h3⟩, h4⟩ := h
  have key : ∀ (t : Nat) (f : FileD), d.fFiles[t]? = some f → low d.fFiles t ≤ f.fName ∧ f.fName < d.fNextName ∧ f.ok = true := fun t f ht => by
    have := h4 t (List.mem_range.2 (idx_lt ht))
    rw [okAt_some ht, Bool.and_eq_true, decide_eq_true_eq] at this
    exact ⟨this.1.1, this.1.2, this.2⟩
  have pos : ∀ (t : Nat) (f : FileD), d.fFiles[t]? = some f → 0 ≤ f.fName := by
    intro t
    induction t with
    | zero => intro f hf; exact (key 0 f hf).1
    | succ t ih =>
      intro f hf
      have hl : t < d.fFiles.length := by have := idx_lt hf; omega
      obtain ⟨g, hg⟩ : ∃ g, d.fFiles[t]? = some g := ⟨d.fFiles[t], by simp [hl]⟩
      have h5 := ih g hg
      have h6 := (key (t + 1) f hf).1
      rw [low_next hg] at h6
      omega
  refine ⟨h1, h2, h3, fun f hf => ?_, ?_⟩
  · obtain ⟨t, ht, rfl⟩ := List.getElem_of_mem hf
    have hg : d.fFiles[t]? = some d.fFiles[t] := by simp [ht]
    exact ⟨pos t _ hg, (key t _ hg).2⟩
  · intro i j
    induction j with
    | zero => intro f g _ _ h; omega
    | succ j ih =>
      intro f g hf hg hij
      have hl : j < d.fFiles.length := by have := idx_lt hg; omega
      obtain ⟨e, he⟩ : ∃ e, d.fFiles[j]? = some e := ⟨d.fFiles[j], by simp [hl]⟩
      have h6 := (key (j + 1) g hg).1
      rw [low_next he] at h6
      rcases Nat.lt_or_ge i j with h7 | h7
      · have := ih f e hf he h7; omega
      · obtain rfl : i = j := by omega
        rw [hf] at he
        cases he
        omega
theorem Ok.yes {d : DiskD} (h : Ok d) : okD d = true := by
  unfold okD
  rw [Bool.and_eq_true, Bool.and_eq_true, decide_eq_true_eq, decide_eq_true_eq, List.all_eq_true]
  refine ⟨⟨⟨h.lo, h.hi⟩, h.few⟩, fun t ht => ?_⟩
  have htl := List.mem_range.1 ht
  have hg : d.fFiles[t]? = some d.fFiles[t] := by simp [htl]
  obtain ⟨h1, h2, h3⟩ := h.each _ (List.getElem_mem htl)
  rw [okAt_some hg, Bool.and_eq_true, decide_eq_true_eq]
  refine ⟨⟨?_, h2⟩, h3⟩
  cases t with
  | zero => exact h1
  | succ t =>
    have hf : d.fFiles[t]? = some d.fFiles[t] := by simp
    rw [low_next hf]
    have := h.asc t (t + 1) _ _ hf hg (Nat.lt_succ_self t)
    omega
/-- The first file of this name. -/
def at? (F : List FileD) (name : Int) : Option Nat := F.findIdx? fun f => decide (f.fName = name)
def atI (F : List FileD) (name : Int) : Int := match at? F name with
  | some k => k
  | none => -1
theorem at_some {F : List FileD} {name : Int} {k : Nat} (h : at? F name = some k) : ∃ f, F[k]? = some f ∧ f.fName = name := by
  obtain ⟨hk, h1, -⟩ := List.findIdx?_eq_some_iff_getElem.1 h
  exact ⟨F[k], by simp [hk], of_decide_eq_true h1⟩
theorem at_hit {F : List FileD} {name : Int} {k : Nat} {f : FileD} (hk : F[k]? = some f) (hf : f.fName = name) (hb : ∀ (s : Nat) (g : FileD), s < k → F[s]? = some g → g.fName ≠ name) : at? F name = some k := by
  have hkl := idx_lt hk
  have he : F[k] = f := by rw [List.getElem?_eq_getElem hkl] at hk; exact Option.some.inj hk
  refine List.findIdx?_eq_some_iff_getElem.2 ⟨hkl, by rw [he]; exact decide_eq_true hf, fun s hs => ?_⟩
  have := hb s F[s] hs (by simp)
  simpa using this
theorem at_miss {F : List FileD} {name : Int} (h : ∀ (s : Nat) (g : FileD), F[s]? = some g → g.fName ≠ name) : at? F name = none := by
  refine List.findIdx?_eq_none_iff.2 fun f hf => ?_
  obtain ⟨t, ht, rfl⟩ := List.getElem_of_mem hf
  exact decide_eq_false (h t _ (by simp [ht]))
theorem at_none {F : List FileD} {name : Int} (h : at? F name = none) : ∀ f ∈ F, f.fName ≠ name := fun f hf => of_decide_eq_false (List.findIdx?_eq_none_iff.1 h f hf)
/-- The file that an operation on a valid disk reaches. -/
def file (d : DiskD) (name : Int) : Option (Nat × FileD) := if okD d then (at? d.fFiles name).bind fun k => d.fFiles[k]?.map fun f => (k, f) else none
theorem file_bad {d : DiskD} {name : Int} (h : okD d = false) : file d name = none := by unfold file; rw [h]; rfl
theorem file_none {d : DiskD} {name : Int} (h : at? d.fFiles name = none) : file d name = none := by unfold file; rw [h]; split <;> rfl
theorem file_some {d : DiskD} {name : Int} {k : Nat} {f : FileD} (ho : okD d = true) (h : at? d.fFiles name = some k) (hf : d.fFiles[k]? = some f) : file d name = some (k, f) := by unfold file; rw [if_pos ho, h]; show d.fFiles[k]?.map _ = _; rw [hf]; rfl
theorem of_file {d : DiskD} {name : Int} {k : Nat} {f : FileD} (h : file d name = some (k, f)) : okD d = true ∧ at? d.fFiles name = some k ∧ d.fFiles[k]? = some f ∧ f.fName = name := by
  unfold file at h
  split at h
  · rename_i ho
    cases hk : at? d.fFiles name with
    | none => rw [hk] at h; cases h
    | some j =>
      obtain ⟨g, hg, hn⟩ := at_some hk
      rw [hk] at h
      have h' : (d.fFiles[j]?.map fun f => (j, f)) = some (k, f) := h
      rw [hg] at h'
      have h2 := Option.some.inj h'
      have h3 : j = k := congrArg Prod.fst h2
      have h4 : g = f := congrArg Prod.snd h2
      subst h3 h4
      exact ⟨ho, rfl, hg, hn⟩
  · cases h
def create (d : DiskD) : Option DiskD := if okD d && decide (d.fNextName < 1000) then some ⟨d.fFiles ++ [⟨d.fNextName, [], 0, false⟩], d.fNextName + 1⟩ else none
def appendTo (d : DiskD) (name : Int) (p : List R) : Option DiskD := (file d name).bind fun kf => if !kf.2.fSealed && R.pageOk p && decide (count d.fFiles ≠ 40) then some ⟨d.fFiles.set kf.1 { kf.2 with fPages := kf.2.fPages ++ [p] }, d.fNextName⟩ else none
def sealF (d : DiskD) (name : Int) : Option DiskD := (file d name).bind fun kf => if kf.2.fSealed then none else some ⟨d.fFiles.set kf.1 { kf.2 with fChecksum := ck (R.fmtPages kf.2.fPages), fSealed := true }, d.fNextName⟩
def read (d : DiskD) (name : Int) : Option (List R) := (file d name).bind fun kf => if kf.2.whole then some kf.2.fPages.flatten else none
def delete (d : DiskD) (name : Int) : Option DiskD := (file d name).map fun kf => ⟨d.fFiles.eraseIdx kf.1, d.fNextName⟩
def purge (d : DiskD) : DiskD := ⟨if okD d then d.fFiles.filter FileD.whole else [], d.fNextName⟩
theorem count_mem {F : List FileD} {f : FileD} (h : f ∈ F) : f.fPages.length ≤ count F := by
  obtain ⟨t, ht, rfl⟩ := List.getElem_of_mem h
  have h1 := count_next F t ht
  have h2 := count_take F (t + 1)
  omega
/-- A valid disk is small. -/
theorem ok_page_len {p : List R} (h : R.pageOk p = true) : p.length ≤ 24 := by
  unfold R.pageOk okRows at h
  simp only [Bool.and_eq_true, decide_eq_true_eq] at h
  exact h.1.1
theorem Ok.len {d : DiskD} (h : Ok d) : d.fFiles.length ≤ 1000 := by
  have key : ∀ (t : Nat), t < d.fFiles.length → ∀ (f : FileD), d.fFiles[t]? = some f → (t : Int) ≤ f.fName := by
    intro t
    induction t with
    | zero => intro _ f hf; exact (h.each f (List.mem_of_getElem? hf)).1
    | succ t ih =>
      intro ht f hf
      have hg : d.fFiles[t]? = some d.fFiles[t] := by simp
      have h1 := ih (by omega) _ hg
      have h2 := h.asc t (t + 1) _ _ hg hf (Nat.lt_succ_self t)
      omega
  rcases Nat.eq_zero_or_pos d.fFiles.length with h0 | h0
  · omega
  · have hl : d.fFiles.length - 1 < d.fFiles.length := by omega
    have hg : d.fFiles[d.fFiles.length - 1]? = some d.fFiles[d.fFiles.length - 1] := by simp [hl]
    have h1 := key _ hl _ hg
    have h2 := (h.each _ (List.getElem_mem hl)).2.1
    have h3 := h.hi
    omega
theorem wt_pages_ok {P : List (List R)} (h : R.allPages P = true) : wtPages P ≤ 25 * P.length := by
  unfold R.allPages at h
  rw [List.all_eq_true] at h
  unfold wtPages wtAll
  induction P with
  | nil => exact Nat.le_refl _
  | cons p P ih =>
    have h1 := ok_page_len (h p (List.mem_cons_self ..))
    have h2 := ih fun q hq => h q (List.mem_cons_of_mem _ hq)
    have h3 : wtPage p = p.length := rfl
    simp only [List.map_cons, List.sum_cons, List.length_cons] at h2 ⊢
    omega
theorem wt_files_ok {F : List FileD} (h : ∀ f ∈ F, f.ok = true) : wtFiles F ≤ F.length + 25 * count F := by
  unfold wtFiles wtAll count
  induction F with
  | nil => exact Nat.le_refl _
  | cons f F ih =>
    have h1 : wtFile f ≤ 25 * f.fPages.length := wt_pages_ok (by
      have := h f (List.mem_cons_self ..)
      unfold FileD.ok at this
      rw [Bool.and_eq_true] at this
      exact this.1)
    have h2 := ih fun g hg => h g (List.mem_cons_of_mem _ hg)
    simp only [List.map_cons, List.sum_cons, List.length_cons] at h2 ⊢
    omega
theorem Ok.wt {d : DiskD} (h : Ok d) : wtDisk d ≤ 2000 := by
  have h1 := wt_files_ok (F := d.fFiles) fun f hf => (h.each f hf).2.2
  have h2 := h.few
  have h3 := h.len
  show wtFiles d.fFiles ≤ 2000
  omega
theorem count_set {F : List FileD} {k : Nat} {f : FileD} (h : F[k]? = some f) (f' : FileD) : count (F.set k f') + f.fPages.length = count F + f'.fPages.length := by
  have hk := idx_lt h
  have he : F[k] = f := by rw [List.getElem?_eq_getElem hk] at h; exact Option.some.inj h
  have e1 : F = F.take k ++ F[k] :: F.drop (k + 1) := by rw [← List.drop_eq_getElem_cons hk, List.take_append_drop]
  have e2 : F.set k f' = F.take k ++ f' :: F.drop (k + 1) := by rw [List.set_eq_take_append_cons_drop, if_pos hk]
  have c1 : count F = count (F.take k) + (f.fPages.length + count (F.drop (k + 1))) := by conv => lhs; rw [e1, he, count_append, count_cons]
  have c2 : count (F.set k f') = count (F.take k) + (f'.fPages.length + count (F.drop (k + 1))) := by rw [e2, count_append, count_cons]
  omega
/-- One file is changed, its name is not. -/
theorem Ok.set {d : DiskD} (h : Ok d) {k : Nat} {f f' : FileD} (hk : d.fFiles[k]? = some f) (hn : f'.fName = f.fName) (ho : f'.ok = true) (hc : count (d.fFiles.set k f') ≤ 40) : Ok ⟨d.fFiles.set k f', d.fNextName⟩ := by
  have hkl := idx_lt hk
  have hget : ∀ (i : Nat) (g : FileD), (d.fFiles.set k f')[i]? = some g → ∃ g0, d.fFiles[i]? = some g0 ∧ g.fName = g0.fName := fun i g hg => by
    by_cases hik : k = i
    · subst hik
      rw [List.getElem?_set_self hkl] at hg
      cases hg
      exact ⟨f, hk, hn⟩
    · rw [List.getElem?_set_ne hik] at hg
      exact ⟨g, hg, rfl⟩
  refine ⟨h.lo, h.hi, hc, fun g hg => ?_, fun i j a b ha hb hij => ?_⟩
  · rcases List.mem_or_eq_of_mem_set hg with hg | rfl
    · exact h.each g hg
    · obtain ⟨h1, h2, -⟩ := h.each f (List.mem_of_getElem? hk)
      show 0 ≤ g.fName ∧ g.fName < d.fNextName ∧ g.ok = true
      rw [hn]
      exact ⟨h1, h2, ho⟩
  · obtain ⟨a0, ha0, ea⟩ := hget i a ha
    obtain ⟨b0, hb0, eb⟩ := hget j b hb
    rw [ea, eb]
    exact h.asc i j a0 b0 ha0 hb0 hij
theorem count_sub {F G : List FileD} (h : G.Sublist F) : count G ≤ count F := by
  induction h with
  | slnil => exact Nat.le_refl _
  | cons f _ ih => rw [count_cons]; omega
  | cons_cons f _ ih => rw [count_cons, count_cons]; omega
end DiskD
end Go.Proofs.Ythbifibnnhikjaa
