/- Texts joined: DiskM Valids Ares Class PagesS PagesAll DiskS ValidDs Blk DiskB Iup Validi Arei Pagesi ValidDi In Fmt. -/
import Derived.Test.YtjdjceohlcimaaaGreatDoorPartDiskOperationsd
import Derived.Deep.Quiet
import Derived.Deep.QuietTactic
import Derived.BigQuiet
import Derived.WalkKit
import Derived.Lib.Hide
import Derived.Deep.CutRange
/- Spill files: the checksum, valid disks and what each operation answers, as mathematics; no function of program or reference is walked here. -/
namespace Go.Proofs.YtjdjceohlcimaaaGreatDoor
open Go.RowKit
set_option linter.unusedVariables false
def ckStep (n : Nat) (b : UInt8) : Nat := (n * 37 + b.toNat + 1) % 65521
def ck (l : List UInt8) : Nat := l.foldl ckStep 11
theorem ckFold_lt : ∀ (l : List UInt8) (n : Nat), n < 65521 → l.foldl ckStep n < 65521
  | [], _, h => h
  | b :: l, n, h => ckFold_lt l _ (Nat.mod_lt _ (by decide))
theorem ck_lt (l : List UInt8) : ck l < 65521 := ckFold_lt l 11 (by decide)
theorem ck_next (l : List UInt8) (t : Nat) (h : t < l.length) : ck (l.take (t + 1)) = ckStep (ck (l.take t)) l[t] := by
  unfold ck
  rw [List.take_succ_eq_append_getElem h, List.foldl_append]
  rfl
def FileD.ok (f : FileD) : Bool := R.allPages f.fPages && (f.fSealed || decide (f.fChecksum = 0))
def FileD.whole (f : FileD) : Bool := f.fSealed && decide (f.fChecksum = (ck (R.fmtPages f.fPages) : Int))
theorem flat_wt (P : List (List R)) : P.flatten.length ≤ wtPages P := by
  unfold wtPages wtAll
  induction P with
  | nil => exact Nat.le_refl _
  | cons p P ih =>
    have h3 : wtPage p = p.length := rfl
    simp only [List.map_cons, List.sum_cons, List.length_cons, List.flatten_cons, List.length_append] at ih ⊢
    omega
namespace DiskD
def count (F : List FileD) : Nat := (F.map fun f => f.fPages.length).sum
theorem count_next (F : List FileD) (t : Nat) (h : t < F.length) : count (F.take (t + 1)) = count (F.take t) + F[t].fPages.length := sum_next _ F t h
theorem count_take (F : List FileD) (t : Nat) : count (F.take t) ≤ count F := sum_take _ F t
theorem count_wt (F : List FileD) : count F ≤ wtFiles F := by
  unfold count wtFiles wtAll
  induction F with
  | nil => exact Nat.le_refl _
  | cons f F ih =>
    have h1 : f.fPages.length ≤ wtFile f := wt_page_len f.fPages
    simp only [List.map_cons, List.sum_cons, List.length_cons] at ih ⊢
    omega
theorem count_cons (f : FileD) (F : List FileD) : count (f :: F) = f.fPages.length + count F := by simp [count]
theorem count_append (F G : List FileD) : count (F ++ G) = count F + count G := by simp [count]
def low (F : List FileD) : Nat → Int
  | 0 => 0
  | t + 1 => (F[t]?.map fun f => f.fName + 1).getD 0
def okAt (nx : Int) (F : List FileD) (t : Nat) : Bool := match F[t]? with
  | some f => decide (low F t ≤ f.fName ∧ f.fName < nx) && f.ok
  | none => true
def okD (d : DiskD) : Bool := decide (0 ≤ d.fNextName ∧ d.fNextName ≤ 1000) && decide (count d.fFiles ≤ 40) && (List.range d.fFiles.length).all (okAt d.fNextName d.fFiles)
theorem okAt_some {nx : Int} {F : List FileD} {t : Nat} {f : FileD} (h : F[t]? = some f) : okAt nx F t = (decide (low F t ≤ f.fName ∧ f.fName < nx) && f.ok) := by unfold okAt; rw [h]
theorem low_next {F : List FileD} {t : Nat} {f : FileD} (h : F[t]? = some f) : low F (t + 1) = f.fName + 1 := by show (F[t]?.map _).getD 0 = _; rw [h]; rfl
theorem okD_bad {d : DiskD} {t : Nat} (ht : t < d.fFiles.length) (h : okAt d.fNextName d.fFiles t = false) : okD d = false := by
  unfold okD
  have : (List.range d.fFiles.length).all (okAt d.fNextName d.fFiles) = false := by
    rw [List.all_eq_false]
    exact ⟨t, List.mem_range.2 ht, by rw [h]; simp⟩
  rw [this, Bool.and_false]
theorem okD_all {d : DiskD} (h : ∀ t, t < d.fFiles.length → okAt d.fNextName d.fFiles t = true) : okD d = (decide (0 ≤ d.fNextName ∧ d.fNextName ≤ 1000) && decide (count d.fFiles ≤ 40)) := by
  unfold okD
  rw [List.all_eq_true.2 fun t ht => h t (List.mem_range.1 ht), Bool.and_true]
structure Ok (d : DiskD) : Prop where
  lo : 0 ≤ d.fNextName
  hi : d.fNextName ≤ 1000
  few : count d.fFiles ≤ 40
  each : ∀ f ∈ d.fFiles, 0 ≤ f.fName ∧ f.fName < d.fNextName ∧ f.ok = true
  asc : ∀ (i j : Nat) (f g : FileD), d.fFiles[i]? = some f → d.fFiles[j]? = some g → i < j → f.fName < g.fName
theorem Ok.of {d : DiskD} (h : okD d = true) : Ok d := by
  unfold okD at h
  rw [Bool.and_eq_true, Bool.and_eq_true, decide_eq_true_eq, decide_eq_true_eq, List.all_eq_true] at h
  obtain ⟨⟨⟨h1, h2⟩, h3⟩, h4⟩ := h
  have key : ∀ (t : Nat) (f : FileD), d.fFiles[t]? = some f → low d.fFiles t ≤ f.fName ∧ f.fName < d.fNextName ∧ f.ok = true := fun t f ht => by
    have := h4 t (List.mem_range.2 (idx_lt ht))
    rw [okAt_some ht, Bool.and_eq_true, decide_eq_true_eq] at this
    exact ⟨this.1.1, this.1.2, this.2⟩
  have pos : ∀ (t : Nat) (f : FileD), d.fFiles[t]? = some f → 0 ≤ f.fName := by
    intro t
    induction t with
    | zero => intro f hf; exact (key 0 f hf).1
    | succ t ih =>
      intro f hf
      have hl : t < d.fFiles.length := by have := idx_lt hf; omega
      obtain ⟨g, hg⟩ : ∃ g, d.fFiles[t]? = some g := ⟨d.fFiles[t], by simp [hl]⟩
      have h5 := ih g hg
      have h6 := (key (t + 1) f hf).1
      rw [low_next hg] at h6
      omega
  refine ⟨h1, h2, h3, fun f hf => ?_, ?_⟩
  · obtain ⟨t, ht, rfl⟩ := List.getElem_of_mem hf
    have hg : d.fFiles[t]? = some d.fFiles[t] := by simp [ht]
    exact ⟨pos t _ hg, (key t _ hg).2⟩
  · intro i j
    induction j with
    | zero => intro f g _ _ h; omega
    | succ j ih =>
      intro f g hf hg hij
      have hl : j < d.fFiles.length := by have := idx_lt hg; omega
      obtain ⟨e, he⟩ : ∃ e, d.fFiles[j]? = some e := ⟨d.fFiles[j], by simp [hl]⟩
      have h6 := (key (j + 1) g hg).1
      rw [low_next he] at h6
      rcases Nat.lt_or_ge i j with h7 | h7
      · have := ih f e hf he h7; omega
      · obtain rfl : i = j := by omega
        rw [hf] at he
        cases he
        omega
theorem Ok.yes {d : DiskD} (h : Ok d) : okD d = true := by
  unfold okD
  rw [Bool.and_eq_true, Bool.and_eq_true, decide_eq_true_eq, decide_eq_true_eq, List.all_eq_true]
  refine ⟨⟨⟨h.lo, h.hi⟩, h.few⟩, fun t ht => ?_⟩
  have htl := List.mem_range.1 ht
  have hg : d.fFiles[t]? = some d.fFiles[t] := by simp [htl]
  obtain ⟨h1, h2, h3⟩ := h.each _ (List.getElem_mem htl)
  rw [okAt_some hg, Bool.and_eq_true, decide_eq_true_eq]
  refine ⟨⟨?_, h2⟩, h3⟩
  cases t with
  | zero => exact h1
  | succ t =>
    have hf : d.fFiles[t]? = some d.fFiles[t] := by simp
    rw [low_next hf]
    have := h.asc t (t + 1) _ _ hf hg (Nat.lt_succ_self t)
    omega
def at? (F : List FileD) (name : Int) : Option Nat := F.findIdx? fun f => decide (f.fName = name)
def atI (F : List FileD) (name : Int) : Int := match at? F name with
  | some k => k
  | none => -1
theorem at_some {F : List FileD} {name : Int} {k : Nat} (h : at? F name = some k) : ∃ f, F[k]? = some f ∧ f.fName = name := by
  obtain ⟨hk, h1, -⟩ := List.findIdx?_eq_some_iff_getElem.1 h
  exact ⟨F[k], by simp [hk], of_decide_eq_true h1⟩
theorem at_hit {F : List FileD} {name : Int} {k : Nat} {f : FileD} (hk : F[k]? = some f) (hf : f.fName = name) (hb : ∀ (s : Nat) (g : FileD), s < k → F[s]? = some g → g.fName ≠ name) : at? F name = some k := by
  have hkl := idx_lt hk
  have he : F[k] = f := by rw [List.getElem?_eq_getElem hkl] at hk; exact Option.some.inj hk
  refine List.findIdx?_eq_some_iff_getElem.2 ⟨hkl, by rw [he]; exact decide_eq_true hf, fun s hs => ?_⟩
  have := hb s F[s] hs (by simp)
  simpa using this
theorem at_miss {F : List FileD} {name : Int} (h : ∀ (s : Nat) (g : FileD), F[s]? = some g → g.fName ≠ name) : at? F name = none := by
  refine List.findIdx?_eq_none_iff.2 fun f hf => ?_
  obtain ⟨t, ht, rfl⟩ := List.getElem_of_mem hf
  exact decide_eq_false (h t _ (by simp [ht]))
def file (d : DiskD) (name : Int) : Option (Nat × FileD) := if okD d then (at? d.fFiles name).bind fun k => d.fFiles[k]?.map fun f => (k, f) else none
theorem file_bad {d : DiskD} {name : Int} (h : okD d = false) : file d name = none := by unfold file; rw [h]; rfl
theorem file_none {d : DiskD} {name : Int} (h : at? d.fFiles name = none) : file d name = none := by unfold file; rw [h]; split <;> rfl
theorem file_some {d : DiskD} {name : Int} {k : Nat} {f : FileD} (ho : okD d = true) (h : at? d.fFiles name = some k) (hf : d.fFiles[k]? = some f) : file d name = some (k, f) := by unfold file; rw [if_pos ho, h]; show d.fFiles[k]?.map _ = _; rw [hf]; rfl
theorem of_file {d : DiskD} {name : Int} {k : Nat} {f : FileD} (h : file d name = some (k, f)) : okD d = true ∧ at? d.fFiles name = some k ∧ d.fFiles[k]? = some f ∧ f.fName = name := by
  unfold file at h
  split at h
  · rename_i ho
    cases hk : at? d.fFiles name with
    | none => rw [hk] at h; cases h
    | some j =>
      obtain ⟨g, hg, hn⟩ := at_some hk
      rw [hk] at h
      have h' : (d.fFiles[j]?.map fun f => (j, f)) = some (k, f) := h
      rw [hg] at h'
      have h2 := Option.some.inj h'
      have h3 : j = k := congrArg Prod.fst h2
      have h4 : g = f := congrArg Prod.snd h2
      subst h3 h4
      exact ⟨ho, rfl, hg, hn⟩
  · cases h
def create (d : DiskD) : Option DiskD := if okD d && decide (d.fNextName < 1000) then some ⟨d.fFiles ++ [⟨d.fNextName, [], 0, false⟩], d.fNextName + 1⟩ else none
def appendTo (d : DiskD) (name : Int) (p : List R) : Option DiskD := (file d name).bind fun kf => if !kf.2.fSealed && R.pageOk p && decide (count d.fFiles ≠ 40) then some ⟨d.fFiles.set kf.1 { kf.2 with fPages := kf.2.fPages ++ [p] }, d.fNextName⟩ else none
def sealF (d : DiskD) (name : Int) : Option DiskD := (file d name).bind fun kf => if kf.2.fSealed then none else some ⟨d.fFiles.set kf.1 { kf.2 with fChecksum := ck (R.fmtPages kf.2.fPages), fSealed := true }, d.fNextName⟩
def read (d : DiskD) (name : Int) : Option (List R) := (file d name).bind fun kf => if kf.2.whole then some kf.2.fPages.flatten else none
def delete (d : DiskD) (name : Int) : Option DiskD := (file d name).map fun kf => ⟨d.fFiles.eraseIdx kf.1, d.fNextName⟩
def purge (d : DiskD) : DiskD := ⟨if okD d then d.fFiles.filter FileD.whole else [], d.fNextName⟩
theorem count_mem {F : List FileD} {f : FileD} (h : f ∈ F) : f.fPages.length ≤ count F := by
  obtain ⟨t, ht, rfl⟩ := List.getElem_of_mem h
  have h1 := count_next F t ht
  have h2 := count_take F (t + 1)
  omega
theorem ok_page_len {p : List R} (h : R.pageOk p = true) : p.length ≤ 24 := by
  unfold R.pageOk okRows at h
  simp only [Bool.and_eq_true, decide_eq_true_eq] at h
  exact h.1.1
theorem Ok.len {d : DiskD} (h : Ok d) : d.fFiles.length ≤ 1000 := by
  have key : ∀ (t : Nat), t < d.fFiles.length → ∀ (f : FileD), d.fFiles[t]? = some f → (t : Int) ≤ f.fName := by
    intro t
    induction t with
    | zero => intro _ f hf; exact (h.each f (List.mem_of_getElem? hf)).1
    | succ t ih =>
      intro ht f hf
      have hg : d.fFiles[t]? = some d.fFiles[t] := by simp
      have h1 := ih (by omega) _ hg
      have h2 := h.asc t (t + 1) _ _ hg hf (Nat.lt_succ_self t)
      omega
  rcases Nat.eq_zero_or_pos d.fFiles.length with h0 | h0
  · omega
  · have hl : d.fFiles.length - 1 < d.fFiles.length := by omega
    have hg : d.fFiles[d.fFiles.length - 1]? = some d.fFiles[d.fFiles.length - 1] := by simp [hl]
    have h1 := key _ hl _ hg
    have h2 := (h.each _ (List.getElem_mem hl)).2.1
    have h3 := h.hi
    omega
theorem wt_pages_ok {P : List (List R)} (h : R.allPages P = true) : wtPages P ≤ 25 * P.length := by
  unfold R.allPages at h
  rw [List.all_eq_true] at h
  unfold wtPages wtAll
  induction P with
  | nil => exact Nat.le_refl _
  | cons p P ih =>
    have h1 := ok_page_len (h p (List.mem_cons_self ..))
    have h2 := ih fun q hq => h q (List.mem_cons_of_mem _ hq)
    have h3 : wtPage p = p.length := rfl
    simp only [List.map_cons, List.sum_cons, List.length_cons] at h2 ⊢
    omega
theorem wt_files_ok {F : List FileD} (h : ∀ f ∈ F, f.ok = true) : wtFiles F ≤ F.length + 25 * count F := by
  unfold wtFiles wtAll count
  induction F with
  | nil => exact Nat.le_refl _
  | cons f F ih =>
    have h1 : wtFile f ≤ 25 * f.fPages.length := wt_pages_ok (by
      have := h f (List.mem_cons_self ..)
      unfold FileD.ok at this
      rw [Bool.and_eq_true] at this
      exact this.1)
    have h2 := ih fun g hg => h g (List.mem_cons_of_mem _ hg)
    simp only [List.map_cons, List.sum_cons, List.length_cons] at h2 ⊢
    omega
theorem Ok.wt {d : DiskD} (h : Ok d) : wtDisk d ≤ 2000 := by
  have h1 := wt_files_ok (F := d.fFiles) fun f hf => (h.each f hf).2.2
  have h2 := h.few
  have h3 := h.len
  show wtFiles d.fFiles ≤ 2000
  omega
theorem count_set {F : List FileD} {k : Nat} {f : FileD} (h : F[k]? = some f) (f' : FileD) : count (F.set k f') + f.fPages.length = count F + f'.fPages.length := by
  have hk := idx_lt h
  have he : F[k] = f := by rw [List.getElem?_eq_getElem hk] at h; exact Option.some.inj h
  have e1 : F = F.take k ++ F[k] :: F.drop (k + 1) := by rw [← List.drop_eq_getElem_cons hk, List.take_append_drop]
  have e2 : F.set k f' = F.take k ++ f' :: F.drop (k + 1) := by rw [List.set_eq_take_append_cons_drop, if_pos hk]
  have c1 : count F = count (F.take k) + (f.fPages.length + count (F.drop (k + 1))) := by conv => lhs; rw [e1, he, count_append, count_cons]
  have c2 : count (F.set k f') = count (F.take k) + (f'.fPages.length + count (F.drop (k + 1))) := by rw [e2, count_append, count_cons]
  omega
theorem Ok.set {d : DiskD} (h : Ok d) {k : Nat} {f f' : FileD} (hk : d.fFiles[k]? = some f) (hn : f'.fName = f.fName) (ho : f'.ok = true) (hc : count (d.fFiles.set k f') ≤ 40) : Ok ⟨d.fFiles.set k f', d.fNextName⟩ := by
  have hkl := idx_lt hk
  have hget : ∀ (i : Nat) (g : FileD), (d.fFiles.set k f')[i]? = some g → ∃ g0, d.fFiles[i]? = some g0 ∧ g.fName = g0.fName := fun i g hg => by
    by_cases hik : k = i
    · subst hik
      rw [List.getElem?_set_self hkl] at hg
      cases hg
      exact ⟨f, hk, hn⟩
    · rw [List.getElem?_set_ne hik] at hg
      exact ⟨g, hg, rfl⟩
  refine ⟨h.lo, h.hi, hc, fun g hg => ?_, fun i j a b ha hb hij => ?_⟩
  · rcases List.mem_or_eq_of_mem_set hg with hg | rfl
    · exact h.each g hg
    · obtain ⟨h1, h2, -⟩ := h.each f (List.mem_of_getElem? hk)
      show 0 ≤ g.fName ∧ g.fName < d.fNextName ∧ g.ok = true
      rw [hn]
      exact ⟨h1, h2, ho⟩
  · obtain ⟨a0, ha0, ea⟩ := hget i a ha
    obtain ⟨b0, hb0, eb⟩ := hget j b hb
    rw [ea, eb]
    exact h.asc i j a0 b0 ha0 hb0 hij
theorem count_sub {F G : List FileD} (h : G.Sublist F) : count G ≤ count F := by
  induction h with
  | slnil => exact Nat.le_refl _
  | cons f _ ih => rw [count_cons]; omega
  | cons_cons f _ ih => rw [count_cons, count_cons]; omega
end DiskD
end Go.Proofs.YtjdjceohlcimaaaGreatDoor
/- The reference's IsValidRow and RowCost, by contract. -/
namespace Go.Proofs.YtjdjceohlcimaaaGreatDoor
open Go.RowKit
theorem sin (n a b : Int) (w : World) : Calls Tryz.prog 61 #[.int .i64 n, .int .i64 a, .int .i64 b] w fun e w' => e = .returned (.bool (decide (a ≤ n ∧ n ≤ b))) ∧ w = w' := by
  go_enter Tryz.func61, Tryz.ntmps61
  go_wp2
  all_goals go_ret
  all_goals simp_all
  all_goals omega
theorem svalid (r : R) (w : World) : Calls Tryz.prog 75 #[r.val] w fun e w' => e = .returned (.bool r.ok) ∧ Below w.heap.size w w' := by
  obtain ⟨k, v, d⟩ := r
  unfold R.val
  go_enter Tryz.func75, Tryz.ntmps75
  go_wp2_with fail
  refine (sin _ _ _ _).mono ?_
  rintro e w1 ⟨rfl, rfl⟩
  go_wp2_with fail
  case isTrue =>
    refine (sin _ _ _ _).mono ?_
    rintro e w1 ⟨rfl, rfl⟩
    go_wp2_with fail
    case isTrue =>
      refine (sin _ _ _ _).mono ?_
      rintro e w1 ⟨rfl, rfl⟩
      go_wp2_with fail
      all_goals go_ret
      all_goals refine ⟨?_, (Below.refl _ _).alloc (Nat.le_refl _) _⟩
      all_goals simp_all [R.ok]
    all_goals go_ret
    all_goals refine ⟨?_, (Below.refl _ _).alloc (Nat.le_refl _) _⟩
    all_goals simp_all [R.ok]
    all_goals omega
  all_goals go_ret
  all_goals refine ⟨?_, (Below.refl _ _).alloc (Nat.le_refl _) _⟩
  all_goals simp_all [R.ok]
  all_goals omega
theorem scost (r : R) (hr : r.wf) (w : World) : Calls Tryz.prog 76 #[r.val] w fun e w' => e = .returned (.int .i64 r.cost) ∧ Below w.heap.size w w' := by
  have hw := hr.2.2
  have H := Lib.hid (svalid r)
  cases hok : r.ok with
  | true =>
    have hc : r.cost = 1 + r.width := by unfold R.cost; rw [hok]; rfl
    have hk := R.ok_iff.1 hok
    rw [hc]
    unfold R.val
    go_enter Tryz.func76, Tryz.ntmps76
    go_wp2_with fail
    refine (H.out _).mono ?_
    rintro e w1 ⟨rfl, b1⟩
    obtain ⟨⟨c0, c1, c2⟩, b2⟩ := box_row (r := r) b1
    rw [hok]
    simp only [Nat.zero_add] at c2
    go_wp2_with fail
    go_ret
    exact ⟨rfl, b2⟩
  | false =>
    have hc : r.cost = 0 := by unfold R.cost; rw [hok]; rfl
    rw [hc]
    unfold R.val
    go_enter Tryz.func76, Tryz.ntmps76
    go_wp2_with fail
    refine (H.out _).mono ?_
    rintro e w1 ⟨rfl, b1⟩
    obtain ⟨⟨c0, c1, c2⟩, b2⟩ := box_row (r := r) b1
    rw [hok]
    go_wp2_with fail
    go_ret
    exact ⟨rfl, b2⟩
end Go.Proofs.YtjdjceohlcimaaaGreatDoor
/- The reference's AreValidRows and TotalCost, by contract. -/
namespace Go.Proofs.YtjdjceohlcimaaaGreatDoor
open Go.RowKit
set_option maxRecDepth 100000 in
theorem sare (a : Option Addr) (len cap : Nat) (L : List R) (w : World) (h : IsRows w a len L) (hlen : len ≤ 9223372036854775807) :
    Calls Tryz.prog 63 #[.slice a len cap] w fun e w' => e = .returned (.bool (okRows L)) ∧ Below w.heap.size w w' := by
  obtain ⟨hl, hwf, hc⟩ := h
  have HL := Lib.hid hl
  have HC := Lib.hid hc
  clear hl hwf hc
  go_enter Tryz.func63, Tryz.ntmps63
  go_wp2_with fail
  go_loopw [3] (fun i wr => ∃ k : Nat, i = .int .i64 k ∧ k ≤ len ∧ Hid (allOk (L.take k) = true) ∧ Hid (Below w.heap.size w wr)) (fun i _ => len - (intOf i).toNat)
  case atStart => exact ⟨0, rfl, Nat.zero_le _, rfl, Below.refl _ _⟩
  case round =>
    obtain ⟨k, rfl, hk, hok, hb⟩ := hrel
    by_cases hlt : k < len
    · obtain ⟨b, o, rfl, hbl, hc⟩ : ∃ b o : Nat, a = some ⟨b, o, none⟩ ∧ b < w.heap.size ∧ ∀ t, t < len → RowAt w b (o + t * 3) (L.getD t R.zero) := by
        rcases HC.out with h0 | h0
        · omega
        · exact h0
      obtain ⟨r, hr⟩ : ∃ r, r = L.getD k R.zero := ⟨_, rfl⟩
      have hat : RowAt wr b (o + k * 3) r := by rw [hr]; exact (hc k hlt).below hb.out hbl
      obtain ⟨c0, c1, c2⟩ := hat
      have HR := Lib.hid hr
      clear hr hc
      go_wp2_with fail
      refine (svalid r _).mono ?_
      rintro e w1 ⟨rfl, b1⟩
      have B1 := Lib.hid (hb.out.trans (b1.mono hb.out.size))
      clear b1
      cases hv : r.ok with
      | true =>
        go_wp2_with fail
        go_roundw
        case rel => exact ⟨k + 1, by go_num, by omega, by show _ = _; rw [allOk_take L k (by rw [HL.out]; exact hlt), hok.out, ← HR.out, hv]; rfl, B1⟩
        case measure => simp [intOf]; omega
      | false =>
        have hno : okRows L = false := by unfold okRows; rw [allOk_bad L k (by rw [HL.out]; exact hlt) (by rw [← HR.out]; exact hv), Bool.and_false]
        go_wp2_with fail
        go_ret
        exact ⟨by rw [hno]; rfl, B1.out⟩
    · have hkl : k = len := by omega
      have hall : okRows L = decide ((len : Int) ≤ 24) := by
        have : allOk L = true := by have := hok.out; rwa [hkl, ← HL.out, List.take_length] at this
        unfold okRows; rw [this, Bool.and_true, HL.out]
        simp; omega
      clear hkl
      have HA := Lib.hid hall
      clear hall
      go_wp2_with fail
      go_ret
      exact ⟨by rw [HA.out]; rfl, hb.out⟩
set_option maxRecDepth 100000 in
theorem stotal (a : Option Addr) (len cap : Nat) (L : List R) (w : World) (h : IsRows w a len L) (hlen : len ≤ 1000000000000) :
    Calls Tryz.prog 64 #[.slice a len cap] w fun e w' => e = .returned (.int .i64 (total L)) ∧ Below w.heap.size w w' := by
  have HW := Lib.hid h.wf
  obtain ⟨hl, -, hc⟩ := h
  have HL := Lib.hid hl
  have HC := Lib.hid hc
  clear hl hc
  go_enter Tryz.func64, Tryz.ntmps64
  go_wp2_with fail
  go_loopw [3, 4] (fun n i wr => ∃ (k : Nat) (v : Int), n = .int .i64 v ∧ i = .int .i64 k ∧ k ≤ len ∧ 0 ≤ v ∧ v ≤ 4 * k ∧ Hid (total (L.take k) = v) ∧ Hid (Below w.heap.size w wr)) (fun _ i _ => len - (intOf i).toNat)
  case atStart => exact ⟨0, 0, rfl, rfl, Nat.zero_le _, by omega, by omega, rfl, Below.refl _ _⟩
  case round =>
    obtain ⟨k, v, rfl, rfl, hk, hv0, hv1, hsum, hb⟩ := hrel
    by_cases hlt : k < len
    · obtain ⟨b, o, rfl, hbl, hc⟩ : ∃ b o : Nat, a = some ⟨b, o, none⟩ ∧ b < w.heap.size ∧ ∀ t, t < len → RowAt w b (o + t * 3) (L.getD t R.zero) := by
        rcases HC.out with h0 | h0
        · omega
        · exact h0
      obtain ⟨r, hr⟩ : ∃ r, r = L.getD k R.zero := ⟨_, rfl⟩
      have hat : RowAt wr b (o + k * 3) r := by rw [hr]; exact (hc k hlt).below hb.out hbl
      have hrw : r.wf := by rw [hr]; exact HW.out k hlt
      obtain ⟨c0, c1, c2⟩ := hat
      have HR := Lib.hid hr
      have HRW := Lib.hid hrw
      clear hr hc hrw
      go_wp2_with fail
      refine (scost r HRW.out _).mono ?_
      rintro e w1 ⟨rfl, b1⟩
      have B1 := Lib.hid (hb.out.trans (b1.mono hb.out.size))
      clear b1
      obtain ⟨x, hx⟩ : ∃ x, x = r.cost := ⟨_, rfl⟩
      have hx0 : 0 ≤ x ∧ x ≤ 4 := by rw [hx]; exact r.cost_range
      obtain ⟨hx0, hx4⟩ := hx0
      have HX := Lib.hid hx
      rw [← hx]
      clear hx
      go_wp2_with fail
      go_roundw
      case rel => exact ⟨k + 1, v + x, by go_num, by go_num, by omega, by omega, by omega, by show _ = _; rw [total_take L k (by rw [HL.out]; exact hlt), hsum.out, ← HR.out, HX.out], B1⟩
      case measure => simp [intOf]; omega
    · have hkl : k = len := by omega
      have hall : total L = v := by have := hsum.out; rwa [hkl, ← HL.out, List.take_length] at this
      clear hkl
      have HA := Lib.hid hall
      clear hall
      go_wp2_with fail
      go_ret
      exact ⟨by rw [HA.out]; rfl, hb.out⟩
end Go.Proofs.YtjdjceohlcimaaaGreatDoor
/- A region that draws its order, walked once in the order of its text, for a class of worlds of the prover's own: every operation yields one value in each world of the class and leaves a world of the class (the library's 'wp_region_quiet', met step by step); no function of the program. -/
namespace Go.Proofs.YtjdjceohlcimaaaGreatDoor
open Go Go.RowKit
theorem region_class {P : Program} {id : Nat} {Q : Exit → Act → World → Prop} {a : Act} {w : World} {l : List Oper} (C : World → Prop) (hm : P.follows .mixedOrders = true) (hB : Region.lexB .any l.toArray = true) (hC : C w.drew)
    (h : wpQuiet P l.toArray C (fun a' => ∀ w', C w' → Q .normal a' w') l a) : (Code.region id l.toArray true).wp P Q a w :=
  wp_region_quiet (C := C) hm hB hC (by simpa using h)
end Go.Proofs.YtjdjceohlcimaaaGreatDoor
/- The reference's IsValidPage, by contract. -/
namespace Go.Proofs.YtjdjceohlcimaaaGreatDoor
open Go.RowKit
set_option maxRecDepth 100000 in
theorem svalidpage (a : Option Addr) (n c : Nat) (p : List R) (w : World) (h : SeqIn rowRep w a n p) (hn : n ≤ 1000000000000) :
    Calls Tryz.prog 36 #[.agg #[.slice a n c]] w fun e w' => e = .returned (.bool (R.pageOk p)) ∧ Below w.heap.size w w' := by
  have b0 : Below w.heap.size w (w.alloc (.cells #[.slice a n c] 29)) := (Below.refl _ _).alloc (Nat.le_refl _) _
  have R0 := Lib.hid (rows_in (h.keep b0))
  have C0 := heap_alloc_new w (.cells #[.slice a n c] 29)
  have HC := Lib.hid C0
  have B0 := Lib.hid b0
  have hsz : w.heap.size < (w.alloc (.cells #[.slice a n c] 29)).heap.size := by simp
  have HV := Lib.hid (show R.pageOk p = (okRows p && decide (1 ≤ total p ∧ total p ≤ 8)) from rfl)
  have HR := Lib.hid (total_range p)
  clear b0 h C0
  go_enter Tryz.func36, Tryz.ntmps36
  go_wp2_with fail
  refine (sare a n c p _ R0.out (by omega)).mono ?_
  rintro e w1 ⟨rfl, b1⟩
  have q1 := (b1.block _ hsz).trans HC.out
  have d1 : w1.cell? ⟨w.heap.size, 0, none⟩ = some (.slice a n c) := by simp [World.cell?, q1]
  have R1 := Lib.hid (R0.out.keep b1)
  have B1 := Lib.hid (B0.out.trans (b1.mono B0.out.size))
  clear b1 q1
  cases hok : okRows p with
  | false =>
    have HF := Lib.hid (show R.pageOk p = false by rw [HV.out, hok]; rfl)
    clear hok
    go_wp2_with fail
    go_ret
    exact ⟨by rw [HF.out]; rfl, B1.out⟩
  | true =>
    have HF := Lib.hid (show R.pageOk p = decide (1 ≤ total p ∧ total p ≤ 8) by rw [HV.out, hok]; rfl)
    clear hok
    go_wp2_with fail
    refine (stotal a n c p _ R1.out (by omega)).mono ?_
    rintro e w2 ⟨rfl, b2⟩
    have B2 := Lib.hid (B1.out.trans (b2.mono B1.out.size))
    clear b2
    obtain ⟨T, hT⟩ : ∃ T, T = total p := ⟨_, rfl⟩
    rw [← hT] at HF ⊢
    clear hT
    go_wp2_with fail
    refine (sin T 1 8 _).mono ?_
    rintro e w3 ⟨rfl, rfl⟩
    obtain ⟨z, hz⟩ : ∃ z, z = decide (1 ≤ T ∧ T ≤ 8) := ⟨_, rfl⟩
    rw [← hz] at HF ⊢
    clear hz
    go_wp2_with fail
    go_ret
    exact ⟨by rw [HF.out]; rfl, B2.out⟩
end Go.Proofs.YtjdjceohlcimaaaGreatDoor
/- The reference's check of all pages, by contract. -/
namespace Go.Proofs.YtjdjceohlcimaaaGreatDoor
open Go.RowKit
set_option maxRecDepth 100000 in
theorem sallpages (a : Option Addr) (n c : Nat) (P : List (List R)) (w : World) (h : SeqIn pageRep w a n P) (hf : P.flatten.length ≤ 1000000000000) :
    Calls Tryz.prog 62 #[.slice a n c] w fun e w' => e = .returned (.bool (R.allPages P)) ∧ Below w.heap.size w w' := by
  have HL := Lib.hid h.1
  have hm := h.2.1
  unfold maxLen at hm
  have HI := Lib.hid h
  obtain ⟨N, hN⟩ : ∃ N, N = P.flatten.length := ⟨_, rfl⟩
  rw [← hN] at hf
  have HN := Lib.hid hN
  clear h hN
  go_enter Tryz.func62, Tryz.ntmps62
  go_wp2_with fail
  go_loopw [3] (fun i wr => ∃ t : Nat, i = .int .i64 t ∧ t ≤ n ∧ Hid (R.allPages (P.take t) = true) ∧ Hid (Below w.heap.size w wr)) (fun i _ => n - (RowKit.intOf i).toNat)
  case atStart => exact ⟨0, rfl, Nat.zero_le _, (show R.allPages (P.take 0) = true by simp [R.allPages]), Below.refl _ _⟩
  case round =>
    obtain ⟨t, rfl, ht, hok, hb⟩ := hrel
    by_cases hlt : t < n
    · have htl : t < P.length := by have := HL.out; omega
      have hp : P[t]? = some P[t] := by simp [htl]
      obtain ⟨b, o, d, k, m, rfl, hbl, hcell, hin, -⟩ := (HI.out.keep hb.out).at hp
      have hkn : k ≤ 1000000000000 := by
        have h1 := flat_mem P t htl
        rw [hin.1, ← HN.out] at h1
        omega
      have IN := Lib.hid hin
      have HT := Lib.hid (R.allPages_take htl)
      have HBAD := Lib.hid (R.allPages_bad t htl)
      obtain ⟨p, hpp⟩ : ∃ p, p = P[t] := ⟨_, rfl⟩
      rw [← hpp] at IN HT HBAD
      clear hin hp hpp
      go_wp2_with fail
      refine (svalidpage d k m p _ IN.out hkn).mono ?_
      rintro e w1 ⟨rfl, b1⟩
      have B1 := Lib.hid (hb.out.trans (b1.mono hb.out.size))
      clear b1
      cases hv : R.pageOk p with
      | false =>
        have HF := Lib.hid (HBAD.out hv)
        clear hv
        go_wp2_with fail
        go_ret
        exact ⟨by rw [HF.out]; rfl, B1.out⟩
      | true =>
        have HV := Lib.hid hv
        clear hv
        go_wp2_with fail
        go_roundw
        case rel => exact ⟨t + 1, by go_num, by omega, (by show _ = _; rw [HT.out, hok.out, HV.out]; rfl), B1⟩
        case measure => simp [RowKit.intOf]; omega
    · have hkl : t = n := by omega
      have hall : R.allPages P = true := by
        have := hok.out
        rw [hkl, List.take_of_length_le (by have := HL.out; omega)] at this
        exact this
      have HA := Lib.hid hall
      clear hall hkl
      go_wp2_with fail
      go_ret
      exact ⟨by rw [HA.out]; rfl, hb.out⟩
end Go.Proofs.YtjdjceohlcimaaaGreatDoor
/- The reference's CountPages, l6At and IsValidDisk, by contract. -/
namespace Go.Proofs.YtjdjceohlcimaaaGreatDoor
open Go.RowKit
set_option linter.unusedVariables false
theorem disk_len {w : World} {X : DiskD} {a : Option Addr} {n c : Nat} (h : diskRep.inn w X ((a, n, c), ())) : X.fFiles.length = n ∧ n ≤ maxLen := ⟨h.1.1.1, h.1.1.2.1⟩
theorem disk_in {w : World} {X : DiskD} {a : Option Addr} {n c : Nat} (h : diskRep.inn w X ((a, n, c), ())) : SeqIn fileRep w a n X.fFiles ∧ (a = none → c = 0) ∧ I64 X.fNextName := ⟨h.1.1, h.1.2, h.2.1⟩
set_option maxRecDepth 100000 in
theorem scountp (a : Option Addr) (n c : Nat) (X : DiskD) (w : World) (h : diskRep.inn w X ((a, n, c), ())) (hw : wtDisk X ≤ 1000000000) :
    Calls Tryz.prog 37 #[.agg #[.slice a n c, .int .i64 X.fNextName]] w fun e w' => e = .returned (.int .i64 (DiskD.count X.fFiles : Nat)) ∧ Below w.heap.size w w' := by
  obtain ⟨W, hW⟩ : ∃ W, W = w.alloc (.cells #[.slice a n c, .int .i64 X.fNextName] 26) := ⟨_, rfl⟩
  have hb : Below w.heap.size w W := by rw [hW]; exact (Below.refl _ _).alloc (Nat.le_refl _) _
  have HB := Lib.hid hb
  have HI := Lib.hid (h.keep hb).1.1
  have HL := Lib.hid (disk_len h).1
  have hnm := (disk_len h).2
  unfold maxLen at hnm
  have HC := Lib.hid (Nat.le_trans (DiskD.count_wt X.fFiles) (show wtFiles X.fFiles ≤ 1000000000 from hw))
  have c0 : W.cell? ⟨w.heap.size, 0, none⟩ = some (.slice a n c) := by rw [hW]; simp
  clear h hb
  go_enter Tryz.func37, Tryz.ntmps37
  go_wp2_with fail
  rw [← hW]
  clear hW
  go_loopw [3, 4] (fun q i wr => ∃ (t m : Nat), q = .int .i64 m ∧ i = .int .i64 t ∧ t ≤ n ∧ Hid (m = DiskD.count (X.fFiles.take t)) ∧ Hid (W = wr)) (fun _ i _ => n - (intOf i).toNat)
  case atStart => exact ⟨0, 0, rfl, rfl, Nat.zero_le _, rfl, rfl⟩
  case round =>
    obtain ⟨t, m, rfl, rfl, ht, hm, hwr⟩ := hrel
    obtain rfl := hwr.out
    by_cases hlt : t < n
    · have htl : t < X.fFiles.length := by have := HL.out; omega
      have hp : X.fFiles[t]? = some X.fFiles[t] := by simp [htl]
      obtain ⟨b, o, hd, rfl, hbl, hce, hin⟩ := HI.out.el hp
      have hnx := DiskD.count_next X.fFiles t htl
      have hle := DiskD.count_take X.fFiles (t + 1)
      have hcc := HC.out
      obtain ⟨f, hf⟩ : ∃ f, f = X.fFiles[t] := ⟨_, rfl⟩
      rw [← hf] at hce hin hnx
      obtain ⟨x0, x1, x2, x3⟩ := f
      obtain ⟨⟨a1, n1, k1⟩, ⟨⟩⟩ := hd
      obtain ⟨r0, ⟨h1, hc1⟩, r2, -⟩ := hin
      have c1 : W.cell? ⟨b, o + t * 4 + 1, none⟩ = some (.slice a1 n1 k1) := hce 1 _ rfl
      have hn1 : x1.length = n1 := h1.1
      have hnx' : DiskD.count (X.fFiles.take (t + 1)) = m + n1 := by rw [hnx, ← hm.out, ← hn1]
      have hsm : m + n1 ≤ 1000000000 := by omega
      have HNX := Lib.hid hnx'
      clear hf hp hce h1 hc1 r0 r2 hnx hle hcc hn1 hnx'
      go_wp2_with fail
      go_roundw
      case rel => exact ⟨t + 1, m + n1, by go_num, by go_num, by omega, HNX.out.symm, trivial⟩
      case measure => simp [intOf]; omega
    · have hk : X.fFiles.take t = X.fFiles := List.take_of_length_le (by have := HL.out; omega)
      rw [hk] at hm
      clear hk
      go_wp2_with fail
      go_ret
      exact ⟨by rw [hm.out]; rfl, HB.out⟩
set_option maxRecDepth 100000 in
theorem sat (a : Option Addr) (n c : Nat) (X : DiskD) (name : Int) (w : World) (h : diskRep.inn w X ((a, n, c), ())) :
    Calls Tryz.prog 34 #[.agg #[.slice a n c, .int .i64 X.fNextName], .int .i64 name] w fun e w' => e = .returned (.int .i64 (DiskD.atI X.fFiles name)) ∧ Below w.heap.size w w' := by
  obtain ⟨W, hW⟩ : ∃ W, W = w.alloc (.cells #[.slice a n c, .int .i64 X.fNextName] 26) := ⟨_, rfl⟩
  have hb : Below w.heap.size w W := by rw [hW]; exact (Below.refl _ _).alloc (Nat.le_refl _) _
  have HB := Lib.hid hb
  have HI := Lib.hid (h.keep hb).1.1
  have HL := Lib.hid (disk_len h).1
  have hnm := (disk_len h).2
  unfold maxLen at hnm
  have c0 : W.cell? ⟨w.heap.size, 0, none⟩ = some (.slice a n c) := by rw [hW]; simp
  clear h hb
  go_enter Tryz.func34, Tryz.ntmps34
  go_wp2_with fail
  rw [← hW]
  clear hW
  go_loopw [5] (fun i wr => ∃ (t : Nat), i = .int .i64 t ∧ t ≤ n ∧ Hid (∀ (s : Nat) (g : FileD), s < t → X.fFiles[s]? = some g → g.fName ≠ name) ∧ Hid (W = wr)) (fun i _ => n - (intOf i).toNat)
  case atStart => exact ⟨0, rfl, Nat.zero_le _, fun s g hs => absurd hs (Nat.not_lt_zero _), rfl⟩
  case round =>
    obtain ⟨t, rfl, ht, hno, hwr⟩ := hrel
    obtain rfl := hwr.out
    by_cases hlt : t < n
    · have htl : t < X.fFiles.length := by have := HL.out; omega
      obtain ⟨f, hf⟩ : ∃ f, X.fFiles[t]? = some f := ⟨X.fFiles[t], by simp [htl]⟩
      obtain ⟨b, o, hd, rfl, hbl, hce, hin⟩ := HI.out.el hf
      have HF := Lib.hid hf
      obtain ⟨x0, x1, x2, x3⟩ := f
      obtain ⟨⟨a1, n1, k1⟩, ⟨⟩⟩ := hd
      have c1 : W.cell? ⟨b, o + t * 4, none⟩ = some (.int .i64 x0) := hce 0 _ rfl
      clear hf hce hin
      by_cases he : x0 = name
      · have HA := Lib.hid (show DiskD.atI X.fFiles name = t by unfold DiskD.atI; rw [DiskD.at_hit HF.out he hno.out])
        go_wp2_with fail
        go_ret
        exact ⟨by rw [HA.out]; rfl, HB.out⟩
      · have hne : (x0 == name) = false := by simpa using he
        have HE := Lib.hid he
        clear he
        go_wp2_with fail
        go_roundw
        case rel =>
          refine ⟨t + 1, by go_num, by omega, fun s g hs hg => ?_, trivial⟩
          rcases Nat.lt_or_ge s t with h1 | h1
          · exact hno.out s g h1 hg
          · obtain rfl : s = t := by omega
            rw [HF.out] at hg
            cases hg
            exact HE.out
        case measure => simp [intOf]; omega
    · have HA := Lib.hid (show DiskD.atI X.fFiles name = -1 by
        unfold DiskD.atI
        rw [DiskD.at_miss fun s g hg => hno.out s g (by have := idx_lt hg; have := HL.out; omega) hg])
      go_wp2_with fail
      go_ret
      exact ⟨by rw [HA.out]; rfl, HB.out⟩
theorem ok_next {nx : Int} {F : List FileD} {t : Nat} (h : ∀ s, s < t → DiskD.okAt nx F s = true) (ht : DiskD.okAt nx F t = true) : ∀ s, s < t + 1 → DiskD.okAt nx F s = true := fun s hs => by
  rcases Nat.lt_or_ge s t with h1 | h1
  · exact h s h1
  · obtain rfl : s = t := by omega
    exact ht
theorem low_pos {nx : Int} {F : List FileD} : ∀ (t : Nat), t ≤ F.length → (∀ s, s < t → DiskD.okAt nx F s = true) → 0 ≤ DiskD.low F t
  | 0, _, _ => Int.le_refl _
  | t + 1, ht, h => by
    have hl : t < F.length := by omega
    have hf : F[t]? = some F[t] := by simp [hl]
    have h1 := low_pos t (by omega) fun s hs => h s (by omega)
    have h2 := h t (Nat.lt_succ_self t)
    rw [DiskD.okAt_some hf, Bool.and_eq_true, decide_eq_true_eq] at h2
    rw [DiskD.low_next hf]
    omega
end Go.Proofs.YtjdjceohlcimaaaGreatDoor
/- The reference's IsValidDisk, by contract. -/
namespace Go.Proofs.YtjdjceohlcimaaaGreatDoor
open Go.RowKit
set_option linter.unusedVariables false
def prevOk (q : Option Int) (x : Int) : Bool := match q with | some q => decide (q < x) | none => true
def passS (m : Int) (p : Option Int) (f : FileD) : Bool := decide (0 ≤ f.fName ∧ f.fName ≤ m) && prevOk p f.fName && R.allPages f.fPages && (f.fSealed || decide (f.fChecksum = 0))
theorem passS_ok {nx : Int} {F : List FileD} {t : Nat} {f : FileD} (hf : F[t]? = some f) (hall : ∀ s, s < t → DiskD.okAt nx F s = true) (p : Option Int) (hp : (t = 0 ∧ p = none) ∨ ∃ g u, t = u + 1 ∧ F[u]? = some g ∧ p = some g.fName) : passS (nx - 1) p f = DiskD.okAt nx F t := by
  have h0 := low_pos t (Nat.le_of_lt (idx_lt hf)) hall
  rw [DiskD.okAt_some hf]
  unfold passS FileD.ok prevOk
  rw [Bool.and_assoc, Bool.and_assoc]
  rw [← Bool.and_assoc (decide _)]
  congr 1
  rcases hp with ⟨rfl, rfl⟩ | ⟨g, u, rfl, hg, rfl⟩
  · simp only [Bool.and_true, DiskD.low]
    exact decide_eq_decide.2 (by omega)
  · rw [DiskD.low_next hg] at h0 ⊢
    rw [← Bool.decide_and]
    exact decide_eq_decide.2 (by omega)
set_option maxRecDepth 100000 in
set_option maxHeartbeats 2000000 in
theorem sokdisk (a : Option Addr) (n c : Nat) (X : DiskD) (w : World) (h : diskRep.inn w X ((a, n, c), ())) (hw : wtDisk X ≤ 1000000000) :
    Calls Tryz.prog 35 #[.agg #[.slice a n c, .int .i64 X.fNextName]] w fun e w' => e = .returned (.bool (DiskD.okD X)) ∧ Below w.heap.size w w' := by
  obtain ⟨W, hW⟩ : ∃ W, W = w.alloc (.cells #[.slice a n c, .int .i64 X.fNextName] 26) := ⟨_, rfl⟩
  have hb : Below w.heap.size w W := by rw [hW]; exact (Below.refl _ _).alloc (Nat.le_refl _) _
  have hk : W.heap[w.heap.size]? = some (.cells #[.slice a n c, .int .i64 X.fNextName] 26 (0, 0)) := by rw [hW]; exact heap_alloc_new _ _
  have HK := Lib.hid hk
  have HB := Lib.hid hb
  have HX := Lib.hid (h.keep hb)
  have HI := Lib.hid (h.keep hb).1.1
  have HL := Lib.hid (disk_len h).1
  have HW := Lib.hid hw
  have hnm := (disk_len h).2
  unfold maxLen at hnm
  obtain ⟨nx, hnx⟩ : ∃ nx, nx = X.fNextName := ⟨_, rfl⟩
  rw [← hnx] at hW hk HK ⊢
  have HNX := Lib.hid hnx
  obtain ⟨m, hm⟩ : ∃ m, wrap64 (nx - 1) = m := ⟨_, rfl⟩
  have HM := Lib.hid hm
  clear h hb hk hnx hw
  go_enter Tryz.func35, Tryz.ntmps35
  go_wp2_with fail
  rw [← hW]
  clear hW
  go_loopw [3] (fun i wr => ∃ (t : Nat), i = .int .i64 t ∧ t ≤ n ∧ Hid ((0 ≤ nx ∧ nx ≤ 1000) → ∀ s, s < t → DiskD.okAt nx X.fFiles s = true) ∧ Hid (Below W.heap.size W wr)) (fun i _ => n - (intOf i).toNat)
  case atStart => exact ⟨0, rfl, Nat.zero_le _, fun _ s hs => absurd hs (Nat.not_lt_zero _), Below.refl _ _⟩
  case round =>
    obtain ⟨t, rfl, ht, hall, hb⟩ := hrel
    have c0 : wr.cell? ⟨w.heap.size, 0, none⟩ = some (.slice a n c) := (hb.out.cell (lt_of_block HK.out)).trans (box_cell HK.out 0 _ rfl)
    have c1 : wr.cell? ⟨w.heap.size, 1, none⟩ = some (.int .i64 nx) := (hb.out.cell (lt_of_block HK.out)).trans (box_cell HK.out 1 _ rfl)
    by_cases hlt : t < n
    · have htl : t < X.fFiles.length := by have := HL.out; omega
      obtain ⟨f, hf⟩ : ∃ f, X.fFiles[t]? = some f := ⟨X.fFiles[t], by simp [htl]⟩
      obtain ⟨b, o, hd, rfl, hbl, hce, hin⟩ := HI.out.el hf
      have HF := Lib.hid hf
      have HFLAT : Hid (f.fPages.flatten.length ≤ 1000000000) := by
        have h1 := wt_file_at X.fFiles t htl
        have h2 := HW.out
        have h3 : X.fFiles[t] = f := by rw [List.getElem?_eq_getElem htl] at hf; exact Option.some.inj hf
        rw [h3] at h1
        have h4 : f.fPages.flatten.length ≤ wtFile f := flat_wt f.fPages
        have h5 : wtDisk X = wtFiles X.fFiles := rfl
        exact Lib.hid (by omega)
      obtain ⟨x0, x1, x2, x3⟩ := f
      obtain ⟨⟨a1, n1, k1⟩, ⟨⟩⟩ := hd
      obtain ⟨r0, ⟨h1, hc1⟩, r2, -⟩ := hin
      have IN := Lib.hid h1
      have HC : Hid (∀ v, Below W.heap.size W v → v.cell? ⟨w.heap.size, 0, none⟩ = some (.slice (some ⟨b, o, none⟩) n c) ∧ v.cell? ⟨w.heap.size, 1, none⟩ = some (.int .i64 nx) ∧
          v.cell? ⟨b, o + t * 4, none⟩ = some (.int .i64 x0) ∧ v.cell? ⟨b, o + t * 4 + 1, none⟩ = some (.slice a1 n1 k1) ∧ v.cell? ⟨b, o + t * 4 + 2, none⟩ = some (.int .i64 x2) ∧ v.cell? ⟨b, o + t * 4 + 3, none⟩ = some (.bool x3)) := Lib.hid fun v hv =>
        ⟨(hv.cell (lt_of_block HK.out)).trans (box_cell HK.out 0 _ rfl), (hv.cell (lt_of_block HK.out)).trans (box_cell HK.out 1 _ rfl), (hv.cell hbl).trans (hce 0 _ rfl), (hv.cell hbl).trans (hce 1 _ rfl), (hv.cell hbl).trans (hce 2 _ rfl), (hv.cell hbl).trans (hce 3 _ rfl)⟩
      have CI : Hid (∀ v, Below W.heap.size W v → Calls Tryz.prog 61 #[.int .i64 x0, .int .i64 0, .int .i64 m] v fun e v' => e = .returned (.bool (decide (0 ≤ x0 ∧ x0 ≤ m))) ∧ Below W.heap.size W v') := Lib.hid fun v hv => (sin x0 0 m v).mono fun e v' ⟨he, hv'⟩ => ⟨he, by rw [← hv']; exact hv⟩
      have CP : Hid (∀ v, Below W.heap.size W v → Calls Tryz.prog 62 #[.slice a1 n1 k1] v fun e v' => e = .returned (.bool (R.allPages x1)) ∧ Below W.heap.size W v') := Lib.hid fun v hv => (sallpages a1 n1 k1 x1 v (IN.out.keep hv) (by have := HFLAT.out; simp only at this; omega)).mono fun e v' ⟨he, hv'⟩ => ⟨he, hv.trans (hv'.mono hv.size)⟩
      obtain ⟨q, hq⟩ : ∃ q : Option Int, (t = 0 ∧ q = none) ∨ ∃ g u, t = u + 1 ∧ X.fFiles[u]? = some g ∧ q = some g.fName := by
        rcases Nat.eq_zero_or_pos t with h0 | h0
        · exact ⟨none, .inl ⟨h0, rfl⟩⟩
        · have h3 : X.fFiles[t - 1]? = some X.fFiles[t - 1] := by simp
          exact ⟨_, .inr ⟨X.fFiles[t - 1], t - 1, by omega, h3, rfl⟩⟩
      have hno : passS m q ⟨x0, x1, x2, x3⟩ = false → DiskD.okD X = false := fun hpass => by
        by_cases hg : 0 ≤ nx ∧ nx ≤ 1000
        · have h6 := passS_ok HF.out (nx := nx) (hall.out hg) q hq
          rw [show nx - 1 = m by rw [← HM.out]; unfold wrap64; omega, hpass] at h6
          exact DiskD.okD_bad (idx_lt HF.out) (by rw [← HNX.out]; exact h6.symm)
        · unfold DiskD.okD
          rw [decide_eq_false (by rw [← HNX.out]; exact hg), Bool.false_and, Bool.false_and]
      have hyes : passS m q ⟨x0, x1, x2, x3⟩ = true → ((0 ≤ nx ∧ nx ≤ 1000) → ∀ s, s < t + 1 → DiskD.okAt nx X.fFiles s = true) := fun hpass hg => by
        have h6 := passS_ok HF.out (nx := nx) (hall.out hg) q hq
        rw [show nx - 1 = m by rw [← HM.out]; unfold wrap64; omega, hpass] at h6
        exact ok_next (hall.out hg) h6.symm
      have no := Lib.hid hno
      have yes := Lib.hid hyes
      have HQ := Lib.hid hq
      clear hno hyes hq h1 hce hf r0 r2 hc1
      cases hA : decide (0 ≤ x0 ∧ x0 ≤ m) with
      | false =>
        rw [hA] at CI
        have HA := Lib.hid hA
        clear hA
        have HBAD := Lib.hid (no.out (by unfold passS; rw [HA.out]; rfl))
        go_wp2_with fail
        refine region_class (Below W.heap.size W) (by kernel_rfl) (by kernel_rfl) hb.out.drew ?_
        repeat (first | go_big_quiet_skip | (go_big_quiet_want; go_big_quiet_op; first | go_big_quiet_on | (apply Exists.intro; refine ⟨fun v hv => ?_, ?_⟩; (focus (first | exact rfl | ((first | (go_at_call 61; exact CI.out v hv) | (go_at_call 62; exact CP.out v hv)); done) | ((obtain ⟨c0, c1, c2, c3, c4, c5⟩ := HC.out v hv); go_simp; done) | ((obtain ⟨c0, c1, c2, c3, c4, c5⟩ := HC.out v hv); go_simp; exact rfl) | ((obtain ⟨c0, c1, c2, c3, c4, c5⟩ := HC.out v hv); go_simp; exact ⟨rfl, rfl⟩))); go_big_quiet_on)))
        refine wpQuiet_nil ?_
        intro v hv
        have HV := Lib.hid hv
        clear hv
        go_wp2_with fail
        go_ret
        exact ⟨by rw [HBAD.out]; rfl, HB.out.trans (HV.out.mono HB.out.size)⟩
      | true =>
        rw [hA] at CI
        have HA := Lib.hid hA
        clear hA
        by_cases hp0 : 0 < t
        · have hq2 : ∃ g, X.fFiles[t - 1]? = some g ∧ q = some g.fName := by
            rcases HQ.out with ⟨h1, -⟩ | ⟨g, u, h1, h2, h3⟩
            · omega
            · rw [show t - 1 = u by omega]; exact ⟨g, h2, h3⟩
          obtain ⟨g, hg, hqg⟩ := hq2
          obtain ⟨b', o', hd', e', hbl', hce', -⟩ := HI.out.el hg
          injection e' with e'
          injection e' with e1 e2 _
          subst e1 e2
          obtain ⟨y0, hy0⟩ : ∃ y, y = g.fName := ⟨_, rfl⟩
          have HP : Hid (∀ v, Below W.heap.size W v → v.cell? ⟨b, o + (t - 1) * 4, none⟩ = some (.int .i64 y0)) := Lib.hid fun v hv => by rw [hy0]; exact (hv.cell hbl).trans (hce' 0 _ rfl)
          rw [← hy0] at hqg
          have HQG := Lib.hid hqg
          have hi1 : ((t : Int) - 1).toNat = t - 1 := by omega
          have hi2 : 0 ≤ (t : Int) - 1 := by omega
          have hi3 : (t : Int) - 1 < n := by omega
          clear hce' hg hqg hy0
          by_cases hle : x0 ≤ y0
          · have HLE := Lib.hid (decide_eq_false (show ¬ y0 < x0 by omega))
            have HBAD := Lib.hid (no.out (by unfold passS; rw [HQG.out]; show (_ && decide (y0 < x0) && _ && _) = _; rw [HLE.out, Bool.and_false]; rfl))
            go_wp2_with fail
            refine region_class (Below W.heap.size W) (by kernel_rfl) (by kernel_rfl) hb.out.drew ?_
            repeat (first | go_big_quiet_skip | (go_big_quiet_want; go_big_quiet_op; first | go_big_quiet_on | (apply Exists.intro; refine ⟨fun v hv => ?_, ?_⟩; (focus (first | exact rfl | ((first | (go_at_call 61; exact CI.out v hv) | (go_at_call 62; exact CP.out v hv)); done) | ((obtain ⟨c0, c1, c2, c3, c4, c5⟩ := HC.out v hv; have c6 := HP.out v hv); go_simp; done) | ((obtain ⟨c0, c1, c2, c3, c4, c5⟩ := HC.out v hv; have c6 := HP.out v hv); go_simp; exact rfl) | ((obtain ⟨c0, c1, c2, c3, c4, c5⟩ := HC.out v hv; have c6 := HP.out v hv); go_simp; exact ⟨rfl, rfl⟩))); go_big_quiet_on)))
            refine wpQuiet_nil ?_
            intro v hv
            have HV := Lib.hid hv
            clear hv
            go_wp2_with fail
            go_ret
            exact ⟨by rw [HBAD.out]; rfl, HB.out.trans (HV.out.mono HB.out.size)⟩
          · have hled : decide (x0 ≤ y0) = false := decide_eq_false hle
            have hled : decide (x0 ≤ y0) = false := decide_eq_false hle
            have HLE : Hid (prevOk q x0 = true) := Lib.hid (by rw [HQG.out]; exact decide_eq_true (show y0 < x0 by omega))
            cases hP : R.allPages x1 with
            | false =>
              rw [hP] at CP
              have HPG := Lib.hid hP
              clear hP
              have HBAD := Lib.hid (no.out (by unfold passS; rw [HPG.out, Bool.and_false]; rfl))
              go_wp2_with fail
              refine region_class (Below W.heap.size W) (by kernel_rfl) (by kernel_rfl) hb.out.drew ?_
              repeat (first | go_big_quiet_skip | (go_big_quiet_want; go_big_quiet_op; first | go_big_quiet_on | (apply Exists.intro; refine ⟨fun v hv => ?_, ?_⟩; (focus (first | exact rfl | ((first | (go_at_call 61; exact CI.out v hv) | (go_at_call 62; exact CP.out v hv)); done) | ((obtain ⟨c0, c1, c2, c3, c4, c5⟩ := HC.out v hv; have c6 := HP.out v hv); go_simp; done) | ((obtain ⟨c0, c1, c2, c3, c4, c5⟩ := HC.out v hv; have c6 := HP.out v hv); go_simp; exact rfl) | ((obtain ⟨c0, c1, c2, c3, c4, c5⟩ := HC.out v hv; have c6 := HP.out v hv); go_simp; exact ⟨rfl, rfl⟩))); go_big_quiet_on)))
              refine wpQuiet_nil ?_
              intro v hv
              have HV := Lib.hid hv
              clear hv
              go_wp2_with fail
              go_ret
              exact ⟨by rw [HBAD.out]; rfl, HB.out.trans (HV.out.mono HB.out.size)⟩
            | true =>
              rw [hP] at CP
              have HPG := Lib.hid hP
              clear hP
              have HPS : Hid (passS m q ⟨x0, x1, x2, x3⟩ = (x3 || decide (x2 = 0))) := Lib.hid (by unfold passS; rw [HA.out, HPG.out, HLE.out]; rfl)
              cases x3 with
              | true =>
                have HGOOD := Lib.hid (yes.out (HPS.out))
                go_wp2_with fail
                refine region_class (Below W.heap.size W) (by kernel_rfl) (by kernel_rfl) hb.out.drew ?_
                repeat (first | go_big_quiet_skip | (go_big_quiet_want; go_big_quiet_op; first | go_big_quiet_on | (apply Exists.intro; refine ⟨fun v hv => ?_, ?_⟩; (focus (first | exact rfl | ((first | (go_at_call 61; exact CI.out v hv) | (go_at_call 62; exact CP.out v hv)); done) | ((obtain ⟨c0, c1, c2, c3, c4, c5⟩ := HC.out v hv; have c6 := HP.out v hv); go_simp; done) | ((obtain ⟨c0, c1, c2, c3, c4, c5⟩ := HC.out v hv; have c6 := HP.out v hv); go_simp; exact rfl) | ((obtain ⟨c0, c1, c2, c3, c4, c5⟩ := HC.out v hv; have c6 := HP.out v hv); go_simp; exact ⟨rfl, rfl⟩))); go_big_quiet_on)))
                refine wpQuiet_nil ?_
                intro v hv
                have HV := Lib.hid hv
                clear hv
                go_wp2_with fail
                go_roundw
                case rel => exact ⟨t + 1, by go_num, by omega, HGOOD.out, HV⟩
                case measure => simp [intOf]; omega
              | false =>
                by_cases hz : x2 = 0
                · subst hz
                  have HGOOD := Lib.hid (yes.out (HPS.out))
                  go_wp2_with fail
                  refine region_class (Below W.heap.size W) (by kernel_rfl) (by kernel_rfl) hb.out.drew ?_
                  repeat (first | go_big_quiet_skip | (go_big_quiet_want; go_big_quiet_op; first | go_big_quiet_on | (apply Exists.intro; refine ⟨fun v hv => ?_, ?_⟩; (focus (first | exact rfl | ((first | (go_at_call 61; exact CI.out v hv) | (go_at_call 62; exact CP.out v hv)); done) | ((obtain ⟨c0, c1, c2, c3, c4, c5⟩ := HC.out v hv; have c6 := HP.out v hv); go_simp; done) | ((obtain ⟨c0, c1, c2, c3, c4, c5⟩ := HC.out v hv; have c6 := HP.out v hv); go_simp; exact rfl) | ((obtain ⟨c0, c1, c2, c3, c4, c5⟩ := HC.out v hv; have c6 := HP.out v hv); go_simp; exact ⟨rfl, rfl⟩))); go_big_quiet_on)))
                  refine wpQuiet_nil ?_
                  intro v hv
                  have HV := Lib.hid hv
                  clear hv
                  go_wp2_with fail
                  go_roundw
                  case rel => exact ⟨t + 1, by go_num, by omega, HGOOD.out, HV⟩
                  case measure => simp [intOf]; omega
                · have hne : (x2 != 0) = true := by simpa using hz
                  have HZ := Lib.hid (decide_eq_false hz)
                  clear hz
                  have HBAD := Lib.hid (no.out (by rw [HPS.out, HZ.out]; rfl))
                  go_wp2_with fail
                  refine region_class (Below W.heap.size W) (by kernel_rfl) (by kernel_rfl) hb.out.drew ?_
                  repeat (first | go_big_quiet_skip | (go_big_quiet_want; go_big_quiet_op; first | go_big_quiet_on | (apply Exists.intro; refine ⟨fun v hv => ?_, ?_⟩; (focus (first | exact rfl | ((first | (go_at_call 61; exact CI.out v hv) | (go_at_call 62; exact CP.out v hv)); done) | ((obtain ⟨c0, c1, c2, c3, c4, c5⟩ := HC.out v hv; have c6 := HP.out v hv); go_simp; done) | ((obtain ⟨c0, c1, c2, c3, c4, c5⟩ := HC.out v hv; have c6 := HP.out v hv); go_simp; exact rfl) | ((obtain ⟨c0, c1, c2, c3, c4, c5⟩ := HC.out v hv; have c6 := HP.out v hv); go_simp; exact ⟨rfl, rfl⟩))); go_big_quiet_on)))
                  refine wpQuiet_nil ?_
                  intro v hv
                  have HV := Lib.hid hv
                  clear hv
                  go_wp2_with fail
                  go_ret
                  exact ⟨by rw [HBAD.out]; rfl, HB.out.trans (HV.out.mono HB.out.size)⟩
        · have HLE : Hid (prevOk q x0 = true) := Lib.hid (by
            rcases HQ.out with ⟨-, h1⟩ | ⟨g, u, h1, h2, h3⟩
            · rw [h1]; rfl
            · omega)
          cases hP : R.allPages x1 with
          | false =>
            rw [hP] at CP
            have HPG := Lib.hid hP
            clear hP
            have HBAD := Lib.hid (no.out (by unfold passS; rw [HPG.out, Bool.and_false]; rfl))
            go_wp2_with fail
            refine region_class (Below W.heap.size W) (by kernel_rfl) (by kernel_rfl) hb.out.drew ?_
            repeat (first | go_big_quiet_skip | (go_big_quiet_want; go_big_quiet_op; first | go_big_quiet_on | (apply Exists.intro; refine ⟨fun v hv => ?_, ?_⟩; (focus (first | exact rfl | ((first | (go_at_call 61; exact CI.out v hv) | (go_at_call 62; exact CP.out v hv)); done) | ((obtain ⟨c0, c1, c2, c3, c4, c5⟩ := HC.out v hv); go_simp; done) | ((obtain ⟨c0, c1, c2, c3, c4, c5⟩ := HC.out v hv); go_simp; exact rfl) | ((obtain ⟨c0, c1, c2, c3, c4, c5⟩ := HC.out v hv); go_simp; exact ⟨rfl, rfl⟩))); go_big_quiet_on)))
            refine wpQuiet_nil ?_
            intro v hv
            have HV := Lib.hid hv
            clear hv
            go_wp2_with fail
            go_ret
            exact ⟨by rw [HBAD.out]; rfl, HB.out.trans (HV.out.mono HB.out.size)⟩
          | true =>
            rw [hP] at CP
            have HPG := Lib.hid hP
            clear hP
            have HPS : Hid (passS m q ⟨x0, x1, x2, x3⟩ = (x3 || decide (x2 = 0))) := Lib.hid (by unfold passS; rw [HA.out, HPG.out, HLE.out]; rfl)
            cases x3 with
            | true =>
              have HGOOD := Lib.hid (yes.out (HPS.out))
              go_wp2_with fail
              refine region_class (Below W.heap.size W) (by kernel_rfl) (by kernel_rfl) hb.out.drew ?_
              repeat (first | go_big_quiet_skip | (go_big_quiet_want; go_big_quiet_op; first | go_big_quiet_on | (apply Exists.intro; refine ⟨fun v hv => ?_, ?_⟩; (focus (first | exact rfl | ((first | (go_at_call 61; exact CI.out v hv) | (go_at_call 62; exact CP.out v hv)); done) | ((obtain ⟨c0, c1, c2, c3, c4, c5⟩ := HC.out v hv); go_simp; done) | ((obtain ⟨c0, c1, c2, c3, c4, c5⟩ := HC.out v hv); go_simp; exact rfl) | ((obtain ⟨c0, c1, c2, c3, c4, c5⟩ := HC.out v hv); go_simp; exact ⟨rfl, rfl⟩))); go_big_quiet_on)))
              refine wpQuiet_nil ?_
              intro v hv
              have HV := Lib.hid hv
              clear hv
              go_wp2_with fail
              go_roundw
              case rel => exact ⟨t + 1, by go_num, by omega, HGOOD.out, HV⟩
              case measure => simp [intOf]; omega
            | false =>
              by_cases hz : x2 = 0
              · subst hz
                have HGOOD := Lib.hid (yes.out (HPS.out))
                go_wp2_with fail
                refine region_class (Below W.heap.size W) (by kernel_rfl) (by kernel_rfl) hb.out.drew ?_
                repeat (first | go_big_quiet_skip | (go_big_quiet_want; go_big_quiet_op; first | go_big_quiet_on | (apply Exists.intro; refine ⟨fun v hv => ?_, ?_⟩; (focus (first | exact rfl | ((first | (go_at_call 61; exact CI.out v hv) | (go_at_call 62; exact CP.out v hv)); done) | ((obtain ⟨c0, c1, c2, c3, c4, c5⟩ := HC.out v hv); go_simp; done) | ((obtain ⟨c0, c1, c2, c3, c4, c5⟩ := HC.out v hv); go_simp; exact rfl) | ((obtain ⟨c0, c1, c2, c3, c4, c5⟩ := HC.out v hv); go_simp; exact ⟨rfl, rfl⟩))); go_big_quiet_on)))
                refine wpQuiet_nil ?_
                intro v hv
                have HV := Lib.hid hv
                clear hv
                go_wp2_with fail
                go_roundw
                case rel => exact ⟨t + 1, by go_num, by omega, HGOOD.out, HV⟩
                case measure => simp [intOf]; omega
              · have hne : (x2 != 0) = true := by simpa using hz
                have HZ := Lib.hid (decide_eq_false hz)
                clear hz
                have HBAD := Lib.hid (no.out (by rw [HPS.out, HZ.out]; rfl))
                go_wp2_with fail
                refine region_class (Below W.heap.size W) (by kernel_rfl) (by kernel_rfl) hb.out.drew ?_
                repeat (first | go_big_quiet_skip | (go_big_quiet_want; go_big_quiet_op; first | go_big_quiet_on | (apply Exists.intro; refine ⟨fun v hv => ?_, ?_⟩; (focus (first | exact rfl | ((first | (go_at_call 61; exact CI.out v hv) | (go_at_call 62; exact CP.out v hv)); done) | ((obtain ⟨c0, c1, c2, c3, c4, c5⟩ := HC.out v hv); go_simp; done) | ((obtain ⟨c0, c1, c2, c3, c4, c5⟩ := HC.out v hv); go_simp; exact rfl) | ((obtain ⟨c0, c1, c2, c3, c4, c5⟩ := HC.out v hv); go_simp; exact ⟨rfl, rfl⟩))); go_big_quiet_on)))
                refine wpQuiet_nil ?_
                intro v hv
                have HV := Lib.hid hv
                clear hv
                go_wp2_with fail
                go_ret
                exact ⟨by rw [HBAD.out]; rfl, HB.out.trans (HV.out.mono HB.out.size)⟩
    · have htn : t = n := by omega
      clear c0
      cases hN : decide (0 ≤ nx ∧ nx ≤ 1000) with
      | false =>
        have HV := Lib.hid (show DiskD.okD X = false by unfold DiskD.okD; rw [← HNX.out, hN]; rfl)
        have CS : Hid (∀ v, Below W.heap.size W v → Calls Tryz.prog 61 #[.int .i64 nx, .int .i64 0, .int .i64 1000] v fun e v' => e = .returned (.bool false) ∧ Below W.heap.size W v') := Lib.hid fun v hv => (sin nx 0 1000 v).mono fun e v' ⟨he, hv'⟩ => ⟨by rw [he, hN], by rw [← hv']; exact hv⟩
        clear hN
        have c0 : wr.cell? ⟨w.heap.size, 0, none⟩ = some (.slice a n c) := (hb.out.cell (lt_of_block HK.out)).trans (box_cell HK.out 0 _ rfl)
        go_wp2_with fail
        refine (CS.out _ hb.out).mono ?_
        rintro e w1 ⟨rfl, b1⟩
        have B1 := Lib.hid b1
        clear b1
        go_wp2_with fail
        go_ret
        exact ⟨by rw [HV.out]; rfl, HB.out.trans (B1.out.mono HB.out.size)⟩
      | true =>
        have HV := Lib.hid (show DiskD.okD X = decide ((DiskD.count X.fFiles : Int) ≤ 40) by
          rw [DiskD.okD_all (by rw [← HNX.out]; intro s hs; exact hall.out (of_decide_eq_true hN) s (by have := HL.out; omega)), ← HNX.out, hN, Bool.true_and]
          exact decide_eq_decide.2 (by omega))
        have CS : Hid (∀ v, Below W.heap.size W v → Calls Tryz.prog 61 #[.int .i64 nx, .int .i64 0, .int .i64 1000] v fun e v' => e = .returned (.bool true) ∧ Below W.heap.size W v') := Lib.hid fun v hv => (sin nx 0 1000 v).mono fun e v' ⟨he, hv'⟩ => ⟨by rw [he, hN], by rw [← hv']; exact hv⟩
        clear hN
        have c0 : wr.cell? ⟨w.heap.size, 0, none⟩ = some (.slice a n c) := (hb.out.cell (lt_of_block HK.out)).trans (box_cell HK.out 0 _ rfl)
        go_wp2_with fail
        refine (CS.out _ hb.out).mono ?_
        rintro e w1 ⟨rfl, b1⟩
        have B1 := Lib.hid b1
        have d0 : w1.cell? ⟨w.heap.size, 0, none⟩ = some (.slice a n c) := (b1.cell (lt_of_block HK.out)).trans (box_cell HK.out 0 _ rfl)
        have d1 : w1.cell? ⟨w.heap.size, 1, none⟩ = some (.int .i64 nx) := (b1.cell (lt_of_block HK.out)).trans (box_cell HK.out 1 _ rfl)
        have CC := Lib.hid (scountp a n c X w1 (HX.out.keep b1) HW.out)
        rw [← HNX.out] at CC
        clear b1 c0 c1
        go_wp2_with fail
        refine CC.out.mono ?_
        rintro e w2 ⟨rfl, b2⟩
        have B2 := Lib.hid (B1.out.trans (b2.mono B1.out.size))
        clear b2
        obtain ⟨k, hk⟩ : ∃ k, k = DiskD.count X.fFiles := ⟨_, rfl⟩
        rw [← hk] at HV ⊢
        clear hk
        go_wp2_with fail
        go_ret
        exact ⟨by rw [HV.out]; rfl, HB.out.trans (B2.out.mono HB.out.size)⟩
end Go.Proofs.YtjdjceohlcimaaaGreatDoor
/- Slices in blocks of their own, whatever their elements hold: what is appended, what is changed in place; no function of program or reference is walked here. -/
namespace Go.Proofs.YtjdjceohlcimaaaGreatDoor
open Go.RowKit
set_option linter.unusedVariables false
def SameBlk (G : List Nat) (w w' : World) : Prop := w.heap.size ≤ w'.heap.size ∧ ∀ g ∈ G, w'.heap[g]? = w.heap[g]?
theorem SameBlk.refl (G : List Nat) (w : World) : SameBlk G w w := ⟨Nat.le_refl _, fun _ _ => rfl⟩
theorem SameBlk.sub {F G : List Nat} {w w' : World} (h : SameBlk G w w') (hs : ∀ g ∈ F, g ∈ G) : SameBlk F w w' := ⟨h.1, fun g hg => h.2 g (hs g hg)⟩
theorem SameBlk.of_below {G : List Nat} {w w' : World} {B : Nat} (h : Below B w w') (hl : ∀ g ∈ G, g < B) : SameBlk G w w' := ⟨h.size, fun g hg => h.block g (hl g hg)⟩
theorem SameBlk.of_grown {G : List Nat} {w w' : World} {row : Option Nat} (h : w.grownBy w' row) (hl : ∀ g ∈ G, g < w.heap.size) (hne : ∀ g ∈ G, row ≠ some g) : SameBlk G w w' := ⟨h.size, fun g hg => h.block g (hl g hg) fun e => hne g hg e.symm⟩
theorem SameBlk.set {G : List Nat} {w w' : World} (h : SameBlk G w w') {g i : Nat} (u : Value) (hne : g ∉ G) : SameBlk G w (w'.setCell ⟨g, i, none⟩ u) :=
  ⟨by simpa [World.setCell] using h.1, fun b hb => (Below.heap_setCell w' ⟨g, i, none⟩ u b (fun e => hne (by rw [← show b = g from e]; exact hb))).trans (h.2 b hb)⟩
structure BRep (α : Type) where
  rep : Rep α
  blk : World → Nat → α → rep.H → List Nat → Prop
  blk_own : ∀ {w B x h G}, blk w B x h G → ∃ F, rep.own w B x h F ∧ ∀ y ∈ F, y.b ∈ G
  blk_lt : ∀ {w B x h G}, blk w B x h G → ∀ g ∈ G, B ≤ g ∧ g < w.heap.size
  blk_nodup : ∀ {w B x h G}, blk w B x h G → G.Nodup
  blk_keep : ∀ {w w' B x h G}, blk w B x h G → SameBlk G w w' → blk w' B x h G
  blk_mono : ∀ {w B B' x h G}, blk w B x h G → B' ≤ B → blk w B' x h G
theorem BRep.blk_inn {α : Type} (s : BRep α) {w : World} {B : Nat} {x : α} {h : s.rep.H} {G : List Nat} (hb : s.blk w B x h G) : s.rep.inn w x h := by
  obtain ⟨F, hF, -⟩ := s.blk_own hb
  exact s.rep.own_inn hF
theorem BRep.blk_below {α : Type} (s : BRep α) {w w' : World} {B : Nat} {x : α} {h : s.rep.H} {G : List Nat} (hb : s.blk w B x h G) (h' : Below w.heap.size w w') : s.blk w' B x h G :=
  s.blk_keep hb (SameBlk.of_below h' fun g hg => (s.blk_lt hb g hg).2)
def rowB : BRep R where
  rep := rowRep
  blk := fun _ _ r _ G => r.wf ∧ G = []
  blk_own := fun h => ⟨[], ⟨h.1, rfl⟩, fun y hy => by cases hy⟩
  blk_lt := fun h g hg => by rw [h.2] at hg; cases hg
  blk_nodup := fun h => by rw [h.2]; exact List.Pairwise.nil
  blk_keep := fun h _ => h
  blk_mono := fun h _ => h
structure BEl {α : Type} (s : BRep α) where
  x : α
  h : s.rep.H
  G : List Nat
def bcells {α : Type} {s : BRep α} (es : List (BEl s)) : List Value := es.flatMap fun e => s.rep.cells e.x e.h
def gsOf {α : Type} {s : BRep α} (es : List (BEl s)) : List Nat := es.flatMap BEl.G
def blkOf (v : Value) : List Nat := v.ownBlock.toList
theorem bcells_length {α : Type} {s : BRep α} (es : List (BEl s)) : (bcells es).length = es.length * s.rep.size := by
  unfold bcells
  induction es with
  | nil => simp
  | cons e es ih => rw [List.flatMap_cons, List.length_append, ih, s.rep.len, List.length_cons, Nat.add_mul]; omega
theorem bcells_snoc {α : Type} {s : BRep α} (es : List (BEl s)) (e : BEl s) : bcells (es ++ [e]) = bcells es ++ s.rep.cells e.x e.h := by simp [bcells]
theorem bcells_append {α : Type} {s : BRep α} (es fs : List (BEl s)) : bcells (es ++ fs) = bcells es ++ bcells fs := by simp [bcells]
theorem gs_snoc {α : Type} {s : BRep α} (es : List (BEl s)) (e : BEl s) : gsOf (es ++ [e]) = gsOf es ++ e.G := by simp [gsOf]
theorem gs_append {α : Type} {s : BRep α} (es fs : List (BEl s)) : gsOf (es ++ fs) = gsOf es ++ gsOf fs := by simp [gsOf]
theorem mem_gs {α : Type} {s : BRep α} {es : List (BEl s)} {g : Nat} : g ∈ gsOf es ↔ ∃ e ∈ es, g ∈ e.G := by simp [gsOf]
theorem bcells_split {α : Type} {s : BRep α} (es : List (BEl s)) (k : Nat) (e : BEl s) (hk : es[k]? = some e) : bcells es = bcells (es.take k) ++ (s.rep.cells e.x e.h ++ bcells (es.drop (k + 1))) := by
  have hkl := idx_lt hk
  have he : es[k] = e := by rw [List.getElem?_eq_getElem hkl] at hk; exact Option.some.inj hk
  conv => lhs; rw [← List.take_append_drop k es, bcells_append, List.drop_eq_getElem_cons hkl, he]
  simp [bcells]
theorem gs_split {α : Type} {s : BRep α} (es : List (BEl s)) (k : Nat) (e : BEl s) (hk : es[k]? = some e) : gsOf es = gsOf (es.take k) ++ (e.G ++ gsOf (es.drop (k + 1))) := by
  have hkl := idx_lt hk
  have he : es[k] = e := by rw [List.getElem?_eq_getElem hkl] at hk; exact Option.some.inj hk
  conv => lhs; rw [← List.take_append_drop k es, gs_append, List.drop_eq_getElem_cons hkl, he]
  simp [gsOf]
theorem bcells_take_len {α : Type} {s : BRep α} (es : List (BEl s)) (k : Nat) (hk : k < es.length) : (bcells (es.take k)).length = k * s.rep.size := by
  rw [bcells_length, List.length_take]; congr 1; omega
theorem bcells_get {α : Type} {s : BRep α} (es : List (BEl s)) (k : Nat) (e : BEl s) (hk : es[k]? = some e) (j : Nat) (u : Value) (hj : (s.rep.cells e.x e.h)[j]? = some u) : (bcells es)[k * s.rep.size + j]? = some u := by
  rw [bcells_split es k e hk, List.getElem?_append_right (by rw [bcells_take_len es k (idx_lt hk)]; omega), bcells_take_len es k (idx_lt hk), Nat.add_sub_cancel_left, List.getElem?_append_left (idx_lt hj)]
  exact hj
theorem bcells_set {α : Type} {s : BRep α} (es : List (BEl s)) (k : Nat) (e e' : BEl s) (hk : es[k]? = some e) (j : Nat) (u : Value) (hj : j < s.rep.size) (hc : s.rep.cells e'.x e'.h = (s.rep.cells e.x e.h).set j u) :
    (bcells es).set (k * s.rep.size + j) u = bcells (es.set k e') := by
  have hkl := idx_lt hk
  have e1 : es.set k e' = es.take k ++ e' :: es.drop (k + 1) := by rw [List.set_eq_take_append_cons_drop, if_pos hkl]
  have e2 : bcells (es.set k e') = bcells (es.take k) ++ (s.rep.cells e'.x e'.h ++ bcells (es.drop (k + 1))) := by rw [e1, bcells_append]; simp [bcells]
  rw [e2, bcells_split es k e hk, List.set_append_right _ _ (by rw [bcells_take_len es k hkl]; omega), bcells_take_len es k hkl, Nat.add_sub_cancel_left, List.set_append_left _ _ (by rw [s.rep.len]; exact hj), hc]
theorem gs_set {α : Type} {s : BRep α} (es : List (BEl s)) (k : Nat) (e e' : BEl s) (hk : es[k]? = some e) : gsOf (es.set k e') = gsOf (es.take k) ++ (e'.G ++ gsOf (es.drop (k + 1))) := by
  have hkl := idx_lt hk
  rw [List.set_eq_take_append_cons_drop, if_pos hkl, gs_append]
  simp [gsOf]
structure Blk {α : Type} (T : TypeId) (s : BRep α) (w : World) (B : Nat) (v : Value) (es : List (BEl s)) : Prop where
  own : w.ownsRow B T s.rep.size v es.length (bcells es)
  all : ∀ e ∈ es, s.blk w B e.x e.h e.G
  nodup : (blkOf v ++ gsOf es).Nodup
theorem blkOf_mem {v : Value} {g : Nat} : g ∈ blkOf v ↔ v.ownBlock = some g := by simp [blkOf]
theorem blkOf_some (a : Addr) (n c : Nat) : blkOf (.slice (some a) n c) = [a.block] := rfl
theorem Blk.lt {α : Type} {T : TypeId} {s : BRep α} {w : World} {B : Nat} {v : Value} {es : List (BEl s)} (h : Blk T s w B v es) : ∀ g ∈ blkOf v ++ gsOf es, B ≤ g ∧ g < w.heap.size := by
  intro g hg
  rcases List.mem_append.1 hg with hg | hg
  · exact World.ownsRow.lt h.own g (blkOf_mem.1 hg)
  · obtain ⟨e, he, hg⟩ := mem_gs.1 hg
    exact s.blk_lt (h.all e he) g hg
theorem ownsRow_same {w w' : World} {B : Nat} {T : TypeId} {k n : Nat} {v : Value} {xs : List Value} (h : w.ownsRow B T k v n xs) (hs : SameBlk (blkOf v) w w') : w'.ownsRow B T k v n xs := by
  obtain ⟨h1, h0 | ⟨g, cap, cur, rfl, hB, hh, h2⟩⟩ := h
  · exact ⟨h1, .inl h0⟩
  · exact ⟨h1, .inr ⟨g, cap, cur, rfl, hB, (hs.2 g (by rw [blkOf_some]; exact List.mem_singleton.2 rfl)).trans hh, h2⟩⟩
theorem ownsRow_mono {w : World} {B B' : Nat} {T : TypeId} {k n : Nat} {v : Value} {xs : List Value} (h : w.ownsRow B T k v n xs) (hb : B' ≤ B) : w.ownsRow B' T k v n xs := by
  obtain ⟨h1, h0 | ⟨g, cap, cur, rfl, hB, h2⟩⟩ := h
  · exact ⟨h1, .inl h0⟩
  · exact ⟨h1, .inr ⟨g, cap, cur, rfl, Nat.le_trans hb hB, h2⟩⟩
theorem Blk.keep {α : Type} {T : TypeId} {s : BRep α} {w w' : World} {B : Nat} {v : Value} {es : List (BEl s)} (h : Blk T s w B v es) (hs : SameBlk (blkOf v ++ gsOf es) w w') : Blk T s w' B v es :=
  ⟨ownsRow_same h.own (hs.sub fun g hg => List.mem_append_left _ hg), fun e he => s.blk_keep (h.all e he) (hs.sub fun g hg => List.mem_append_right _ (mem_gs.2 ⟨e, he, hg⟩)), h.nodup⟩
theorem Blk.below {α : Type} {T : TypeId} {s : BRep α} {w w' : World} {B : Nat} {v : Value} {es : List (BEl s)} (h : Blk T s w B v es) (hb : Below w.heap.size w w') : Blk T s w' B v es :=
  h.keep (SameBlk.of_below hb fun g hg => (h.lt g hg).2)
theorem Blk.mono {α : Type} {T : TypeId} {s : BRep α} {w : World} {B B' : Nat} {v : Value} {es : List (BEl s)} (h : Blk T s w B v es) (hb : B' ≤ B) : Blk T s w B' v es :=
  ⟨ownsRow_mono h.own hb, fun e he => s.blk_mono (h.all e he) hb, h.nodup⟩
theorem Blk.slice {α : Type} {T : TypeId} {s : BRep α} {w : World} {B : Nat} {v : Value} {es : List (BEl s)} (h : Blk T s w B v es) : ∃ a c, v = .slice a es.length c ∧ (a = none → c = 0 ∧ es = []) := by
  obtain ⟨h1, ⟨rfl, h0⟩ | ⟨g, cap, cur, rfl, -⟩⟩ := h.own
  · exact ⟨none, 0, by rw [h0], fun _ => ⟨rfl, List.eq_nil_of_length_eq_zero h0⟩⟩
  · exact ⟨_, _, rfl, fun e => by cases e⟩
theorem Blk.addr {α : Type} {T : TypeId} {s : BRep α} {w : World} {B : Nat} {v : Value} {es : List (BEl s)} (h : Blk T s w B v es) (hp : 0 < es.length) : ∃ g c, v = .slice (some ⟨g, 0, none⟩) es.length c ∧ B ≤ g ∧ g < w.heap.size ∧ es.length ≤ c ∧ c ≤ maxLen := by
  obtain ⟨h1, ⟨rfl, h0⟩ | ⟨g, cap, cur, rfl, hB, hh, hc, hm, -⟩⟩ := h.own
  · omega
  · exact ⟨g, cap, rfl, hB, lt_of_block hh, hc, hm⟩
theorem Blk.caps {α : Type} {T : TypeId} {s : BRep α} {w : World} {B : Nat} {a : Option Addr} {n c : Nat} {es : List (BEl s)} (h : Blk T s w B (.slice a n c) es) : n = es.length ∧ n ≤ c ∧ c ≤ maxLen := by
  obtain ⟨h1, ⟨e, h0⟩ | ⟨g, cap, cur, e, hB, hh, hc, hm, -⟩⟩ := h.own
  · injection e with e1 e2 e3; subst e2 e3; exact ⟨by omega, Nat.le_refl _, Nat.zero_le _⟩
  · injection e with e1 e2 e3; subst e2 e3; exact ⟨rfl, hc, hm⟩
theorem Blk.nil {α : Type} (T : TypeId) (s : BRep α) (w : World) (B : Nat) : Blk T s w B (.slice none 0 0) [] := ⟨World.ownsRow_nil _ _ _ _, fun e he => (by cases he), List.Pairwise.nil⟩
theorem Blk.made {α : Type} (T : TypeId) (s : BRep α) (w : World) (B : Nat) (hB : B ≤ w.heap.size) : Blk T s (w.alloc (.cells #[] T)) B (.slice (some ⟨w.heap.size, 0, none⟩) 0 0) [] :=
  ⟨World.ownsRow_made w #[] 0 hB (Nat.zero_le _) (by simp), fun e he => (by cases he), by simp [gsOf, blkOf_some]⟩
theorem Blk.cell {α : Type} {T : TypeId} {s : BRep α} {w : World} {B g n c : Nat} {es : List (BEl s)} (h : Blk T s w B (.slice (some ⟨g, 0, none⟩) n c) es) {k : Nat} {e : BEl s} (hk : es[k]? = some e) (j : Nat) (u : Value) (hj : (s.rep.cells e.x e.h)[j]? = some u) :
    w.cell? ⟨g, k * s.rep.size + j, none⟩ = some u := by
  have hn := h.caps.1
  have hjl : j < s.rep.size := by rw [← s.rep.len e.x e.h]; exact idx_lt hj
  have hkl := idx_lt hk
  have hle := at_le (s := s.rep.size) hkl
  have hown := h.own
  rw [← hn] at hown
  rw [hown.cellAt _ (by rw [hn]; omega)]
  exact bcells_get es k e hk j u hj
theorem Blk.frozen {α : Type} {T : TypeId} {s : BRep α} {w : World} {B g n c : Nat} {es : List (BEl s)} (h : Blk T s w B (.slice (some ⟨g, 0, none⟩) n c) es) (j : Nat) : w.frozen? ⟨g, j, none⟩ = false := by
  have hown := h.own
  rw [← h.caps.1] at hown
  exact hown.frozenAt j
theorem blk_els {α : Type} {s : BRep α} {w : World} {B : Nat} : ∀ (es : List (BEl s)), (∀ e ∈ es, s.blk w B e.x e.h e.G) → (gsOf es).Nodup →
    ∃ fs : List (El s.rep), fs.map El.x = es.map BEl.x ∧ cellsOf fs = bcells es ∧ OwnAll s.rep w B fs ∧ ∀ f ∈ fs, ∀ y ∈ f.F, y.b ∈ gsOf es
  | [], _, _ => ⟨[], rfl, rfl, OwnAll.nil _ _ _, fun f hf => by cases hf⟩
  | e :: es, ha, hn => by
    have hn' : (e.G ++ gsOf es).Nodup := hn
    rw [List.nodup_append] at hn'
    obtain ⟨fs, h1, h2, h3, h4⟩ := blk_els es (fun f hf => ha f (List.mem_cons_of_mem _ hf)) hn'.2.1
    obtain ⟨F, hF, hG⟩ := s.blk_own (ha e (List.mem_cons_self ..))
    refine ⟨⟨e.x, e.h, F⟩ :: fs, by simp [h1], ?_, ⟨fun f hf => ?_, ?_⟩, fun f hf y hy => ?_⟩
    · show s.rep.cells e.x e.h ++ cellsOf fs = s.rep.cells e.x e.h ++ bcells es
      rw [h2]
    · rcases List.mem_cons.1 hf with rfl | hf
      · exact hF
      · exact h3.1 f hf
    · rw [List.pairwise_cons]
      exact ⟨fun f hf x hx y hy => .inl (hn'.2.2 _ (hG x hx) _ (h4 f hf y hy)), h3.2⟩
    · rcases List.mem_cons.1 hf with rfl | hf
      · exact List.mem_append_left _ (hG y hy)
      · exact List.mem_append_right _ (h4 f hf y hy)
theorem SeqOwn.blocks {α : Type} {r : Rep α} {w : World} {B g : Nat} {es : List (El r)} (h : OwnAll r w B es) (hg : B ≤ g) (hl : g < w.heap.size) (hf : ∀ j, w.frozen? ⟨g, j, none⟩ = false) (hc : ∀ j u, (cellsOf es)[j]? = some u → w.cell? ⟨g, j, none⟩ = some u)
    (hne : ∀ e ∈ es, ∀ y ∈ e.F, y.b ≠ g) (hm : es.length ≤ maxLen) : ∃ F, SeqOwn r w B (some ⟨g, 0, none⟩) es.length (es.map El.x) F ∧ ∀ y ∈ F, y.b = g ∨ ∃ e ∈ es, y ∈ e.F := by
  rcases Nat.eq_zero_or_pos es.length with h0 | h0
  · exact ⟨[], ⟨by simp, hm, .inl ⟨h0, rfl⟩⟩, fun y hy => by cases hy⟩
  · obtain ⟨e0, -⟩ : ∃ e0, es[0]? = some e0 := ⟨es[0], by simp [h0]⟩
    refine ⟨_, ⟨by simp, hm, .inr ⟨g, 0, fun t => (es.getD t e0).h, fun t => (es.getD t e0).F, rfl, hg, hl, rfl, ?_, fun j _ _ => hf j, fun t x ht => ?_⟩⟩, fun y hy => ?_⟩
    · rw [List.pairwise_cons]
      refine ⟨fun y hy => ?_, ?_⟩
      · obtain ⟨t, ht, hy⟩ := List.mem_flatMap.1 hy
        have htl : t < es.length := List.mem_range.1 ht
        have hgd : es.getD t e0 = es[t] := by simp [List.getD, htl]
        rw [hgd] at hy
        exact .inl fun e => hne es[t] (List.getElem_mem htl) y hy e.symm
      · rw [List.pairwise_flatMap]
        refine ⟨fun t ht => ?_, ?_⟩
        · have htl : t < es.length := List.mem_range.1 ht
          have hgd : es.getD t e0 = es[t] := by simp [List.getD, htl]
          rw [hgd]
          exact r.own_apart (h.1 es[t] (List.getElem_mem htl))
        · rw [List.pairwise_iff_getElem]
          intro i j hi hj hij x hx y hy
          simp only [List.getElem_range] at hx hy
          have hil : i < es.length := by simpa using hi
          have hjl : j < es.length := by simpa using hj
          have h1 : es.getD i e0 = es[i] := by simp [List.getD, hil]
          have h2 : es.getD j e0 = es[j] := by simp [List.getD, hjl]
          rw [h1] at hx
          rw [h2] at hy
          exact (List.pairwise_iff_getElem.1 h.2) i j hil hjl hij x hx y hy
    · have htl : t < es.length := by have := idx_lt ht; simpa using this
      have hgd : es.getD t e0 = es[t] := by simp [List.getD, htl]
      obtain rfl : es[t].x = x := by simpa [htl] using ht
      simp only []
      rw [hgd]
      refine ⟨fun j u hj => ?_, h.1 es[t] (List.getElem_mem htl)⟩
      rw [Nat.zero_add]
      exact hc _ _ (cellsOf_get es t es[t] (by simp [htl]) j u hj)
    · rcases List.mem_cons.1 hy with rfl | hy
      · exact .inl rfl
      · obtain ⟨t, ht, hy⟩ := List.mem_flatMap.1 hy
        have htl : t < es.length := List.mem_range.1 ht
        have hgd : es.getD t e0 = es[t] := by simp [List.getD, htl]
        rw [hgd] at hy
        exact .inr ⟨es[t], List.getElem_mem htl, hy⟩
theorem Blk.seq {α : Type} {T : TypeId} {s : BRep α} {w : World} {B n c : Nat} {a : Option Addr} {es : List (BEl s)} (h : Blk T s w B (.slice a n c) es) : ∃ F, SeqOwn s.rep w B a n (es.map BEl.x) F ∧ ∀ y ∈ F, y.b ∈ blkOf (.slice a n c) ++ gsOf es := by
  obtain ⟨hn, hc, hm⟩ := h.caps
  rcases Nat.eq_zero_or_pos es.length with h0 | h0
  · obtain rfl : es = [] := List.eq_nil_of_length_eq_zero h0
    exact ⟨[], ⟨by rw [hn]; rfl, by omega, .inl ⟨hn, rfl⟩⟩, fun y hy => by cases hy⟩
  · obtain ⟨g, c', e, hB, hgl, -, -⟩ := h.addr h0
    injection e with e1 e2 e3
    subst e1 e2
    have hnd := h.nodup
    rw [List.nodup_append] at hnd
    obtain ⟨fs, h1, h2, h3, h4⟩ := blk_els es h.all hnd.2.1
    have hfl : fs.length = es.length := by have := congrArg List.length h1; simpa using this
    have hne : ∀ f ∈ fs, ∀ y ∈ f.F, y.b ≠ g := fun f hf y hy e => hnd.2.2 g (by rw [blkOf_some]; exact List.mem_singleton.2 rfl) _ (h4 f hf y hy) e.symm
    obtain ⟨F, hF, hFb⟩ := SeqOwn.blocks h3 hB hgl (fun j => h.frozen j) (fun j u hj => by
      rw [h2] at hj
      have hjl := idx_lt hj
      rw [bcells_length] at hjl
      have := h.own.cellAt j hjl
      rw [this]; exact hj) hne (by omega)
    rw [hfl, h1] at hF
    refine ⟨F, hF, fun y hy => ?_⟩
    rcases hFb y hy with e | ⟨f, hf, hy⟩
    · rw [e]; exact List.mem_append_left _ (by rw [blkOf_some]; exact List.mem_singleton.2 rfl)
    · exact List.mem_append_right _ (h4 f hf y hy)
def seqB {α : Type} (T : TypeId) (s : BRep α) : BRep (List α) where
  rep := seqRep s.rep
  blk := fun w B xs h G => ∃ es : List (BEl s), xs = es.map BEl.x ∧ Blk T s w B (.slice h.1 h.2.1 h.2.2) es ∧ G = blkOf (.slice h.1 h.2.1 h.2.2) ++ gsOf es
  blk_own := fun ⟨es, e1, h, e2⟩ => by
    obtain ⟨F, hF, hb⟩ := h.seq
    refine ⟨F, ⟨by rw [e1]; exact hF, fun hn => ?_⟩, fun y hy => by rw [e2]; exact hb y hy⟩
    obtain ⟨a, c, e, hz⟩ := h.slice
    injection e with ea _ ec
    exact ec.trans (hz (ea.symm.trans hn)).1
  blk_lt := fun ⟨es, e1, h, e2⟩ => by rw [e2]; exact h.lt
  blk_nodup := fun ⟨es, e1, h, e2⟩ => by rw [e2]; exact h.nodup
  blk_keep := fun ⟨es, e1, h, e2⟩ hs => by rw [e2] at hs; exact ⟨es, e1, h.keep hs, e2⟩
  blk_mono := fun ⟨es, e1, h, e2⟩ hb => ⟨es, e1, h.mono hb, e2⟩
def endB : BRep Unit where
  rep := endRep
  blk := fun _ _ _ _ G => G = []
  blk_own := fun h => ⟨[], rfl, fun y hy => by cases hy⟩
  blk_lt := fun h g hg => by rw [h] at hg; cases hg
  blk_nodup := fun h => by rw [h]; exact List.Pairwise.nil
  blk_keep := fun h _ => h
  blk_mono := fun h _ => h
def intB {β : Type} (s : BRep β) : BRep (Int × β) where
  rep := intAnd s.rep
  blk := fun w B x h G => I64 x.1 ∧ s.blk w B x.2 h G
  blk_own := fun h => by obtain ⟨F, hF, hb⟩ := s.blk_own h.2; exact ⟨F, ⟨h.1, hF⟩, hb⟩
  blk_lt := fun h => s.blk_lt h.2
  blk_nodup := fun h => s.blk_nodup h.2
  blk_keep := fun h hs => ⟨h.1, s.blk_keep h.2 hs⟩
  blk_mono := fun h hb => ⟨h.1, s.blk_mono h.2 hb⟩
def boolB {β : Type} (s : BRep β) : BRep (Bool × β) where
  rep := boolAnd s.rep
  blk := fun w B x h G => s.blk w B x.2 h G
  blk_own := fun h => s.blk_own h
  blk_lt := fun h => s.blk_lt h
  blk_nodup := fun h => s.blk_nodup h
  blk_keep := fun h hs => s.blk_keep h hs
  blk_mono := fun h hb => s.blk_mono h hb
def seqAndB {α β : Type} (T : TypeId) (r : BRep α) (s : BRep β) : BRep (List α × β) where
  rep := seqAnd r.rep s.rep
  blk := fun w B x h G => ∃ G1 G2, G = G1 ++ G2 ∧ (seqB T r).blk w B x.1 h.1 G1 ∧ s.blk w B x.2 h.2 G2 ∧ ∀ a ∈ G1, a ∉ G2
  blk_own := fun ⟨G1, G2, e, h1, h2, h3⟩ => by
    obtain ⟨F1, hF1, hb1⟩ := (seqB T r).blk_own h1
    obtain ⟨F2, hF2, hb2⟩ := s.blk_own h2
    exact ⟨F1 ++ F2, ⟨F1, F2, rfl, hF1, hF2, fun a ha b hb => .inl fun e => h3 a.b (hb1 a ha) (by rw [e]; exact hb2 b hb)⟩, fun y hy => by
      rw [e]
      exact (List.mem_append.1 hy).elim (fun h => List.mem_append_left _ (hb1 y h)) (fun h => List.mem_append_right _ (hb2 y h))⟩
  blk_lt := fun ⟨G1, G2, e, h1, h2, h3⟩ g hg => by
    rw [e] at hg
    exact (List.mem_append.1 hg).elim ((seqB T r).blk_lt h1 g) (s.blk_lt h2 g)
  blk_nodup := fun ⟨G1, G2, e, h1, h2, h3⟩ => by
    rw [e, List.nodup_append]
    exact ⟨(seqB T r).blk_nodup h1, s.blk_nodup h2, fun a ha b hb e => h3 a ha (by rw [e]; exact hb)⟩
  blk_keep := fun ⟨G1, G2, e, h1, h2, h3⟩ hs => by
    rw [e] at hs
    exact ⟨G1, G2, e, (seqB T r).blk_keep h1 (hs.sub fun g hg => List.mem_append_left _ hg), s.blk_keep h2 (hs.sub fun g hg => List.mem_append_right _ hg), h3⟩
  blk_mono := fun ⟨G1, G2, e, h1, h2, h3⟩ hb => ⟨G1, G2, e, (seqB T r).blk_mono h1 hb, s.blk_mono h2 hb, h3⟩
def viaB {α β : Type} (f : α → β) (s : BRep β) : BRep α where
  rep := viaRep f s.rep
  blk := fun w B x h G => s.blk w B (f x) h G
  blk_own := fun h => s.blk_own h
  blk_lt := fun h => s.blk_lt h
  blk_nodup := fun h => s.blk_nodup h
  blk_keep := fun h hs => s.blk_keep h hs
  blk_mono := fun h hb => s.blk_mono h hb
/-! ### What is appended -/
theorem Blk.push {α : Type} {T : TypeId} {s : BRep α} {w w' : World} {B g c : Nat} {v : Value} {es : List (BEl s)} {e : BEl s} (h : Blk T s w B v es) (he : s.blk w B e.x e.h e.G) (hd : ∀ b ∈ e.G, b ∉ blkOf v ++ gsOf es)
    (hown : w'.ownsRow B T s.rep.size (.slice (some ⟨g, 0, none⟩) (es.length + 1) c) (es.length + 1) (bcells es ++ s.rep.cells e.x e.h)) (hg : w.grownBy w' v.ownBlock) (hat : v.ownBlock = some g ∨ w.heap.size ≤ g) : Blk T s w' B (.slice (some ⟨g, 0, none⟩) (es.length + 1) c) (es ++ [e]) := by
  have hlt := h.lt
  have hnd := h.nodup
  have hnd' := h.nodup
  rw [List.nodup_append] at hnd'
  have hold : ∀ b ∈ gsOf es, v.ownBlock ≠ some b := fun b hb e1 => hnd'.2.2 b (blkOf_mem.2 e1) b hb rfl
  have hnew : ∀ b ∈ e.G, v.ownBlock ≠ some b := fun b hb e1 => hd b hb (List.mem_append_left _ (blkOf_mem.2 e1))
  refine ⟨by rw [bcells_snoc, List.length_append]; exact hown, fun f hf => ?_, ?_⟩
  · rcases List.mem_append.1 hf with hf | hf
    · exact s.blk_keep (h.all f hf) (SameBlk.of_grown hg (fun b hb => (hlt b (List.mem_append_right _ (mem_gs.2 ⟨f, hf, hb⟩))).2) fun b hb => hold b (mem_gs.2 ⟨f, hf, hb⟩))
    · rw [List.mem_singleton.1 hf]
      exact s.blk_keep he (SameBlk.of_grown hg (fun b hb => (s.blk_lt he b hb).2) hnew)
  · rw [blkOf_some, gs_snoc, List.singleton_append, List.nodup_cons, List.nodup_append]
    refine ⟨fun hm => ?_, hnd'.2.1, s.blk_nodup he, fun a ha b hb e1 => hd b hb (List.mem_append_right _ (by rw [← e1]; exact ha))⟩
    rcases List.mem_append.1 hm with hm | hm
    · rcases hat with hat | hat
      · exact hold g hm hat
      · have := (hlt g (List.mem_append_right _ hm)).2; omega
    · rcases hat with hat | hat
      · exact hnew g hm hat
      · have := (s.blk_lt he g hm).2; omega
structure ElInfo {α : Type} (T St : TypeId) (s : BRep α) (z : Value) (bytes : Nat) : Prop where
  und : Tryz.prog.underlying St = some (.slice T)
  inf : (Tryz.prog.info? T).map (fun i => (i.zero, i.size, i.bytes)) = some (some z, s.rep.size, bytes)
  zs : z.cells.size = s.rep.size
  pos : 0 < s.rep.size
  small : bytes ≤ 100
  one : ∀ x h, ∀ u ∈ s.rep.cells x h, u.oneCell' = true
theorem wpList_pushE {α : Type} {T St : TypeId} {s : BRep α} {z : Value} {bytes : Nat} (I : ElInfo T St s z bytes) {ops : Array Oper} {rest : List Oper} {o : Oper} {a : Act} {Q : Exit → Act → World → Prop} {w : World} {B : Nat} {v : Value} {es : List (BEl s)} (e : BEl s) (so xo : Operand) (N : Nat) {cs : Array Value} {fr : Nat × Nat}
    (hgd : o.guard = none) (ho : o.op = .call { callee := .builtin .append, args := #[so, xo], argTypes := #[St, St] })
    (hs : a.eval so = v) (hx : a.eval xo = .slice (some ⟨N, 0, none⟩) 1 1) (hN : w.heap[N]? = some (.cells cs T fr)) (hcs : cs.toList = s.rep.cells e.x e.h)
    (h : Blk T s w B v es) (he : s.blk w B e.x e.h e.G) (hd : ∀ b ∈ e.G, b ∉ blkOf v ++ gsOf es) (hB : B ≤ w.heap.size) (hlen : es.length + 1 ≤ 1000000000000)
    (k : ∀ g c w', Blk T s w' B (.slice (some ⟨g, 0, none⟩) (es.length + 1) c) (es ++ [e]) → w.grownBy w' v.ownBlock → (v.ownBlock = some g ∨ w.heap.size ≤ g) → wpList Tryz.prog ops Q rest (a.put o.dst (.slice (some ⟨g, 0, none⟩) (es.length + 1) c)) w') :
    wpList Tryz.prog ops Q (o :: rest) a w := by
  obtain ⟨i0, hi, hz0, hz1, hz2⟩ := info_parts I.inf
  refine wpList_append_lies w hgd so xo St ho B T i0 z s.rep.size bytes I.und hi hz0 hz1 hz2 I.zs I.pos v es.length (bcells es) hs h.own
    ⟨N, 0, none⟩ 1 1 (s.rep.cells e.x e.h) hx (by rw [s.rep.len, Nat.one_mul]) (by rw [← hcs]; exact World.news_of_block hN) (I.one _ _) (by omega) (by unfold maxLen; omega) ?_ hB _ rfl ?_
  · have h1 : (es.length + 1) * bytes ≤ 1000000000000 * 100 := Nat.mul_le_mul hlen I.small
    omega
  · intro g c w' hown hg hat _
    have hat' : v.ownBlock = some g ∨ w.heap.size ≤ g := hat.imp_right fun e => by rw [e]; exact Nat.le_refl _
    exact k g c w' (h.push he hd hown hg hat') hg hat'
theorem step_pushE {α : Type} {T St : TypeId} {s : BRep α} {z : Value} {bytes : Nat} (I : ElInfo T St s z bytes) {ops : Array Oper} {o : Oper} {a : Act} {K : Act → World → Prop} {Q : Exit → Act → World → Prop} {E : Prop} {w : World} {B : Nat} {v : Value} {es : List (BEl s)} (e : BEl s) (so xo : Operand) (ad : Addr)
    (hgd : o.guard = none) (ho : o.op = .call { callee := .builtin .append, args := #[so, xo], argTypes := #[St, St] })
    (hs : a.eval so = v) (hx : a.eval xo = .slice (some ad) 1 1) (hc : ∀ j u, (s.rep.cells e.x e.h)[j]? = some u → w.cell? (ad.add j) = some u)
    (h : Blk T s w B v es) (he : s.blk w B e.x e.h e.G) (hd : ∀ b ∈ e.G, b ∉ blkOf v ++ gsOf es) (hB : B ≤ w.heap.size) (hlen : es.length + 1 ≤ 1000000000000)
    (k : ∀ g c w', Blk T s w' B (.slice (some ⟨g, 0, none⟩) (es.length + 1) c) (es ++ [e]) → w.grownBy w' v.ownBlock → (v.ownBlock = some g ∨ w.heap.size ≤ g) → K (a.put o.dst (.slice (some ⟨g, 0, none⟩) (es.length + 1) c)) w') :
    if Region.wanted o (yielded ops a.tmps) = true then Oper.wp Tryz.prog o a w K Q else E := by
  obtain ⟨i0, hi, hz0, hz1, hz2⟩ := info_parts I.inf
  refine step_append_lies w hgd so xo St ho B T i0 z s.rep.size bytes I.und hi hz0 hz1 hz2 I.zs I.pos v es.length (bcells es) hs h.own
    ad 1 1 (s.rep.cells e.x e.h) hx (by rw [s.rep.len, Nat.one_mul]) hc (I.one _ _) (by omega) (by unfold maxLen; omega) ?_ hB _ rfl ?_
  · have h1 : (es.length + 1) * bytes ≤ 1000000000000 * 100 := Nat.mul_le_mul hlen I.small
    omega
  · intro g c w' hown hg hat _
    have hat' : v.ownBlock = some g ∨ w.heap.size ≤ g := hat.imp_right fun e => by rw [e]; exact Nat.le_refl _
    exact k g c w' (h.push he hd hown hg hat') hg hat'
/-! ### What is changed in place -/
theorem Blk.change {α : Type} {T : TypeId} {s : BRep α} {w w' : World} {B g n c k j : Nat} {es : List (BEl s)} {e : BEl s} (h : Blk T s w B (.slice (some ⟨g, 0, none⟩) n c) es) (hk : es[k]? = some e) (hj : j < s.rep.size) (u : Value) (e' : BEl s)
    (hc : s.rep.cells e'.x e'.h = (s.rep.cells e.x e.h).set j u) (hsz : w.heap.size ≤ w'.heap.size) (hsame : ∀ b, b < w.heap.size → b ∉ e.G → w'.heap[b]? = w.heap[b]?) (he : s.blk w' B e'.x e'.h e'.G) (hG : ∀ b ∈ e'.G, b ∈ e.G ∨ w.heap.size ≤ b) :
    Blk T s (w'.setCell ⟨g, k * s.rep.size + j, none⟩ u) B (.slice (some ⟨g, 0, none⟩) n c) (es.set k e') := by
  have hlt := h.lt
  have hnd := h.nodup
  have hkl := idx_lt hk
  have hn := h.caps.1
  have hmem : e ∈ es := List.mem_of_getElem? hk
  have hGes : ∀ b ∈ e.G, b ∈ gsOf es := fun b hb => mem_gs.2 ⟨e, hmem, hb⟩
  rw [blkOf_some, List.singleton_append, List.nodup_cons] at hnd
  have hgG : g ∉ e.G := fun hm => hnd.1 (hGes g hm)
  have hgl : g < w.heap.size := (hlt g (by rw [blkOf_some]; exact List.mem_append_left _ (List.mem_singleton.2 rfl))).2
  have hgG' : g ∉ e'.G := fun hm => by
    rcases hG g hm with h1 | h1
    · exact hgG h1
    · omega
  have hown1 : w'.ownsRow B T s.rep.size (.slice (some ⟨g, 0, none⟩) n c) es.length (bcells es) := ownsRow_same h.own ⟨hsz, fun b hb => by
    rw [blkOf_some] at hb
    rw [List.mem_singleton.1 hb]
    exact hsame g hgl hgG⟩
  rw [hn] at hown1
  have hst := (hown1.stored (k * s.rep.size + j) u).1
  rw [bcells_set es k e e' hk j u hj hc] at hst
  have hsp := gs_split es k e hk
  have hnd2 := hnd.2
  rw [hsp, List.nodup_append, List.nodup_append] at hnd2
  obtain ⟨n1, ⟨n2, n3, n4⟩, n5⟩ := hnd2
  refine ⟨by rw [List.length_set, hn]; exact hst, fun f hf => ?_, ?_⟩
  · obtain ⟨t, ht, rfl⟩ := List.getElem_of_mem hf
    rw [List.length_set] at ht
    by_cases htk : k = t
    · subst htk
      rw [List.getElem_set_self]
      exact s.blk_keep he ((show SameBlk e'.G w' w' from ⟨Nat.le_refl _, fun _ _ => rfl⟩).set u hgG')
    · rw [List.getElem_set_ne htk]
      have hfm : es[t] ∈ es := List.getElem_mem ht
      have hfg : ∀ b ∈ es[t].G, b ∈ gsOf es := fun b hb => mem_gs.2 ⟨_, hfm, hb⟩
      refine s.blk_keep (h.all _ hfm) (SameBlk.set ⟨hsz, fun b hb => hsame b (hlt b (List.mem_append_right _ (hfg b hb))).2 fun hbe => ?_⟩ u fun hm => hnd.1 (hfg g hm))
      rcases Nat.lt_or_gt_of_ne htk with h2 | h2
      · have : b ∈ gsOf (es.drop (k + 1)) := mem_gs.2 ⟨es[t], by
          rw [List.mem_iff_getElem]
          exact ⟨t - (k + 1), by rw [List.length_drop]; omega, by rw [List.getElem_drop]; congr 1; omega⟩, hb⟩
        exact n4 b hbe b this rfl
      · have : b ∈ gsOf (es.take k) := mem_gs.2 ⟨es[t], by
          rw [List.mem_iff_getElem]
          exact ⟨t, by rw [List.length_take]; omega, by rw [List.getElem_take]⟩, hb⟩
        exact n5 b this b (List.mem_append_left _ hbe) rfl
  · rw [blkOf_some, List.singleton_append, List.nodup_cons, gs_set es k e e' hk, List.nodup_append, List.nodup_append]
    have hold : ∀ b, b ∈ gsOf (es.take k) ∨ b ∈ gsOf (es.drop (k + 1)) → b ∈ gsOf es := fun b hb => by
      rw [hsp]
      rcases hb with hb | hb
      · exact List.mem_append_left _ hb
      · exact List.mem_append_right _ (List.mem_append_right _ hb)
    refine ⟨fun hm => ?_, n1, ⟨s.blk_nodup he, n3, fun a ha b hb e1 => ?_⟩, fun a ha b hb e1 => ?_⟩
    · rcases List.mem_append.1 hm with hm | hm
      · exact hnd.1 (hold g (.inl hm))
      · rcases List.mem_append.1 hm with hm | hm
        · exact hgG' hm
        · exact hnd.1 (hold g (.inr hm))
    · rcases hG a ha with h1 | h1
      · exact n4 a h1 b hb e1
      · have := (hlt b (List.mem_append_right _ (hold b (.inr hb)))).2; omega
    · rcases List.mem_append.1 hb with hb | hb
      · rcases hG b hb with h1 | h1
        · exact n5 a ha b (List.mem_append_left _ h1) e1
        · have := (hlt a (List.mem_append_right _ (hold a (.inl ha)))).2; omega
      · exact n5 a ha b (List.mem_append_right _ hb) e1
theorem Blk.store {α : Type} {T : TypeId} {s : BRep α} {w : World} {B g n c k j : Nat} {es : List (BEl s)} {e : BEl s} (h : Blk T s w B (.slice (some ⟨g, 0, none⟩) n c) es) (hk : es[k]? = some e) (hj : j < s.rep.size) (u : Value) (x' : α) (h' : s.rep.H)
    (hc : s.rep.cells x' h' = (s.rep.cells e.x e.h).set j u) (he : s.blk w B x' h' e.G) : Blk T s (w.setCell ⟨g, k * s.rep.size + j, none⟩ u) B (.slice (some ⟨g, 0, none⟩) n c) (es.set k ⟨x', h', e.G⟩) :=
  h.change hk hj u ⟨x', h', e.G⟩ hc (Nat.le_refl _) (fun _ _ _ => rfl) he fun b hb => .inl hb
theorem blk_of_mine {w : World} {B : Nat} {v : Value} {L : List R} (h : Mine w B v L) (hwf : ∀ r ∈ L, r.wf) : ∃ es : List (BEl rowB), L = es.map BEl.x ∧ Blk 72 rowB w B v es ∧ gsOf es = [] := by
  have e1 : (L.map fun r => (⟨r, (), []⟩ : BEl rowB)).map BEl.x = L := by rw [List.map_map]; exact List.map_id'' (fun _ => rfl) L
  have e2 : bcells (L.map fun r => (⟨r, (), []⟩ : BEl rowB)) = cells3 L := by
    unfold bcells cells3
    rw [List.flatMap_map]
    rfl
  have e3 : gsOf (L.map fun r => (⟨r, (), []⟩ : BEl rowB)) = [] := by
    unfold gsOf
    rw [List.flatMap_map]
    simp
  refine ⟨L.map fun r => ⟨r, (), []⟩, e1.symm, ⟨?_, fun e he => ?_, ?_⟩, e3⟩
  · rw [e2, List.length_map]; exact h
  · obtain ⟨r, hr, rfl⟩ := List.mem_map.1 he
    exact ⟨hwf r hr, rfl⟩
  · rw [e3, List.append_nil]
    unfold blkOf
    cases v.ownBlock <;> simp
theorem seq_of_mine {w : World} {B n c : Nat} {a : Option Addr} {L : List R} (h : Mine w B (.slice a n c) L) (hwf : ∀ r ∈ L, r.wf) : (seqB 72 rowB).blk w B L (a, n, c) (blkOf (.slice a n c)) := by
  obtain ⟨es, e1, hb, e3⟩ := blk_of_mine h hwf
  exact ⟨es, e1, hb, by rw [e3, List.append_nil]⟩
end Go.Proofs.YtjdjceohlcimaaaGreatDoor
/- Files and disks in blocks of the call's own; what is kept while blocks below a bound stay as they were; no function of program or reference is walked here. -/
namespace Go.Proofs.YtjdjceohlcimaaaGreatDoor
open Go.RowKit
set_option linter.unusedVariables false
abbrev rowsB : BRep (List R) := seqB 72 rowB
abbrev pagesB : BRep (List (List R)) := seqB 29 rowsB
def fileB : BRep FileD := viaB (fun x => (x.fName, x.fPages, x.fChecksum, x.fSealed, ())) (intB (seqAndB 29 rowsB (intB (boolB endB))))
def diskB : BRep DiskD := viaB (fun x => (x.fFiles, x.fNextName, ())) (seqAndB 58 fileB (intB endB))
theorem pageE : ElInfo 29 56 rowsB (.agg #[.slice none 0 0]) 24 := ⟨Tryz.underlying56, pageInfo, rfl, by decide, by decide, fun x h u hu => by
  have : u ∈ [Value.slice h.1 h.2.1 h.2.2] := hu
  rw [List.mem_singleton.1 this]; rfl⟩
theorem fileE : ElInfo 58 24 fileB (.agg #[.int .i64 0, .slice none 0 0, .int .i64 0, .bool false]) 48 := ⟨Tryz.underlying24, fileInfo, rfl, by decide, by decide, fun x h u hu => by
  have : u ∈ [Value.int .i64 x.fName, .slice h.1.1 h.1.2.1 h.1.2.2, .int .i64 x.fChecksum, .bool x.fSealed] := hu
  simp only [List.mem_cons, List.not_mem_nil, or_false] at this
  rcases this with rfl | rfl | rfl | rfl <;> rfl⟩
theorem file_blk {w : World} {B n c : Nat} {a : Option Addr} {x0 : Int} {ps : List (BEl rowsB)} {x2 : Int} {x3 : Bool} (h : Blk 29 rowsB w B (.slice a n c) ps) (h0 : I64 x0) (h2 : I64 x2) :
    fileB.blk w B ⟨x0, ps.map BEl.x, x2, x3⟩ ((a, n, c), ()) (blkOf (.slice a n c) ++ gsOf ps) :=
  ⟨h0, _, [], (List.append_nil _).symm, ⟨ps, rfl, h, rfl⟩, ⟨h2, rfl⟩, fun _ _ h => by cases h⟩
theorem of_file_blk {w : World} {B n c : Nat} {a : Option Addr} {f : FileD} {G : List Nat} (h : fileB.blk w B f ((a, n, c), ()) G) :
    ∃ ps : List (BEl rowsB), f.fPages = ps.map BEl.x ∧ Blk 29 rowsB w B (.slice a n c) ps ∧ G = blkOf (.slice a n c) ++ gsOf ps ∧ I64 f.fName ∧ I64 f.fChecksum := by
  obtain ⟨h0, G1, G2, e, ⟨ps, e1, hb, e2⟩, ⟨h2, e3⟩, -⟩ := h
  have e3' : G2 = [] := e3
  exact ⟨ps, e1, hb, by rw [e, e2, e3', List.append_nil], h0, h2⟩
theorem disk_blk {w : World} {B n c : Nat} {a : Option Addr} {nx : Int} {fs : List (BEl fileB)} (h : Blk 58 fileB w B (.slice a n c) fs) (h1 : I64 nx) :
    diskB.blk w B ⟨fs.map BEl.x, nx⟩ ((a, n, c), ()) (blkOf (.slice a n c) ++ gsOf fs) :=
  ⟨_, [], (List.append_nil _).symm, ⟨fs, rfl, h, rfl⟩, ⟨h1, rfl⟩, fun _ _ h => by cases h⟩
theorem of_disk_blk {w : World} {B n c : Nat} {a : Option Addr} {d : DiskD} {G : List Nat} (h : diskB.blk w B d ((a, n, c), ()) G) :
    ∃ fs : List (BEl fileB), d.fFiles = fs.map BEl.x ∧ Blk 58 fileB w B (.slice a n c) fs ∧ G = blkOf (.slice a n c) ++ gsOf fs ∧ I64 d.fNextName := by
  obtain ⟨G1, G2, e, ⟨fs, e1, hb, e2⟩, ⟨h1, e3⟩, -⟩ := h
  have e3' : G2 = [] := e3
  exact ⟨fs, e1, hb, by rw [e, e2, e3', List.append_nil], h1⟩
def GivesDisk (Y : DiskD) (w : World) (e : Ending) (w' : World) : Prop :=
  ∃ (a : Option Addr) (n c : Nat) (G : List Nat), e = .returned (.agg #[.slice a n c, .int .i64 Y.fNextName]) ∧ diskB.blk w' w.heap.size Y ((a, n, c), ()) G ∧ Below w.heap.size w w'
def Kept (B : Nat) (w w' : World) : Prop := Below B w w' ∧ B ≤ w'.heap.size
theorem Kept.refl {B : Nat} {w : World} (h : B ≤ w.heap.size) : Kept B w w := ⟨Below.refl _ _, h⟩
theorem Kept.drew {B : Nat} {w w' : World} (h : Kept B w w') : Kept B w w'.drew := ⟨h.1.drew, h.2⟩
theorem Kept.alloc {B : Nat} {w w' : World} (h : Kept B w w') (o : Obj) : Kept B w (w'.alloc o) := ⟨h.1.alloc h.2 o, Nat.le_trans h.2 (by simp)⟩
theorem Kept.grown {B : Nat} {w w' w'' : World} {row : Option Nat} (h : Kept B w w') (hg : w'.grownBy w'' row) (hr : ∀ k, row = some k → B ≤ k) : Kept B w w'' := ⟨h.1.grown hg h.2 hr, Nat.le_trans h.2 hg.size⟩
theorem Kept.set {B : Nat} {w w' : World} (h : Kept B w w') {p : Addr} (hp : B ≤ p.block) (u : Value) : Kept B w (w'.setCell p u) := ⟨h.1.setCell hp u, by simpa [World.setCell] using h.2⟩
theorem Kept.below {B : Nat} {w w' w'' : World} (h : Kept B w w') (hb : Below w'.heap.size w' w'') : Kept B w w'' := ⟨h.1.trans (hb.mono h.2), Nat.le_trans h.2 hb.size⟩
theorem Kept.mono {B B' : Nat} {w w' : World} (h : Kept B w w') (hb : B' ≤ B) : Kept B' w w' := ⟨h.1.mono hb, Nat.le_trans hb h.2⟩
theorem Kept.trans {B : Nat} {w w' w'' : World} (h : Kept B w w') (h' : Kept B w' w'') : Kept B w w'' := ⟨h.1.trans h'.1, h'.2⟩
theorem Kept.cell {B : Nat} {w w' : World} (h : Kept B w w') {b j : Nat} {u : Value} (hb : b < B) (hc : w.cell? ⟨b, j, none⟩ = some u) : w'.cell? ⟨b, j, none⟩ = some u := (h.1.cell hb).trans hc
theorem Kept.frozen {B : Nat} {w w' : World} (h : Kept B w w') {b j : Nat} {u : Bool} (hb : b < B) (hc : w.frozen? ⟨b, j, none⟩ = u) : w'.frozen? ⟨b, j, none⟩ = u := (h.1.frozen hb).trans hc
theorem Kept.heap {B : Nat} {w w' : World} (h : Kept B w w') {b : Nat} (hb : b < B) {o : Obj} (hc : w.heap[b]? = some o) : w'.heap[b]? = some o := (h.1.block b hb).trans hc
theorem blk_row {w : World} {B : Nat} {T : TypeId} {α : Type} {s : BRep α} {v : Value} {es : List (BEl s)} (h : Blk T s w B v es) : ∀ k, v.ownBlock = some k → B ≤ k := fun k hk => (h.lt k (List.mem_append_left _ (blkOf_mem.2 hk))).1
theorem Blk.kept {α : Type} {T : TypeId} {s : BRep α} {w w' : World} {B B' : Nat} {v : Value} {es : List (BEl s)} (h : Blk T s w B v es) (hk : Kept B' w w') (hlt : ∀ g ∈ blkOf v ++ gsOf es, g < B') : Blk T s w' B v es :=
  h.keep ⟨hk.1.size, fun g hg => hk.1.block g (hlt g hg)⟩
theorem Blk.put {α : Type} {T : TypeId} {s : BRep α} {w : World} {B g i : Nat} {v : Value} {es : List (BEl s)} (h : Blk T s w B v es) (u : Value) (hne : ∀ b ∈ blkOf v ++ gsOf es, b ≠ g) : Blk T s (w.setCell ⟨g, i, none⟩ u) B v es :=
  h.keep ((SameBlk.refl _ _).set u fun hm => hne g hm rfl)
theorem map_next {α β : Type} {f : α → β} {es : List α} {xs : List β} {k : Nat} {e : α} {x : β} (h : es.map f = xs.take k) (hx : xs[k]? = some x) (he : f e = x) : (es ++ [e]).map f = xs.take (k + 1) := by
  have hk := idx_lt hx
  rw [List.map_append, h, List.take_succ_eq_append_getElem hk]
  rw [List.getElem?_eq_getElem hk] at hx
  rw [Option.some.inj hx, List.map_singleton, he]
theorem push_ne {α : Type} {s : BRep α} {w : World} {v : Value} {es : List (BEl s)} {e : BEl s} {g n c xb : Nat} (hat : v.ownBlock = some g ∨ w.heap.size ≤ g) (hx : xb ∉ blkOf v ++ gsOf es) (hxl : xb < w.heap.size) (he : xb ∉ e.G) : xb ∉ blkOf (.slice (some ⟨g, 0, none⟩) n c) ++ gsOf (es ++ [e]) := fun hm => by
  rw [blkOf_some, gs_snoc, List.singleton_append] at hm
  rcases List.mem_cons.1 hm with h | h
  · rcases hat with h1 | h1
    · exact hx (List.mem_append_left _ (blkOf_mem.2 (by rw [h1, h])))
    · have : xb = g := h
      omega
  · rcases List.mem_append.1 h with h | h
    · exact hx (List.mem_append_right _ h)
    · exact he h
theorem cell_out {v : World} {b g i j : Nat} {u x : Value} (h : v.cell? ⟨b, j, none⟩ = some u) (hne : b ≠ g) : (v.setCell ⟨g, i, none⟩ x).cell? ⟨b, j, none⟩ = some u :=
  (World.cell?_setCell_other _ _ _ _ (fun e => by injection e with e _ _; exact hne e.symm)).trans h
def cellOr (v : World) (b j : Nat) : Value := (v.cell? ⟨b, j, none⟩).getD (.bool false)
structure Boxed1 (B fb k : Nat) (w v : World) : Prop where
  kept : Kept B w v
  low : B ≤ fb
  box : ∃ cs T, v.heap[fb]? = some (.cells cs T (0, 0)) ∧ cs.size = k
theorem Boxed1.drew {B fb k : Nat} {w v : World} (h : Boxed1 B fb k w v) : Boxed1 B fb k w v.drew := ⟨h.kept.drew, h.low, h.box⟩
theorem Boxed1.alloc {B fb k : Nat} {w v : World} (h : Boxed1 B fb k w v) (o : Obj) : Boxed1 B fb k w (v.alloc o) := by
  obtain ⟨cs, T, h1, h2⟩ := h.box
  exact ⟨h.kept.alloc o, h.low, cs, T, (Below.heap_alloc _ _ _ (lt_of_block h1)).trans h1, h2⟩
theorem Boxed1.below {B fb k : Nat} {w v v' : World} (h : Boxed1 B fb k w v) (hb : Below v.heap.size v v') : Boxed1 B fb k w v' := by
  obtain ⟨cs, T, h1, h2⟩ := h.box
  exact ⟨h.kept.below hb, h.low, cs, T, (hb.block _ (lt_of_block h1)).trans h1, h2⟩
theorem Boxed1.put {B fb k : Nat} {w v : World} (h : Boxed1 B fb k w v) (j : Nat) (u : Value) : Boxed1 B fb k w (v.setCell ⟨fb, j, none⟩ u) := by
  obtain ⟨cs, T, h1, h2⟩ := h.box
  exact ⟨h.kept.set h.low u, h.low, _, T, Joins.block_setCell h1 u, by simpa using h2⟩
theorem Boxed1.grown {B fb k : Nat} {w v v' : World} {row : Option Nat} (h : Boxed1 B fb k w v) (hg : v.grownBy v' row) (hr : ∀ k, row = some k → B ≤ k) (hn : row ≠ some fb) : Boxed1 B fb k w v' := by
  obtain ⟨cs, T, h1, h2⟩ := h.box
  exact ⟨h.kept.grown hg hr, h.low, cs, T, (hg.block _ (lt_of_block h1) fun e => hn e.symm).trans h1, h2⟩
theorem Boxed1.cell {B fb k : Nat} {w v : World} (h : Boxed1 B fb k w v) (j : Nat) (hj : j < k) : v.cell? ⟨fb, j, none⟩ = some (cellOr v fb j) ∧ v.frozen? ⟨fb, j, none⟩ = false := by
  obtain ⟨cs, T, h1, h2⟩ := h.box
  have h3 : v.cell? ⟨fb, j, none⟩ = some (cs[j]'(by omega)) := box_cell h1 j _ (by simp)
  exact ⟨by unfold cellOr; rw [h3]; rfl, by simp [World.frozen?, h1]⟩
theorem step_appendRows {ops : Array Oper} {o : Oper} {a : Act} {K : Act → World → Prop} {Q : Exit → Act → World → Prop} {E : Prop} {w : World} {B : Nat} {M L : List R} {v : Value} (so xo : Operand) (d : Option Addr) (m q : Nat)
    (hgd : o.guard = none) (ho : o.op = .call { callee := .builtin .append, args := #[so, xo], argTypes := #[27, 27] })
    (hs : a.eval so = v) (hx : a.eval xo = .slice d m q) (hown : Mine w B v M) (hin : IsRows w d m L) (hq : d = none → q = 0) (hB : B ≤ w.heap.size) (hlen : M.length + m ≤ 1000000000000)
    (h : ∀ v' w', Mine w' B v' (M ++ L) → w.grownBy w' v.ownBlock → K (a.put o.dst v') w') :
    if Region.wanted o (yielded ops a.tmps) = true then Oper.wp Tryz.prog o a w K Q else E := by
  rcases d with _ | ad
  · obtain rfl := hq rfl
    have h0 : m = 0 := by
      rcases hin.2.2 with h0 | ⟨b, o, e, -⟩
      · exact h0
      · cases e
    subst h0
    have hL : L = [] := List.eq_nil_of_length_eq_zero hin.1
    subst hL
    have hw : Region.wanted o (yielded ops a.tmps) = true := by simp [Region.wanted, hgd]
    rw [if_pos hw]
    obtain ⟨i0, hi, hz0, hz1, hz2⟩ := info_parts rowInfo
    have hr := run_append_owned_none (P := Tryz.prog) w B 27 o.type 72 i0 3 Tryz.underlying27 hi v M.length (cells3 M) hown
    unfold Oper.wp
    simp [execOp, ho, resolve, invoke, builtin, hs, hx, hr, Result.andThen]
    exact h v w (by rw [List.append_nil]; exact hown) (World.grownBy.refl _ _)
  · obtain ⟨ad', ha, hc⟩ := hin.cell
    refine step_appendR so xo ad m q hgd ho hs hx hown hin.1 (fun j u hj => ?_) hB hlen fun v' w' h1 h2 _ => h v' w' h1 h2
    have hjl : j < L.length * 3 := by have := (List.getElem?_eq_some_iff.1 hj).1; rwa [cells3_length] at this
    have : ad = ad' := by injection ha (by have := hin.1; omega)
    rw [this]
    exact hc j u hj
end Go.Proofs.YtjdjceohlcimaaaGreatDoor
/- The program's isUpTo, by contract. -/
namespace Go.Proofs.YtjdjceohlcimaaaGreatDoor
open Go.RowKit
theorem iup (n b : Int) (w : World) : Calls Tryz.prog 50 #[.int .i64 n, .int .i64 b] w fun e w' => e = .returned (.bool (decide (0 ≤ n ∧ n ≤ b))) ∧ w = w' := by
  go_enter Tryz.func50, Tryz.ntmps50
  go_wp2
  all_goals go_ret
  all_goals simp_all
  all_goals omega
end Go.Proofs.YtjdjceohlcimaaaGreatDoor
/- The program's IsValidRow and RowCost, by contract. -/
namespace Go.Proofs.YtjdjceohlcimaaaGreatDoor
open Go.RowKit
theorem ivalid (r : R) (w : World) : Calls Tryz.prog 74 #[r.val] w fun e w' => e = .returned (.bool r.ok) ∧ Below w.heap.size w w' := by
  obtain ⟨k, v, d⟩ := r
  unfold R.val
  go_enter Tryz.func74, Tryz.ntmps74
  go_wp2_with fail
  refine (iup _ _ _).mono ?_
  rintro e w1 ⟨rfl, rfl⟩
  go_wp2_with fail
  case isTrue =>
    refine (iup _ _ _).mono ?_
    rintro e w1 ⟨rfl, rfl⟩
    go_wp2_with fail
    case isTrue =>
      refine (iup _ _ _).mono ?_
      rintro e w1 ⟨rfl, rfl⟩
      go_wp2_with fail
      all_goals go_ret
      all_goals refine ⟨?_, (Below.refl _ _).alloc (Nat.le_refl _) _⟩
      all_goals simp_all [R.ok]
    all_goals go_ret
    all_goals refine ⟨?_, (Below.refl _ _).alloc (Nat.le_refl _) _⟩
    all_goals simp_all [R.ok]
    all_goals omega
  all_goals go_ret
  all_goals refine ⟨?_, (Below.refl _ _).alloc (Nat.le_refl _) _⟩
  all_goals simp_all [R.ok]
  all_goals omega
theorem icost (r : R) (hr : r.wf) (w : World) : Calls Tryz.prog 73 #[r.val] w fun e w' => e = .returned (.int .i64 r.cost) ∧ Below w.heap.size w w' := by
  have hw := hr.2.2
  have H := Lib.hid (ivalid r)
  cases hok : r.ok with
  | true =>
    have hc : r.cost = 1 + r.width := by unfold R.cost; rw [hok]; rfl
    have hk := R.ok_iff.1 hok
    rw [hc]
    unfold R.val
    go_enter Tryz.func73, Tryz.ntmps73
    go_wp2_with fail
    refine (H.out _).mono ?_
    rintro e w1 ⟨rfl, b1⟩
    obtain ⟨⟨c0, c1, c2⟩, b2⟩ := box_row (r := r) b1
    rw [hok]
    simp only [Nat.zero_add] at c2
    go_wp2_with fail
    go_ret
    exact ⟨rfl, b2⟩
  | false =>
    have hc : r.cost = 0 := by unfold R.cost; rw [hok]; rfl
    rw [hc]
    unfold R.val
    go_enter Tryz.func73, Tryz.ntmps73
    go_wp2_with fail
    refine (H.out _).mono ?_
    rintro e w1 ⟨rfl, b1⟩
    obtain ⟨⟨c0, c1, c2⟩, b2⟩ := box_row (r := r) b1
    rw [hok]
    go_wp2_with fail
    go_ret
    exact ⟨rfl, b2⟩
end Go.Proofs.YtjdjceohlcimaaaGreatDoor
/- The program's AreValidRows and TotalCost, by contract. -/
namespace Go.Proofs.YtjdjceohlcimaaaGreatDoor
open Go.RowKit
set_option maxRecDepth 100000 in
theorem iare (a : Option Addr) (len cap : Nat) (L : List R) (w : World) (h : IsRows w a len L) (hlen : len ≤ 9223372036854775807) :
    Calls Tryz.prog 59 #[.slice a len cap] w fun e w' => e = .returned (.bool (okRows L)) ∧ Below w.heap.size w w' := by
  obtain ⟨hl, hwf, hc⟩ := h
  have HL := Lib.hid hl
  have HC := Lib.hid hc
  clear hl hwf hc
  by_cases h24 : (24 : Int) < len
  · have hno : okRows L = false := by unfold okRows; rw [HL.out, decide_eq_false (by omega), Bool.false_and]
    have HN := Lib.hid hno
    clear hno
    go_enter Tryz.func59, Tryz.ntmps59
    go_wp2_with fail
    go_ret
    exact ⟨by rw [HN.out]; rfl, Below.refl _ _⟩
  go_enter Tryz.func59, Tryz.ntmps59
  go_wp2_with fail
  go_loopw [10] (fun i wr => ∃ k : Nat, i = .int .i64 k ∧ k ≤ len ∧ Hid (allOk (L.take k) = true) ∧ Hid (Below w.heap.size w wr)) (fun i _ => len - (intOf i).toNat)
  case atStart => exact ⟨0, rfl, Nat.zero_le _, rfl, Below.refl _ _⟩
  case round =>
    obtain ⟨k, rfl, hk, hok, hb⟩ := hrel
    by_cases hlt : k < len
    · obtain ⟨b, o, rfl, hbl, hc⟩ : ∃ b o : Nat, a = some ⟨b, o, none⟩ ∧ b < w.heap.size ∧ ∀ t, t < len → RowAt w b (o + t * 3) (L.getD t R.zero) := by
        rcases HC.out with h0 | h0
        · omega
        · exact h0
      obtain ⟨r, hr⟩ : ∃ r, r = L.getD k R.zero := ⟨_, rfl⟩
      have hat : RowAt wr b (o + k * 3) r := by rw [hr]; exact (hc k hlt).below hb.out hbl
      obtain ⟨c0, c1, c2⟩ := hat
      have HR := Lib.hid hr
      clear hr hc
      go_wp2_with fail
      refine (ivalid r _).mono ?_
      rintro e w1 ⟨rfl, b1⟩
      have B1 := Lib.hid (hb.out.trans ((box_row (r := r) b1).2.mono hb.out.size))
      clear b1
      cases hv : r.ok with
      | true =>
        go_wp2_with fail
        go_roundw
        case rel => exact ⟨k + 1, by go_num, by omega, by show _ = _; rw [allOk_take L k (by rw [HL.out]; exact hlt), hok.out, ← HR.out, hv]; rfl, B1⟩
        case measure => simp [intOf]; omega
      | false =>
        have hno : okRows L = false := by unfold okRows; rw [allOk_bad L k (by rw [HL.out]; exact hlt) (by rw [← HR.out]; exact hv), Bool.and_false]
        go_wp2_with fail
        go_ret
        exact ⟨by rw [hno]; rfl, B1.out⟩
    · have hkl : k = len := by omega
      have hall : okRows L = true := by
        have : allOk L = true := by have := hok.out; rwa [hkl, ← HL.out, List.take_length] at this
        unfold okRows; rw [this, Bool.and_true, HL.out, decide_eq_true_eq]; omega
      clear hkl
      have HA := Lib.hid hall
      clear hall
      go_wp2_with fail
      go_ret
      exact ⟨by rw [HA.out]; rfl, hb.out⟩
set_option maxRecDepth 100000 in
theorem itotal (a : Option Addr) (len cap : Nat) (L : List R) (w : World) (h : IsRows w a len L) (hlen : len ≤ 1000000000000) :
    Calls Tryz.prog 58 #[.slice a len cap] w fun e w' => e = .returned (.int .i64 (total L)) ∧ Below w.heap.size w w' := by
  have HW := Lib.hid h.wf
  obtain ⟨hl, -, hc⟩ := h
  have HL := Lib.hid hl
  have HC := Lib.hid hc
  clear hl hc
  go_enter Tryz.func58, Tryz.ntmps58
  go_wp2_with fail
  go_loopw [3, 8] (fun n i wr => ∃ (k : Nat) (v : Int), n = .int .i64 v ∧ i = .int .i64 k ∧ k ≤ len ∧ 0 ≤ v ∧ v ≤ 4 * k ∧ Hid (total (L.take k) = v) ∧ Hid (Below w.heap.size w wr)) (fun _ i _ => len - (intOf i).toNat)
  case atStart => exact ⟨0, 0, rfl, rfl, Nat.zero_le _, by omega, by omega, rfl, Below.refl _ _⟩
  case round =>
    obtain ⟨k, v, rfl, rfl, hk, hv0, hv1, hsum, hb⟩ := hrel
    by_cases hlt : k < len
    · obtain ⟨b, o, rfl, hbl, hc⟩ : ∃ b o : Nat, a = some ⟨b, o, none⟩ ∧ b < w.heap.size ∧ ∀ t, t < len → RowAt w b (o + t * 3) (L.getD t R.zero) := by
        rcases HC.out with h0 | h0
        · omega
        · exact h0
      obtain ⟨r, hr⟩ : ∃ r, r = L.getD k R.zero := ⟨_, rfl⟩
      have hat : RowAt wr b (o + k * 3) r := by rw [hr]; exact (hc k hlt).below hb.out hbl
      have hrw : r.wf := by rw [hr]; exact HW.out k hlt
      obtain ⟨c0, c1, c2⟩ := hat
      have HR := Lib.hid hr
      have HRW := Lib.hid hrw
      clear hr hc hrw
      go_wp2_with fail
      refine (icost r HRW.out _).mono ?_
      rintro e w1 ⟨rfl, b1⟩
      have B1 := Lib.hid (hb.out.trans ((box_row (r := r) b1).2.mono hb.out.size))
      clear b1
      obtain ⟨x, hx⟩ : ∃ x, x = r.cost := ⟨_, rfl⟩
      have hx0 : 0 ≤ x ∧ x ≤ 4 := by rw [hx]; exact r.cost_range
      obtain ⟨hx0, hx4⟩ := hx0
      have HX := Lib.hid hx
      rw [← hx]
      clear hx
      go_wp2_with fail
      go_roundw
      case rel => exact ⟨k + 1, v + x, by go_num, by go_num, by omega, by omega, by omega, by show _ = _; rw [total_take L k (by rw [HL.out]; exact hlt), hsum.out, ← HR.out, HX.out], B1⟩
      case measure => simp [intOf]; omega
    · have hkl : k = len := by omega
      have hall : total L = v := by have := hsum.out; rwa [hkl, ← HL.out, List.take_length] at this
      clear hkl
      have HA := Lib.hid hall
      clear hall
      go_wp2_with fail
      go_ret
      exact ⟨by rw [HA.out]; rfl, hb.out⟩
end Go.Proofs.YtjdjceohlcimaaaGreatDoor
/- The program's IsValidPage, by contract. -/
namespace Go.Proofs.YtjdjceohlcimaaaGreatDoor
open Go.RowKit
set_option maxRecDepth 100000 in
theorem ivalidpage (a : Option Addr) (n c : Nat) (p : List R) (w : World) (h : SeqIn rowRep w a n p) (hn : n ≤ 1000000000000) :
    Calls Tryz.prog 31 #[.agg #[.slice a n c]] w fun e w' => e = .returned (.bool (R.pageOk p)) ∧ Below w.heap.size w w' := by
  have b0 : Below w.heap.size w (w.alloc (.cells #[.slice a n c] 29)) := (Below.refl _ _).alloc (Nat.le_refl _) _
  have R0 := Lib.hid (rows_in (h.keep b0))
  have C0 := heap_alloc_new w (.cells #[.slice a n c] 29)
  have HC := Lib.hid C0
  have B0 := Lib.hid b0
  have hsz : w.heap.size < (w.alloc (.cells #[.slice a n c] 29)).heap.size := by simp
  have HV := Lib.hid (show R.pageOk p = (okRows p && decide (1 ≤ total p ∧ total p ≤ 8)) from rfl)
  clear b0 h C0
  go_enter Tryz.func31, Tryz.ntmps31
  go_wp2_with fail
  refine (itotal a n c p _ R0.out (by omega)).mono ?_
  rintro e w1 ⟨rfl, b1⟩
  have q1 := (b1.block _ hsz).trans HC.out
  have d1 : w1.cell? ⟨w.heap.size, 0, none⟩ = some (.slice a n c) := by simp [World.cell?, q1]
  have R1 := Lib.hid (R0.out.keep b1)
  have B1 := Lib.hid (B0.out.trans (b1.mono B0.out.size))
  clear b1 q1
  obtain ⟨T, hT⟩ : ∃ T, T = total p := ⟨_, rfl⟩
  rw [← hT] at HV ⊢
  clear hT
  go_wp2_with fail
  refine (iare a n c p _ R1.out (by omega)).mono ?_
  rintro e w2 ⟨rfl, b2⟩
  have B2 := Lib.hid (B1.out.trans (b2.mono B1.out.size))
  clear b2
  obtain ⟨z, hz⟩ : ∃ z, z = okRows p := ⟨_, rfl⟩
  rw [← hz] at HV ⊢
  clear hz
  cases z with
  | false =>
    have HF := Lib.hid (show R.pageOk p = false by rw [HV.out]; rfl)
    go_wp2_with fail
    go_ret
    exact ⟨by rw [HF.out]; rfl, B2.out⟩
  | true =>
    have HF := Lib.hid (show R.pageOk p = decide (1 ≤ T ∧ T ≤ 8) by rw [HV.out]; rfl)
    by_cases h1 : 1 ≤ T
    · by_cases h8 : T ≤ 8
      · have HZ := Lib.hid (show R.pageOk p = true by rw [HF.out]; exact decide_eq_true ⟨h1, h8⟩)
        go_wp2_with fail
        go_ret
        exact ⟨by rw [HZ.out]; rfl, B2.out⟩
      · have HZ := Lib.hid (show R.pageOk p = false by rw [HF.out]; exact decide_eq_false fun h => h8 h.2)
        have HD := Lib.hid (decide_eq_false h8)
        go_wp2_with fail
        go_ret
        exact ⟨by rw [HZ.out, ← HD.out]; rfl, B2.out⟩
    · have HZ := Lib.hid (show R.pageOk p = false by rw [HF.out]; exact decide_eq_false fun h => h1 h.1)
      go_wp2_with fail
      go_ret
      exact ⟨by rw [HZ.out]; rfl, B2.out⟩
end Go.Proofs.YtjdjceohlcimaaaGreatDoor
/- The program's CountPages, isValidFile and IsValidDisk, by contract. -/
namespace Go.Proofs.YtjdjceohlcimaaaGreatDoor
open Go.RowKit
set_option linter.unusedVariables false
set_option maxRecDepth 100000 in
theorem icountp (a : Option Addr) (n c : Nat) (X : DiskD) (w : World) (h : diskRep.inn w X ((a, n, c), ())) (hw : wtDisk X ≤ 1000000000) :
    Calls Tryz.prog 21 #[.agg #[.slice a n c, .int .i64 X.fNextName]] w fun e w' => e = .returned (.int .i64 (DiskD.count X.fFiles : Nat)) ∧ Below w.heap.size w w' := by
  obtain ⟨W, hW⟩ : ∃ W, W = w.alloc (.cells #[.slice a n c, .int .i64 X.fNextName] 26) := ⟨_, rfl⟩
  have hb : Below w.heap.size w W := by rw [hW]; exact (Below.refl _ _).alloc (Nat.le_refl _) _
  have HB := Lib.hid hb
  have HI := Lib.hid (disk_in (h.keep hb)).1
  have HL := Lib.hid (disk_len h).1
  have hnm := (disk_len h).2
  unfold maxLen at hnm
  have HC := Lib.hid (Nat.le_trans (DiskD.count_wt X.fFiles) (show wtFiles X.fFiles ≤ 1000000000 from hw))
  have c0 : W.cell? ⟨w.heap.size, 0, none⟩ = some (.slice a n c) := by rw [hW]; simp
  clear h hb
  go_enter Tryz.func21, Tryz.ntmps21
  go_upto_region 2 with fail
  rw [← hW]
  clear hW
  go_wp2_with fail
  go_loopw [3, 9] (fun q i wr => ∃ (t m : Nat), q = .int .i64 m ∧ i = .int .i64 t ∧ t ≤ n ∧ Hid (m = DiskD.count (X.fFiles.take t)) ∧ Hid (Kept W.heap.size W wr)) (fun _ i _ => n - (intOf i).toNat)
  case atStart => exact ⟨0, 0, rfl, rfl, Nat.zero_le _, rfl, Kept.refl (Nat.le_refl _)⟩
  case round =>
    obtain ⟨t, m, rfl, rfl, ht, hm, hk⟩ := hrel
    by_cases hlt : t < n
    · have htl : t < X.fFiles.length := by have := HL.out; omega
      have hp : X.fFiles[t]? = some X.fFiles[t] := by simp [htl]
      obtain ⟨b, o, hd, rfl, hbl, hce, hin⟩ := HI.out.el hp
      have hnx := DiskD.count_next X.fFiles t htl
      have hle := DiskD.count_take X.fFiles (t + 1)
      have hcc := HC.out
      obtain ⟨f, hf⟩ : ∃ f, f = X.fFiles[t] := ⟨_, rfl⟩
      rw [← hf] at hce hin hnx
      obtain ⟨x0, x1, x2, x3⟩ := f
      obtain ⟨⟨a1, n1, k1⟩, ⟨⟩⟩ := hd
      obtain ⟨r0, ⟨h1, hc1⟩, r2, -⟩ := hin
      have d0 : wr.cell? ⟨b, o + t * 4, none⟩ = some (.int .i64 x0) := hk.out.cell hbl (hce 0 _ rfl)
      have d1 : wr.cell? ⟨b, o + t * 4 + 1, none⟩ = some (.slice a1 n1 k1) := hk.out.cell hbl (hce 1 _ rfl)
      have d2 : wr.cell? ⟨b, o + t * 4 + 2, none⟩ = some (.int .i64 x2) := hk.out.cell hbl (hce 2 _ rfl)
      have d3 : wr.cell? ⟨b, o + t * 4 + 3, none⟩ = some (.bool x3) := hk.out.cell hbl (hce 3 _ rfl)
      have hn1 : x1.length = n1 := h1.1
      have hnx' : DiskD.count (X.fFiles.take (t + 1)) = m + n1 := by rw [hnx, ← hm.out, ← hn1]
      have hsm : m + n1 ≤ 1000000000 := by omega
      have HNX := Lib.hid hnx'
      have KA := Lib.hid (hk.out.alloc (.cells #[.int .i64 x0, .slice a1 n1 k1, .int .i64 x2, .bool x3] 58))
      clear hf hp hce h1 hc1 r0 r2 hnx hle hcc hn1 hnx'
      go_wp2_with fail
      go_roundw
      case rel => exact ⟨t + 1, m + n1, by go_num, by go_num, by omega, HNX.out.symm, KA⟩
      case measure => simp [intOf]; omega
    · have hkk : X.fFiles.take t = X.fFiles := List.take_of_length_le (by have := HL.out; omega)
      rw [hkk] at hm
      have KB := Lib.hid (HB.out.trans (hk.out.1.mono HB.out.size))
      clear hkk
      go_wp2_with fail
      go_ret
      exact ⟨by rw [hm.out]; rfl, KB.out⟩
theorem all_next (P : List (List R)) {t : Nat} {p : List R} (h : P[t]? = some p) : R.allPages (P.take (t + 1)) = (R.allPages (P.take t) && R.pageOk p) := by
  have ht := idx_lt h
  rw [List.getElem?_eq_getElem ht] at h
  rw [List.take_succ_eq_append_getElem ht, Option.some.inj h]
  simp [R.allPages]
theorem all_bad (P : List (List R)) {t : Nat} {p : List R} (h : P[t]? = some p) (hp : R.pageOk p = false) : R.allPages P = false := by
  unfold R.allPages
  rw [List.all_eq_false]
  exact ⟨p, List.mem_of_getElem? h, by rw [hp]; simp⟩
set_option maxRecDepth 100000 in
set_option maxHeartbeats 1000000 in
theorem ivalidfile (x0 : Int) (a1 : Option Addr) (n1 k1 : Nat) (x1 : List (List R)) (x2 : Int) (x3 : Bool) (w : World) (h : SeqIn pageRep w a1 n1 x1) (hf : x1.flatten.length ≤ 1000000000) :
    Calls Tryz.prog 51 #[.agg #[.int .i64 x0, .slice a1 n1 k1, .int .i64 x2, .bool x3]] w fun e w' => e = .returned (.bool (FileD.ok ⟨x0, x1, x2, x3⟩)) ∧ Below w.heap.size w w' := by
  obtain ⟨W, hW⟩ : ∃ W, W = w.alloc (.cells #[.int .i64 x0, .slice a1 n1 k1, .int .i64 x2, .bool x3] 58) := ⟨_, rfl⟩
  have hb : Below w.heap.size w W := by rw [hW]; exact (Below.refl _ _).alloc (Nat.le_refl _) _
  have k0 : W.heap[w.heap.size]? = some (.cells #[.int .i64 x0, .slice a1 n1 k1, .int .i64 x2, .bool x3] 58 (0, 0)) := by rw [hW]; exact heap_alloc_new _ _
  have HB := Lib.hid hb
  have HI := Lib.hid (h.keep hb)
  have HL := Lib.hid h.1
  have hnm := h.2.1
  unfold maxLen at hnm
  have HF := Lib.hid hf
  have HV := Lib.hid (show FileD.ok ⟨x0, x1, x2, x3⟩ = (R.allPages x1 && (x3 || decide (x2 = 0))) from rfl)
  have e1 := box_cell k0 1 _ rfl
  have e2 := box_cell k0 2 _ rfl
  have e3 := box_cell k0 3 _ rfl
  clear h hb k0 hf
  go_enter Tryz.func51, Tryz.ntmps51
  go_upto_region 1 with fail
  rw [← hW]
  clear hW
  by_cases hbad : x3 = false ∧ x2 ≠ 0
  · obtain ⟨rfl, hne⟩ := hbad
    have hne2 : (x2 != 0) = true := by simpa using hne
    have HN := Lib.hid (show FileD.ok ⟨x0, x1, x2, false⟩ = false by rw [HV.out, decide_eq_false hne]; simp)
    go_wp2_with fail
    go_ret
    exact ⟨by rw [HN.out]; rfl, HB.out⟩
  have HW : Hid (FileD.ok ⟨x0, x1, x2, x3⟩ = R.allPages x1) := Lib.hid (by
    rw [HV.out]
    cases x3 with
    | true => simp
    | false =>
      have : x2 = 0 := by
        by_cases h1 : x2 = 0
        · exact h1
        · exact absurd ⟨rfl, h1⟩ hbad
      rw [decide_eq_true this]; simp)
  have hst : (x3 = true) ∨ (x3 = false ∧ x2 = 0) := by
    cases x3 with
    | true => exact .inl rfl
    | false => exact .inr ⟨rfl, by
        by_cases h1 : x2 = 0
        · exact h1
        · exact absurd ⟨rfl, h1⟩ hbad⟩
  clear hbad
  rcases hst with rfl | ⟨rfl, rfl⟩
  all_goals (
    go_wp2_with fail
    go_loopw [16] (fun i wr => ∃ (t : Nat), i = .int .i64 t ∧ t ≤ n1 ∧ Hid (R.allPages (x1.take t) = true) ∧ Hid (Kept W.heap.size W wr)) (fun i _ => n1 - (intOf i).toNat)
    case atStart => exact ⟨0, rfl, Nat.zero_le _, rfl, Kept.refl (Nat.le_refl _)⟩
    case round =>
      obtain ⟨t, rfl, ht, hall, hk⟩ := hrel
      by_cases hlt : t < n1
      · have htl : t < x1.length := by have := HL.out; omega
        obtain ⟨p, hp⟩ : ∃ p, x1[t]? = some p := ⟨x1[t], by simp [htl]⟩
        obtain ⟨b, o, d, k, m, rfl, hbl, hce, hin, -⟩ := HI.out.at hp
        have HP := Lib.hid hp
        have d0 : wr.cell? ⟨b, o + t, none⟩ = some (.slice d k m) := hk.out.cell hbl hce
        have hkn : k ≤ 1000000000 := by
          have h1 := flat_mem x1 t htl
          have h2 : x1[t] = p := by rw [List.getElem?_eq_getElem htl] at hp; exact Option.some.inj hp
          rw [h2] at h1
          have h3 := hin.1
          have h4 := HF.out
          omega
        have KA := Lib.hid (hk.out.alloc (.cells #[.slice d k m] 29))
        have PIN := Lib.hid (hin.keep KA.out.1)
        clear hp hce hin
        go_wp2_with fail
        refine (ivalidpage d k m p _ PIN.out (by omega)).mono ?_
        rintro e w5 ⟨rfl, b5⟩
        have K5 := Lib.hid (KA.out.below b5)
        have KB := Lib.hid (HB.out.trans (K5.out.1.mono HB.out.size))
        clear b5
        cases hpo : R.pageOk p with
        | false =>
          have HN := Lib.hid (HW.out.trans (all_bad x1 HP.out hpo))
          clear hpo
          go_wp2_with fail
          go_ret
          exact ⟨by rw [HN.out]; rfl, KB.out⟩
        | true =>
          have HN := Lib.hid (show R.allPages (x1.take (t + 1)) = true by rw [all_next x1 HP.out, hall.out, hpo]; rfl)
          clear hpo
          go_wp2_with fail
          go_roundw
          case rel => exact ⟨t + 1, by go_num, by omega, HN, K5⟩
          case measure => simp [intOf]; omega
      · have hkk : x1.take t = x1 := List.take_of_length_le (by have := HL.out; omega)
        rw [hkk] at hall
        have KB := Lib.hid (HB.out.trans (hk.out.1.mono HB.out.size))
        have HN := Lib.hid (HW.out.trans hall.out)
        clear hkk
        go_wp2_with fail
        go_ret
        exact ⟨by rw [HN.out]; rfl, KB.out⟩)
theorem okat_low {nx lo : Int} {F : List FileD} {t : Nat} {f : FileD} (hf : F[t]? = some f) (hlo : lo = DiskD.low F t) : DiskD.okAt nx F t = (decide (lo ≤ f.fName) && decide (f.fName < nx) && f.ok) := by
  rw [DiskD.okAt_some hf, hlo, Bool.decide_and]
set_option maxRecDepth 100000 in
set_option maxHeartbeats 2000000 in
theorem iokdisk (a : Option Addr) (n c : Nat) (X : DiskD) (w : World) (h : diskRep.inn w X ((a, n, c), ())) (hw : wtDisk X ≤ 1000000000) :
    Calls Tryz.prog 22 #[.agg #[.slice a n c, .int .i64 X.fNextName]] w fun e w' => e = .returned (.bool (DiskD.okD X)) ∧ Below w.heap.size w w' := by
  obtain ⟨W, hW⟩ : ∃ W, W = w.alloc (.cells #[.slice a n c, .int .i64 X.fNextName] 26) := ⟨_, rfl⟩
  have hb : Below w.heap.size w W := by rw [hW]; exact (Below.refl _ _).alloc (Nat.le_refl _) _
  have k0 : W.heap[w.heap.size]? = some (.cells #[.slice a n c, .int .i64 X.fNextName] 26 (0, 0)) := by rw [hW]; exact heap_alloc_new _ _
  have HB := Lib.hid hb
  have HX := Lib.hid (h.keep hb)
  have HI := Lib.hid (disk_in (h.keep hb)).1
  have HL := Lib.hid (disk_len h).1
  have hnm := (disk_len h).2
  unfold maxLen at hnm
  have HW := Lib.hid hw
  have FF : Hid (∀ v, Kept W.heap.size W v → v.cell? ⟨w.heap.size, 0, none⟩ = some (.slice a n c) ∧ v.cell? ⟨w.heap.size, 1, none⟩ = some (.int .i64 X.fNextName)) := Lib.hid fun v hv =>
    ⟨hv.cell (lt_of_block k0) (box_cell k0 0 _ rfl), hv.cell (lt_of_block k0) (box_cell k0 1 _ rfl)⟩
  obtain ⟨p0, p1⟩ := FF.out W (Kept.refl (Nat.le_refl _))
  clear h hb k0 hw
  go_enter Tryz.func22, Tryz.ntmps22
  go_upto_region 1 with fail
  rw [← hW]
  clear hW
  go_wp2_with fail
  refine (iup X.fNextName 1000 W).mono ?_
  rintro e w1 ⟨rfl, rfl⟩
  cases hN : decide (0 ≤ X.fNextName ∧ X.fNextName ≤ 1000) with
  | false =>
    have HV := Lib.hid (show DiskD.okD X = false by unfold DiskD.okD; rw [hN]; rfl)
    clear hN
    go_wp2_with fail
    go_ret
    exact ⟨by rw [HV.out]; rfl, HB.out⟩
  | true =>
    have HG := Lib.hid (of_decide_eq_true hN)
    clear hN
    go_wp2_with fail
    clear p0 p1
    refine (icountp a n c X W HX.out HW.out).mono ?_
    rintro e w2 ⟨rfl, b2⟩
    have K2 : Hid (Kept W.heap.size W w2) := Lib.hid ⟨b2, b2.size⟩
    obtain ⟨p0, p1⟩ := FF.out _ K2.out
    clear b2
    obtain ⟨m, hm⟩ : ∃ m, m = DiskD.count X.fFiles := ⟨_, rfl⟩
    rw [← hm]
    by_cases h40 : 40 < (m : Int)
    · have HV := Lib.hid (show DiskD.okD X = false by unfold DiskD.okD; rw [decide_eq_false (p := DiskD.count X.fFiles ≤ 40) (by omega)]; simp)
      have KB := Lib.hid (HB.out.trans (K2.out.1.mono HB.out.size))
      clear hm
      go_wp2_with fail
      go_ret
      exact ⟨by rw [HV.out]; rfl, KB.out⟩
    have HC := Lib.hid (show DiskD.count X.fFiles ≤ 40 by omega)
    have h40' : decide (40 < (m : Int)) = false := decide_eq_false h40
    have h40'' : decide (40 < m) = false := decide_eq_false (by omega)
    clear hm
    go_wp2_with fail
    clear p0 p1
    go_loopw [3, 18] (fun q i wr => ∃ (t : Nat) (lo : Int), q = .int .i64 lo ∧ i = .int .i64 t ∧ t ≤ n ∧ 0 ≤ lo ∧ lo ≤ 1000 ∧ Hid (lo = DiskD.low X.fFiles t) ∧ Hid (∀ s, s < t → DiskD.okAt X.fNextName X.fFiles s = true) ∧ Hid (Kept W.heap.size W wr)) (fun _ i _ => n - (intOf i).toNat)
    case atStart => exact ⟨0, 0, rfl, rfl, Nat.zero_le _, by omega, by omega, rfl, fun s hs => absurd hs (Nat.not_lt_zero _), K2⟩
    case round =>
      obtain ⟨t, lo, rfl, rfl, ht, hlo0, hlo1, hlow, hall, hk⟩ := hrel
      obtain ⟨p0, p1⟩ := FF.out wr hk.out
      by_cases hlt : t < n
      · have htl : t < X.fFiles.length := by have := HL.out; omega
        obtain ⟨f, hf⟩ : ∃ f, X.fFiles[t]? = some f := ⟨X.fFiles[t], by simp [htl]⟩
        obtain ⟨b, o, hd, rfl, hbl, hce, hin⟩ := HI.out.el hf
        have HF := Lib.hid hf
        have HFLAT : Hid (f.fPages.flatten.length ≤ 1000000000) := by
          have h1 := wt_file_at X.fFiles t htl
          have h2 := HW.out
          have h3 : X.fFiles[t] = f := by rw [List.getElem?_eq_getElem htl] at hf; exact Option.some.inj hf
          rw [h3] at h1
          have h4 : f.fPages.flatten.length ≤ wtFile f := flat_wt f.fPages
          have h5 : wtDisk X = wtFiles X.fFiles := rfl
          exact Lib.hid (by omega)
        have OK := Lib.hid (okat_low (nx := X.fNextName) hf hlow.out)
        obtain ⟨x0, x1, x2, x3⟩ := f
        obtain ⟨⟨a1, n1, k1⟩, ⟨⟩⟩ := hd
        have IN := Lib.hid hin.2.1.1
        have d0 : wr.cell? ⟨b, o + t * 4, none⟩ = some (.int .i64 x0) := hk.out.cell hbl (hce 0 _ rfl)
        have d1 : wr.cell? ⟨b, o + t * 4 + 1, none⟩ = some (.slice a1 n1 k1) := hk.out.cell hbl (hce 1 _ rfl)
        have d2 : wr.cell? ⟨b, o + t * 4 + 2, none⟩ = some (.int .i64 x2) := hk.out.cell hbl (hce 2 _ rfl)
        have d3 : wr.cell? ⟨b, o + t * 4 + 3, none⟩ = some (.bool x3) := hk.out.cell hbl (hce 3 _ rfl)
        obtain ⟨w3, hw3⟩ : ∃ u, u = wr.alloc (.cells #[.int .i64 x0, .slice a1 n1 k1, .int .i64 x2, .bool x3] 58) := ⟨_, rfl⟩
        obtain ⟨xg, hxg⟩ : ∃ g, g = wr.heap.size := ⟨_, rfl⟩
        have b3 : Below wr.heap.size wr w3 := by rw [hw3]; exact (Below.refl _ _).alloc (Nat.le_refl _) _
        have X3 : Hid (w3.heap[xg]? = some (.cells #[.int .i64 x0, .slice a1 n1 k1, .int .i64 x2, .bool x3] 58 (0, 0))) := Lib.hid (by rw [hw3, hxg]; exact heap_alloc_new _ _)
        have K3 := Lib.hid (hk.out.below b3)
        have KB := Lib.hid (HB.out.trans (K3.out.1.mono HB.out.size))
        have NO : Hid (DiskD.okAt X.fNextName X.fFiles t = false → DiskD.okD X = false) := Lib.hid fun h1 => DiskD.okD_bad htl h1
        clear b3 hce hin hf
        go_upto_region 7 with fail
        rw [← hxg, ← hw3]
        clear hw3 hxg d0 d1 d2 d3 p0 p1
        obtain ⟨p0, p1⟩ := FF.out w3 K3.out
        have e0 := box_cell X3.out 0 _ rfl
        have e1 := box_cell X3.out 1 _ rfl
        have e2 := box_cell X3.out 2 _ rfl
        have e3 := box_cell X3.out 3 _ rfl
        by_cases hlo : x0 < lo
        · have HN := Lib.hid (NO.out (by rw [OK.out, decide_eq_false (show ¬ lo ≤ x0 by omega)]; rfl))
          go_wp2_with fail
          go_ret
          exact ⟨by rw [HN.out]; rfl, KB.out⟩
        by_cases hnx : X.fNextName ≤ x0
        · have HN := Lib.hid (NO.out (by rw [OK.out, decide_eq_false (show ¬ x0 < X.fNextName by omega), Bool.and_false]; rfl))
          have hlo' : decide (x0 < lo) = false := decide_eq_false hlo
          go_wp2_with fail
          go_ret
          exact ⟨by rw [HN.out]; rfl, KB.out⟩
        have hlo' : decide (x0 < lo) = false := decide_eq_false hlo
        have hnx' : decide (X.fNextName ≤ x0) = false := decide_eq_false hnx
        have OK2 : Hid (DiskD.okAt X.fNextName X.fFiles t = FileD.ok ⟨x0, x1, x2, x3⟩) := Lib.hid (by rw [OK.out, decide_eq_true (show lo ≤ x0 by omega), decide_eq_true (show x0 < X.fNextName by omega)]; rfl)
        have HR : Hid (lo ≤ x0 ∧ x0 < X.fNextName) := Lib.hid ⟨by omega, by omega⟩
        clear hlo hnx
        go_wp2_with fail
        clear p0 p1 e0 e1 e2 e3
        refine (ivalidfile x0 a1 n1 k1 x1 x2 x3 w3 ((show SeqIn pageRep W a1 n1 x1 from IN.out).keep K3.out.1) HFLAT.out).mono ?_
        rintro e w4 ⟨rfl, b4⟩
        have K4 := Lib.hid (K3.out.below b4)
        have KB4 := Lib.hid (HB.out.trans (K4.out.1.mono HB.out.size))
        have X4 := Lib.hid ((b4.block _ (lt_of_block X3.out)).trans X3.out)
        have e0 := box_cell X4.out 0 _ rfl
        clear b4
        cases hfo : FileD.ok ⟨x0, x1, x2, x3⟩ with
        | false =>
          have HN := Lib.hid (NO.out (by rw [OK2.out, hfo]))
          clear hfo
          go_wp2_with fail
          go_ret
          exact ⟨by rw [HN.out]; rfl, KB4.out⟩
        | true =>
          have HN := Lib.hid (ok_next hall.out (by rw [OK2.out, hfo]))
          have HLN := Lib.hid (show x0 + 1 = DiskD.low X.fFiles (t + 1) by rw [DiskD.low_next HF.out])
          have hr1 := HR.out.1
          have hr2 := HR.out.2
          have hg2 := HG.out.2
          clear hfo
          go_wp2_with fail
          go_roundw
          case rel => exact ⟨t + 1, x0 + 1, by go_num, by go_num, by omega, by omega, by omega, HLN, HN, K4⟩
          case measure => simp [intOf]; omega
      · have htn : t = n := by omega
        have HV := Lib.hid (show DiskD.okD X = true by
          rw [DiskD.okD_all fun s hs => hall.out s (by have := HL.out; omega), decide_eq_true HG.out, decide_eq_true HC.out]; rfl)
        have KB := Lib.hid (HB.out.trans (hk.out.1.mono HB.out.size))
        clear htn
        go_wp2_with fail
        go_ret
        exact ⟨by rw [HV.out]; rfl, KB.out⟩
end Go.Proofs.YtjdjceohlcimaaaGreatDoor
/- The reference's l1In, by contract; a string's ending. -/
namespace Go.Proofs.YtjdjceohlcimaaaGreatDoor
open Go.RowKit
theorem ret_str {a b : List UInt8} (h : a = b) : Ending.returned (.string ⟨a.toArray⟩) = .returned (.string ⟨b.toArray⟩) := by rw [h]
end Go.Proofs.YtjdjceohlcimaaaGreatDoor
/- FormatInt of the reference: the decimal numeral of every integer. -/
namespace Go.Proofs.YtjdjceohlcimaaaGreatDoor
open Go.RowKit Num Dec
theorem str_cat (b : UInt8) (l : List UInt8) : (⟨[b].toArray⟩ : ByteArray) ++ ⟨l.toArray⟩ = ⟨(b :: l).toArray⟩ := ByteArray.mk_append_mk [b] l
theorem sfmt_zero (w : World) : Calls Tryz.prog 85 #[.int .i64 0] w fun e w' => e = .returned (.string ⟨(Lib.itoa 0).toArray⟩) ∧ Below w.heap.size w w' := by
  rw [itoa_zero]
  go_enter Tryz.func85, Tryz.ntmps85
  go_wp2
  go_ret
  exact ⟨rfl, Below.refl _ _⟩
set_option maxRecDepth 100000 in
theorem sfmt_pos (n : Int) (w : World) (h0 : 0 < n) (h63 : n ≤ 9223372036854775807) :
    Calls Tryz.prog 85 #[.int .i64 n] w fun e w' => e = .returned (.string ⟨(Lib.itoa n).toArray⟩) ∧ Below w.heap.size w w' := by
  rw [itoa_pos n h0]
  have hlen := dd_length_le n.toNat (by omega)
  have hz : (n == 0) = false := by rw [beq_eq_false_iff_ne]; omega
  have hneg : decide (n < 0) = false := by simp; omega
  go_enter Tryz.func85, Tryz.ntmps85
  go_wp2
  go_loopw [0, 3, 5] (fun m o _ wr => ∃ (x : Int) (out : List UInt8), m = .int .i64 x ∧ o = .string ⟨out.toArray⟩ ∧ 0 ≤ x ∧ x ≤ 9223372036854775807 ∧ Hid (dd n.toNat = dd x.toNat ++ out) ∧ Below w.heap.size w wr) (fun m _ _ _ => (intOf m).toNat)
  case atStart => exact ⟨n, [], rfl, rfl, by omega, h63, by show _ = _; simp, Below.refl _ _⟩
  case round =>
    obtain ⟨x, out, rfl, rfl, hx0, hx1, hD, hb⟩ := hrel
    have hol : out.length ≤ 20 := by have := congrArg List.length hD.out; rw [List.length_append] at this; omega
    by_cases hx : x = 0
    · have hout := hD.out
      rw [hx] at hout
      have HO : Hid (dd n.toNat = out) := hout
      have ht : (x != 0) = false := by rw [bne_eq_false_iff_eq]; exact hx
      clear hx hout
      go_wp2_with fail
      go_ret
      exact ⟨ret_str HO.out.symm, hb⟩
    · have ht : (x != 0) = true := by rw [bne_iff_ne]; exact hx
      have hxp : 0 < x := by omega
      clear hx
      obtain ⟨b, hb8⟩ : ∃ b : UInt8, b = UInt8.ofNat (48 + x.toNat % 10) := ⟨_, rfl⟩
      have hone := one_string wr (48 + x % 10) b (by rw [hb8, UInt8.toNat_ofNat']; omega)
      have HB := Lib.hid hb8
      clear hb8
      have hdec : ¬ x % 10 < 0 := by omega
      go_wp2_with fail
      go_roundw
      case rel =>
        refine ⟨x / 10, b :: out, rfl, by exact congrArg Value.string (str_cat _ _), by omega, by omega, ?_, hb.alloc hb.size _⟩
        show _ = _
        rw [hD.out, dd_step x.toNat (by omega), ← HB.out, show (x / 10).toNat = x.toNat / 10 by omega, List.append_assoc]; rfl
      case measure => simp [intOf]; omega
set_option maxRecDepth 100000 in
theorem sfmt_neg (n : Int) (w : World) (h0 : n < 0) (h63 : -9223372036854775808 ≤ n) :
    Calls Tryz.prog 85 #[.int .i64 n] w fun e w' => e = .returned (.string ⟨(Lib.itoa n).toArray⟩) ∧ Below w.heap.size w w' := by
  rw [itoa_neg n h0]
  have hlen := dd_length_le n.natAbs (by omega)
  have hz : (n == 0) = false := by rw [beq_eq_false_iff_ne]; omega
  have hneg : decide (n < 0) = true := by simpa using h0
  go_enter Tryz.func85, Tryz.ntmps85
  go_wp2
  go_loopw [0, 3, 5] (fun m o _ wr => ∃ (x : Int) (out : List UInt8), m = .int .i64 x ∧ o = .string ⟨out.toArray⟩ ∧ x ≤ 0 ∧ -9223372036854775808 ≤ x ∧ Hid (dd n.natAbs = dd x.natAbs ++ out) ∧ Below w.heap.size w wr) (fun m _ _ _ => (intOf m).natAbs)
  case atStart => exact ⟨n, [], rfl, rfl, by omega, h63, by show _ = _; simp, Below.refl _ _⟩
  case round =>
    obtain ⟨x, out, rfl, rfl, hx0, hx1, hD, hb⟩ := hrel
    have hol : out.length ≤ 20 := by have := congrArg List.length hD.out; rw [List.length_append] at this; omega
    by_cases hx : x = 0
    · have hout := hD.out
      rw [hx] at hout
      have HO : Hid (dd n.natAbs = out) := hout
      have ht : (x != 0) = false := by rw [bne_eq_false_iff_eq]; exact hx
      clear hx hout
      go_wp2_with fail
      go_ret
      exact ⟨by rw [HO.out]; exact congrArg (fun z => Ending.returned (Value.string z)) (str_cat 45 out), hb⟩
    · have ht : (x != 0) = true := by rw [bne_iff_ne]; exact hx
      have hxp : x < 0 := by omega
      clear hx
      obtain ⟨u, hu⟩ : ∃ u : Nat, x = -(u : Int) := ⟨x.natAbs, by omega⟩
      obtain ⟨b, hb8⟩ : ∃ b : UInt8, b = UInt8.ofNat (48 + u % 10) := ⟨_, rfl⟩
      obtain ⟨r, hr⟩ : ∃ r : Int, r = ((u % 10 : Nat) : Int) := ⟨_, rfl⟩
      obtain ⟨q, hq⟩ : ∃ q : Int, q = -((u / 10 : Nat) : Int) := ⟨_, rfl⟩
      have hmod : x.tmod 10 = -r := by rw [hu, hr, Int.neg_tmod, Int.ofNat_tmod]; rfl
      have hdiv : x.tdiv 10 = q := by rw [hu, hq, Int.neg_tdiv, Int.ofNat_tdiv]; rfl
      have hone := one_string wr (48 + r) b (by rw [hb8, hr, UInt8.toNat_ofNat']; omega)
      have hr0 : 0 ≤ r := by omega
      have hr1 : r ≤ 9 := by omega
      have hq0 : q ≤ 0 := by omega
      have hq1 : -922337203685477580 ≤ q := by omega
      have hqx : q.natAbs < x.natAbs := by omega
      have HB := Lib.hid hb8
      have HR := Lib.hid hr
      have HQ := Lib.hid hq
      have HU := Lib.hid hu
      clear hb8 hr hq hu
      by_cases hr2 : r = 0
      · have hmod0 : x.tmod 10 = 0 := by rw [hmod, hr2]; rfl
        have hone0 := one_string wr 48 b (by rw [HB.out, UInt8.toNat_ofNat']; have := HR.out; omega)
        clear hmod hone hr2 hr0 hr1
        go_wp2_with fail
        go_roundw
        case rel =>
          refine ⟨q, b :: out, rfl, by exact congrArg Value.string (str_cat _ _), hq0, by omega, ?_, hb.alloc hb.size _⟩
          show _ = _
          have h1 := HU.out
          have h2 := HQ.out
          rw [hD.out, dd_step x.natAbs (by omega), show x.natAbs = u by omega, ← HB.out, show q.natAbs = u / 10 by omega, List.append_assoc]; rfl
        case measure => simp [intOf]; omega
      · have hneg1 : decide (-r < 0) = true := by simp; omega
        go_wp2_with fail
        go_roundw
        case rel =>
          refine ⟨q, b :: out, rfl, by exact congrArg Value.string (str_cat _ _), hq0, by omega, ?_, hb.alloc hb.size _⟩
          show _ = _
          have h1 := HU.out
          have h2 := HQ.out
          rw [hD.out, dd_step x.natAbs (by omega), show x.natAbs = u by omega, ← HB.out, show q.natAbs = u / 10 by omega, List.append_assoc]; rfl
        case measure => simp [intOf]; omega
theorem sfmt (n : Int) (w : World) (h0 : -9223372036854775808 ≤ n) (h1 : n ≤ 9223372036854775807) :
    Calls Tryz.prog 85 #[.int .i64 n] w fun e w' => e = .returned (.string ⟨(Lib.itoa n).toArray⟩) ∧ Below w.heap.size w w' := by
  by_cases hz : n = 0
  · subst hz; exact sfmt_zero w
  · by_cases hp : 0 < n
    · exact sfmt_pos n w hp h1
    · exact sfmt_neg n w (by omega) h0
end Go.Proofs.YtjdjceohlcimaaaGreatDoor
