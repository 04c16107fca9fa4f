/- strings.Join, told by trees. -/
import Derived.Test.YtmlcdhblofjpbaaDoorVK
import Derived.Test.YtmlcdhblofjpbaaDoorVTr
import Derived.Test.YtmlcdhblofjpbaaDoorShelf
namespace Go.Proofs.YtmlcdhblofjpbaaDoor
open Go Go.RowKit V
set_option linter.unusedVariables false
theorem vjoin_strs (Z : List (List UInt8)) (b : UInt8) (hZ : Z.length ≤ 1000000000) (hl : (Lib.join Z [b]).length ≤ 140737488355328) : VC Tryd.prog 59 [(false, [.seq 9 (Z.map fun z => [.lit (.string ⟨z.toArray⟩)])]), (false, [.lit (.string ⟨[b].toArray⟩)])] false [(false, [.lit (.string ⟨(Lib.join Z [b]).toArray⟩)])] := fun w vs hv => by
  obtain ⟨hvl, ha⟩ := hv
  match vs, hvl with
  | [v, u], _ =>
    obtain ⟨us, e1, e2, e3⟩ := ha 0 false _ v rfl rfl
    obtain ⟨us', f1, f2, f3⟩ := ha 1 false _ u rfl rfl
    match us, e2 with
    | [x], _ =>
      match us', f2 with
      | [y], _ =>
        have g1 := e3 0 _ x rfl rfl
        have g2 := inn_lit (f3 0 _ y rfl rfl)
        have e1' : v = x := e1
        have f1' : u = y := f1
        subst e1' f1' g2
        have hd : (Z.map fun z => (⟨z.toArray⟩ : ByteArray)).map (·.data.toList) = Z := by
          rw [List.map_map, show ((fun x : ByteArray => x.data.toList) ∘ fun z : List UInt8 => (⟨z.toArray⟩ : ByteArray)) = id from by funext z; simp, List.map_id]
        have hc : Calls Tryd.prog 59 #[v, .string ⟨[b].toArray⟩] w fun e w' => e = .returned (.string ⟨(Lib.join Z [b]).toArray⟩) ∧ Below w.heap.size w w' := by
          cases g1 with
          | @seq ty es a c n hp hz hn hc hm h0 bk o us ha' hb hcell hr =>
            rcases Nat.eq_zero_or_pos Z.length with hz0 | hz0
            · have hZe : Z = [] := List.eq_nil_of_length_eq_zero hz0
              subst hZe
              refine (Tryd.strings_Join_none a c ⟨[b].toArray⟩ w).mono fun e w' ⟨he, hw⟩ => ?_
              subst hw
              exact ⟨he, Below.refl _ _⟩
            · have hne : (Z.map fun z => [T.lit (.string ⟨z.toArray⟩)]) ≠ [] := by intro e; have := congrArg List.length e; simp at this; rw [this] at hz0; simp at hz0
              have hn1 : n = 1 := by
                obtain ⟨z, Z', rfl⟩ := List.exists_cons_of_length_pos hz0
                exact (hn [T.lit (.string ⟨z.toArray⟩)] (by simp)).symm
              subst hn1
              cases a with
              | none => have := h0 rfl; subst this; simp at hc; rw [hc] at hz0; simp at hz0
              | some ad =>
                have had := ha' ad rfl hne
                subst had
                have hj := Tryd.strings_Join bk o c (Z.map fun z => ⟨z.toArray⟩) ⟨[b].toArray⟩ w (fun j x hx => by
                  rw [List.getElem?_map] at hx
                  obtain ⟨z, hz1, rfl⟩ := Option.map_eq_some_iff.1 hx
                  have h1 := hcell j [T.lit (.string ⟨z.toArray⟩)] 0 _ (by rw [List.getElem?_map, hz1]; rfl) rfl
                  have h2 := inn_lit (hr j [T.lit (.string ⟨z.toArray⟩)] 0 _ (by rw [List.getElem?_map, hz1]; rfl) rfl)
                  rw [h2] at h1
                  simpa using h1) (hb hne).2 (by simp; omega) (by simpa using hc) (by rw [hd]; exact hl)
                rw [hd] at hj
                simpa using hj
        exact (VC.plainAt (ins := [(false, [v]), (false, [.string ⟨[b].toArray⟩])]) (ag := false) (rs := [.string ⟨(Lib.join Z [b]).toArray⟩]) (fun u hu => by rw [List.mem_singleton.1 hu]; rfl) hc [v, .string ⟨[b].toArray⟩] ⟨rfl, fun c ag ts v' h1 h2 => by
          have hone : v.oneCell' = true := g1.one
          match c, h1, h2 with
          | 0, h1, h2 => cases h1; cases h2; exact ⟨[v], rfl, rfl, fun j t u h3 h4 => by match j, h3, h4 with | 0, h3, h4 => cases h3; cases h4; exact .lit hone⟩
          | 1, h1, h2 => cases h1; cases h2; exact ⟨[_], rfl, rfl, fun j t u h3 h4 => by match j, h3, h4 with | 0, h3, h4 => cases h3; cases h4; exact .lit rfl⟩⟩)
end Go.Proofs.YtmlcdhblofjpbaaDoor
