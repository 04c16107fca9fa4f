/- Texts joined: VMerge Iup Validi Arei VCmp IRows VMk0 PruMs CloneR PruMp PruV PruF PruMr PruMn VMergeL VOp VWRow. -/
import Derived.Test.YtfionajnoaednaaPartPd
set_option linter.unusedSimpArgs false
set_option linter.unusedVariables false
/- The law of merging, over the program's contracts: told by trees. -/
namespace Go.Proofs.Ytfionajnoaednaa
open Go Go.RowKit V
set_option linter.unusedVariables false
theorem vbig12 {ad : Option Addr} {len cap : Nat} {zs : List Int} : VCP (fun w => Code ad len cap zs w) Try.prog 9 [(false, [.lit (.slice ad len cap)])] false [(false, [.lit (.bool false)])] := fun w hw vs hv => VC.plainAt (ins := [(false, [.slice ad len cap])]) (ag := false) (rs := [.bool false]) (fun u hu => by rw [List.mem_singleton.1 hu]; rfl) ((big_no ad len cap w hw.small).mono fun e w' ⟨he, hw'⟩ => ⟨he, hw' ▸ Below.refl _ _⟩) vs hv
theorem merge_asc {a b : List R} (ha : R.asc a = true) (hb : R.asc b = true) : R.asc (Runs.merge2 a b) = true := R.asc_pairwise.2 (Runs.merge2_asc (R.asc_pairwise.1 ha) (R.asc_pairwise.1 hb))
theorem merge_wf {a b : List R} (ha : ∀ r ∈ a, r.wf) (hb : ∀ r ∈ b, r.wf) : ∀ r ∈ Runs.merge2 a b, r.wf := fun r hr => by
  rcases List.mem_append.1 ((Runs.merge2_perm a b).mem_iff.1 hr) with h | h
  · exact ha r h
  · exact hb r h
theorem mrows_facts {X : List (List R)} (hW : ∀ p ∈ X, ∀ r ∈ p, r.wf) : (∀ r ∈ mrows X, r.wf) ∧ (mrows X).length ≤ X.flatten.length := by
  unfold mrows
  split
  · exact ⟨fun r hr => by obtain ⟨p, hp, h⟩ := List.mem_flatten.1 ((Runs.allIn_perm X).mem_iff.1 hr); exact hW p hp r h, Nat.le_of_eq (Runs.allIn_perm X).length_eq⟩
  · exact ⟨fun r hr => by simp at hr, Nat.zero_le _⟩
theorem pass_facts {X : List (List R)} (hW : ∀ p ∈ X, ∀ r ∈ p, r.wf) : (∀ p ∈ Runs.pass X, ∀ r ∈ p, r.wf) ∧ (∀ p ∈ Runs.pass X, p.length ≤ X.flatten.length) := by
  have h := Runs.pass_perm X
  exact ⟨fun p hp r hr => by obtain ⟨q, hq, h2⟩ := List.mem_flatten.1 (h.mem_iff.1 (List.mem_flatten.2 ⟨p, hp, hr⟩)); exact hW q hq r h2, fun p hp => by rw [← h.length_eq]; exact Runs.mem_len hp⟩
set_option maxRecDepth 100000 in
set_option maxHeartbeats 2000000 in
theorem vlaw_merge (ad : Option Addr) (len cap : Nat) (zs : List Int) (ims : ∀ a b : List R, (∀ r ∈ a, r.wf) → (∀ r ∈ b, r.wf) → a.length + b.length ≤ 1000000000 → VC Try.prog 11 [(false, [.seq 59 (a.map tRow)]), (false, [.seq 59 (b.map tRow)])] false [(false, [.seq 59 ((Runs.merge2 a b).map tRow)])]) (imr : ∀ X : List (List R), (∀ p ∈ X, ∀ r ∈ p, r.wf) → (∀ p ∈ X, p.length ≤ 1000000000) → X.length ≤ 1048576 → X.flatten.length ≤ 1000000000 → VC Try.prog 13 [(false, [.seq 63 (X.map tRun)])] true [(false, [.seq 59 ((mrows X).map tRow)]), (false, [.lit (.int .i64 ((mcount X : Nat) : Int))]), (false, [.lit (.bool (Runs.okRuns X))])]) (imp : ∀ X : List (List R), (∀ p ∈ X, ∀ r ∈ p, r.wf) → (∀ p ∈ X, p.length ≤ 1000000000) → X.length ≤ 1048576 → X.flatten.length ≤ 1000000000 → VC Try.prog 16 [(false, [.seq 63 (X.map tRun)])] false [(false, [.seq 63 ((Runs.pass X).map tRun)])]) (imn : ∀ n : Int, VC Try.prog 25 [(false, [.lit (.int .i64 n)])] false [(false, [.lit (.int .i64 ((Runs.mpass n : Nat) : Int))])]) (iasc : ∀ l : List R, (∀ r ∈ l, r.wf) → l.length ≤ 1000000000 → VC Try.prog 22 [(false, [.seq 59 (l.map tRow)])] false [(false, [.lit (.bool (R.asc l))])]) : VCP (fun w => Code ad len cap zs w) Try.prog 3 [(false, [.lit (.slice ad len cap)])] false [(false, [.lit (.bool true)])] := by
  refine VCP.enter (fun w w' h hb => h.below hb) Try.func3 rfl Try.ntmps3 (gle rfl) fun E hE hD => ?_
  refine SV.seq' ?_
  refine SV.region ?_
  refine SV.op (OpL.ok (nb := 0) (ok_move (v := V.one (.sc _)) (.inr rfl) rfl) rfl (gle rfl)) rfl ?_
  refine SV.nil ?_
  refine SV.tn ?_
  refine SV.seq' ?_
  refine SV.seq' ?_
  refine SV.region ?_
  refine SV.op (OpL.ok (nb := 0) (ok_move (v := V.one (.sc _)) (.inl rfl) rfl) rfl (gle rfl)) rfl ?_
  refine SV.op (OpMk.ok (ok_callP (ls := [(false, [.sc _])]) hD rfl rfl ⟨_, _, Try.func9, rfl, by decide⟩ (vbig12) ⟨⟨[.sc _], rfl, ⟨rfl, trivial⟩⟩, trivial⟩ rfl (gle rfl))) rfl ?_
  refine SV.nil ?_
  refine SV.tn ?_
  refine SV.cond rfl (fun hc0 => ?_) (fun hc0 => ?_)
  · skip   -- c0.T
    simp at hc0
  · skip   -- c0.F
    refine SV.skip ?_
    refine SV.tn ?_
    refine SV.seq' ?_
    refine SV.region ?_
    refine SV.op (OpL.ok (nb := 0) (ok_move (v := V.one (.sc _)) (.inl rfl) rfl) rfl (gle rfl)) rfl ?_
    refine SV.callE hD rfl ⟨_, _, Try.func10, rfl, by decide⟩ (vd_ms) ⟨⟨[.sc _], rfl, ⟨rfl, trivial⟩⟩, trivial⟩ rfl (gle rfl) rfl ?_
    rintro ⟨a, b⟩ ⟨⟨ha, hwa⟩, hb, hwb⟩
    replace ha : a.length ≤ 6 := ha
    replace hwa : ∀ r ∈ a, r.wf := hwa
    replace hb : b.length ≤ 6 := hb
    replace hwb : ∀ r ∈ b, r.wf := hwb
    have hml := Runs.merge2_length a b
    have hmw := merge_wf hwa hwb
    have hbg0 := vbags11 (Runs.merge2 a b) (a ++ b) hmw (fun r hr => by rcases List.mem_append.1 hr with h | h; (exact hwa r h); (exact hwb r h)) (by omega) (by rw [List.length_append]; omega)
    rw [R.eqBags_iff.2 fun r => (Runs.merge2_perm a b).count_eq r, List.map_append] at hbg0
    refine SV.op (OpL.ok (nb := 0) (ok_move (v := ⟨true, [(false, [.hd 0]), (false, [.hd 1])]⟩) (.inl rfl) rfl) rfl (gle rfl)) rfl ?_
    refine SV.op (OpL.ok (nb := 0) (ok_extract (ag := false) (xs := [.hd 0]) rfl rfl rfl) rfl (gle rfl)) rfl ?_
    refine SV.op (OpL.ok (nb := 0) (ok_extract (ag := false) (xs := [.hd 1]) rfl rfl rfl) rfl (gle rfl)) rfl ?_
    refine SV.op (OpL.ok (nb := 0) (ok_move (v := V.one (.hd 0)) (.inr rfl) rfl) rfl (gle rfl)) rfl ?_
    refine SV.op (OpL.ok (nb := 0) (ok_move (v := V.one (.hd 1)) (.inr rfl) rfl) rfl (gle rfl)) rfl ?_
    refine SV.nil ?_
    refine SV.tn ?_
    refine SV.seq' ?_
    refine SV.region ?_
    refine SV.op (OpL.ok (nb := 0) (ok_move (v := V.one (.hd 0)) (.inl rfl) rfl) rfl (gle rfl)) rfl ?_
    refine SV.op (OpL.ok (nb := 0) (ok_move (v := V.one (.hd 1)) (.inl rfl) rfl) rfl (gle rfl)) rfl ?_
    refine SV.op (OpMk.ok (ok_call (ls := [(false, [.hd 2])]) rfl rfl ⟨_, _, Try.func11, rfl, by decide⟩ (ims a b hwa hwb (by omega)) ⟨⟨[.hd 0], rfl, ⟨rfl, trivial⟩⟩, ⟨[.hd 1], rfl, ⟨rfl, trivial⟩⟩, trivial⟩ rfl (gle rfl))) rfl ?_
    refine SV.op (OpL.ok (nb := 0) (ok_move (v := V.one (.hd 2)) (.inr rfl) rfl) rfl (gle rfl)) rfl ?_
    refine SV.nil ?_
    refine SV.tn ?_
    refine SV.seq' ?_
    refine SV.region ?_
    refine SV.op (OpL.ok (nb := 0) (ok_move (v := V.one (.sc _)) (.inl rfl) rfl) rfl (gle rfl)) rfl ?_
    refine SV.callE hD rfl ⟨_, _, Try.func12, rfl, by decide⟩ (vd_mr) ⟨⟨[.sc _], rfl, ⟨rfl, trivial⟩⟩, trivial⟩ rfl (gle rfl) rfl ?_
    rintro X ⟨hX, hXk⟩
    have hXW : ∀ p ∈ X, ∀ r ∈ p, r.wf := fun p hp => (hXk p hp).2
    have hXp : ∀ p ∈ X, p.length ≤ 1000000000 := fun p hp => by have := (hXk p hp).1; omega
    have hXf : X.flatten.length ≤ 1000000000 := by have := flat_small (n := 4) fun p hp => (hXk p hp).1; omega
    obtain ⟨hrw, hrl⟩ := mrows_facts hXW
    refine SV.op (OpL.ok (nb := 0) (ok_move (v := V.one (.hd 3)) (.inr rfl) rfl) rfl (gle rfl)) rfl ?_
    refine SV.nil ?_
    refine SV.tn ?_
    refine SV.seq' ?_
    refine SV.region ?_
    refine SV.op (OpL.ok (nb := 0) (ok_move (v := V.one (.hd 3)) (.inl rfl) rfl) rfl (gle rfl)) rfl ?_
    refine SV.op (OpMk.ok (ok_call (ls := [(false, [.hd 4]), (false, [.sc _]), (false, [.sc _])]) rfl rfl ⟨_, _, Try.func13, rfl, by decide⟩ (imr X hXW hXp (by omega) hXf) ⟨⟨[.hd 3], rfl, ⟨rfl, trivial⟩⟩, trivial⟩ rfl (gle rfl))) rfl ?_
    refine SV.op (OpL.ok (nb := 0) (ok_move (v := ⟨true, [(false, [.hd 4]), (false, [.sc _]), (false, [.sc _])]⟩) (.inl rfl) rfl) rfl (gle rfl)) rfl ?_
    refine SV.op (OpL.ok (nb := 0) (ok_extract (ag := false) (xs := [.hd 4]) rfl rfl rfl) rfl (gle rfl)) rfl ?_
    refine SV.op (OpL.ok (nb := 0) (ok_extract (ag := false) (xs := [.sc _]) rfl rfl rfl) rfl (gle rfl)) rfl ?_
    refine SV.op (OpL.ok (nb := 0) (ok_extract (ag := false) (xs := [.sc _]) rfl rfl rfl) rfl (gle rfl)) rfl ?_
    refine SV.op (OpL.ok (nb := 0) (ok_move (v := V.one (.hd 4)) (.inr rfl) rfl) rfl (gle rfl)) rfl ?_
    refine SV.op (OpL.ok (nb := 0) (ok_move (v := V.one (.sc _)) (.inr rfl) rfl) rfl (gle rfl)) rfl ?_
    refine SV.op (OpL.ok (nb := 0) (ok_move (v := V.one (.sc _)) (.inr rfl) rfl) rfl (gle rfl)) rfl ?_
    refine SV.nil ?_
    refine SV.tn ?_
    refine SV.seq' ?_
    refine SV.region ?_
    refine SV.op (OpL.ok (nb := 0) (ok_move (v := V.one (.hd 3)) (.inl rfl) rfl) rfl (gle rfl)) rfl ?_
    refine SV.op (OpMk.ok (ok_call (ls := [(false, [.hd 5]), (false, [.sc _]), (false, [.sc _])]) rfl rfl ⟨_, _, Try.func14, rfl, by decide⟩ (vmr_s X hXW hXp (by omega) hXf) ⟨⟨[.hd 3], rfl, ⟨rfl, trivial⟩⟩, trivial⟩ rfl (gle rfl))) rfl ?_
    refine SV.op (OpL.ok (nb := 0) (ok_move (v := ⟨true, [(false, [.hd 5]), (false, [.sc _]), (false, [.sc _])]⟩) (.inl rfl) rfl) rfl (gle rfl)) rfl ?_
    refine SV.op (OpL.ok (nb := 0) (ok_extract (ag := false) (xs := [.hd 5]) rfl rfl rfl) rfl (gle rfl)) rfl ?_
    refine SV.op (OpL.ok (nb := 0) (ok_extract (ag := false) (xs := [.sc _]) rfl rfl rfl) rfl (gle rfl)) rfl ?_
    refine SV.op (OpL.ok (nb := 0) (ok_extract (ag := false) (xs := [.sc _]) rfl rfl rfl) rfl (gle rfl)) rfl ?_
    refine SV.op (OpL.ok (nb := 0) (ok_move (v := V.one (.hd 5)) (.inr rfl) rfl) rfl (gle rfl)) rfl ?_
    refine SV.op (OpL.ok (nb := 0) (ok_move (v := V.one (.sc _)) (.inr rfl) rfl) rfl (gle rfl)) rfl ?_
    refine SV.op (OpL.ok (nb := 0) (ok_move (v := V.one (.sc _)) (.inr rfl) rfl) rfl (gle rfl)) rfl ?_
    refine SV.nil ?_
    refine SV.tn ?_
    refine SV.seq' ?_
    refine SV.region ?_
    refine SV.op (OpL.ok (nb := 0) (ok_move (v := V.one (.sc _)) (.inl rfl) rfl) rfl (gle rfl)) rfl ?_
    refine SV.callE hD rfl ⟨_, _, Try.func15, rfl, by decide⟩ (vd_mp) ⟨⟨[.sc _], rfl, ⟨rfl, trivial⟩⟩, trivial⟩ rfl (gle rfl) rfl ?_
    rintro W ⟨hW, hWk⟩
    have hWW : ∀ p ∈ W, ∀ r ∈ p, r.wf := fun p hp => (hWk p hp).2
    have hWp : ∀ p ∈ W, p.length ≤ 1000000000 := fun p hp => by have := (hWk p hp).1; omega
    have hWf : W.flatten.length ≤ 1000000000 := by have := flat_small (n := 4) fun p hp => (hWk p hp).1; omega
    obtain ⟨hpw, hpl0⟩ := pass_facts hWW
    have hpl : ∀ p ∈ Runs.pass W, p.length ≤ 1000000000 := fun p hp => by have := hpl0 p hp; omega
    have hpn := Runs.pass_len W
    refine SV.op (OpL.ok (nb := 0) (ok_move (v := V.one (.hd 6)) (.inr rfl) rfl) rfl (gle rfl)) rfl ?_
    refine SV.nil ?_
    refine SV.tn ?_
    refine SV.seq' ?_
    refine SV.region ?_
    refine SV.op (OpL.ok (nb := 0) (ok_move (v := V.one (.hd 6)) (.inl rfl) rfl) rfl (gle rfl)) rfl ?_
    refine SV.op (OpMk.ok (ok_call (ls := [(false, [.hd 7])]) rfl rfl ⟨_, _, Try.func16, rfl, by decide⟩ (imp W hWW hWp (by omega) hWf) ⟨⟨[.hd 6], rfl, ⟨rfl, trivial⟩⟩, trivial⟩ rfl (gle rfl))) rfl ?_
    refine SV.op (OpL.ok (nb := 0) (ok_move (v := V.one (.hd 7)) (.inr rfl) rfl) rfl (gle rfl)) rfl ?_
    refine SV.nil ?_
    refine SV.tn ?_
    refine SV.seq' ?_
    refine SV.region ?_
    refine SV.op (OpL.ok (nb := 0) (ok_move (v := V.one (.sc _)) (.inl rfl) rfl) rfl (gle rfl)) rfl ?_
    refine SV.callE hD rfl ⟨_, _, Try.func17, rfl, by decide⟩ (vd_mpn) ⟨⟨[.sc _], rfl, ⟨rfl, trivial⟩⟩, trivial⟩ rfl (gle rfl) rfl ?_
    rintro n -
    refine SV.op (OpL.ok (nb := 0) (ok_move (v := V.one (.sc _)) (.inr rfl) rfl) rfl (gle rfl)) rfl ?_
    refine SV.nil ?_
    refine SV.tn ?_
    refine SV.seq' ?_
    refine SV.seq' ?_
    refine SV.region ?_
    refine SV.op (OpL.ok (nb := 0) (ok_move (v := V.one (.hd 2)) (.inl rfl) rfl) rfl (gle rfl)) rfl ?_
    refine SV.op (OpL.ok (nb := 0) (ok_move (v := V.one (.hd 0)) (.inl rfl) rfl) rfl (gle rfl)) rfl ?_
    refine SV.op (OpL.ok (nb := 0) (ok_move (v := V.one (.hd 1)) (.inl rfl) rfl) rfl (gle rfl)) rfl ?_
    refine SV.op (OpMk.ok (ok_call (ls := [(false, [.hd 8])]) rfl rfl ⟨_, _, Try.func19, rfl, by decide⟩ (vms_s a b (by omega)) ⟨⟨[.hd 0], rfl, ⟨rfl, trivial⟩⟩, ⟨[.hd 1], rfl, ⟨rfl, trivial⟩⟩, trivial⟩ rfl (gle rfl))) rfl ?_
    refine SV.op (OpMk.ok (ok_call (ls := [(false, [.sc _])]) rfl rfl ⟨_, _, Try.func18, rfl, by decide⟩ (vsame11 (Runs.merge2 a b) hmw (by omega)) ⟨⟨[.hd 2], rfl, ⟨rfl, trivial⟩⟩, ⟨[.hd 8], rfl, ⟨rfl, trivial⟩⟩, trivial⟩ rfl (gle rfl))) rfl ?_
    refine SV.op (OpL.ok (nb := 0) (ok_s1 (x := .tmp 50) (VScal.one rfl) (fun ρ h1 w => by go_simp; (try go_bits); with_reducible rfl) rfl) rfl (gle rfl)) rfl ?_
    refine SV.op (OpL.ok (nb := 0) (ok_move (v := V.one (.sc _)) (.inl rfl) rfl) rfl (gle rfl)) rfl ?_
    refine SV.split (d := 52) rfl (fun hg0 => ?_) (fun hg0 => ?_)
    · skip   -- g0.T
      (exfalso; first | (simp at hg0; done) | (simp at hg0; omega))
    · skip   -- g0.F
      refine SV.opY (OpL.ok (nb := 0) (ok_move (v := V.one (.hd 2)) (.inl rfl) rfl) rfl (gle rfl)) rfl rfl rfl (gle rfl) rfl rfl ?_
      refine SV.opY (OpMk.ok (ok_lit0 (kk := 9) elt_impl_Row rfl rfl rfl (gle rfl))) rfl rfl rfl (gle rfl) rfl rfl ?_
      refine SV.opY (OpL.ok (nb := 0) (ok_move (v := V.one (.hd 0)) (.inl rfl) rfl) rfl (gle rfl)) rfl rfl rfl (gle rfl) rfl rfl ?_
      refine SV.opY (OpMk.ok (ok_append_ro (kk := 10) elt_impl_Row (ls := .hd 9) (lx := .hd 0) rfl rfl rfl rfl rfl rfl (flat_impl_Row _) (by first | omega | (simp only [List.length_map]; omega) | (simp; done) | (simp; omega)) rfl (gle rfl))) rfl rfl rfl (gle rfl) rfl rfl ?_
      refine SV.opY (OpL.ok (nb := 0) (ok_move (v := V.one (.hd 1)) (.inl rfl) rfl) rfl (gle rfl)) rfl rfl rfl (gle rfl) rfl rfl ?_
      refine SV.opY (OpMk.ok (ok_append_ro (kk := 11) elt_impl_Row (ls := .hd 10) (lx := .hd 1) rfl rfl rfl rfl rfl rfl (flat_impl_Row _) (by first | omega | (simp only [List.length_map]; omega) | (simp; done) | (simp; omega)) rfl (gle rfl))) rfl rfl rfl (gle rfl) rfl rfl ?_
      refine SV.opY (OpMk.ok (ok_call (ls := [(false, [.sc _])]) rfl rfl ⟨_, _, Try.func20, rfl, by decide⟩ (hbg0) ⟨⟨[.hd 2], rfl, ⟨rfl, trivial⟩⟩, ⟨[.hd 11], rfl, ⟨rfl, trivial⟩⟩, trivial⟩ rfl (gle rfl))) rfl rfl rfl (gle rfl) rfl rfl ?_
      refine SV.opY (OpL.ok (nb := 0) (ok_s1 (x := .tmp 59) (VScal.one rfl) (fun ρ h1 w => by go_simp; (try go_bits); with_reducible rfl) rfl) rfl (gle rfl)) rfl rfl rfl (gle rfl) rfl rfl ?_
      refine SV.op (OpL.ok (nb := 0) (ok_pickF (v := V.one (.sc _)) rfl rfl rfl) rfl (gle rfl)) rfl ?_
      refine SV.op (OpL.ok (nb := 0) (ok_move (v := V.one (.sc _)) (.inl rfl) rfl) rfl (gle rfl)) rfl ?_
      refine SV.split (d := 62) rfl (fun hg1 => ?_) (fun hg1 => ?_)
      · skip   -- g1.T
        (exfalso; first | (simp at hg1; done) | (simp at hg1; omega))
      · skip   -- g1.F
        refine SV.opY (OpL.ok (nb := 0) (ok_move (v := V.one (.hd 0)) (.inl rfl) rfl) rfl (gle rfl)) rfl rfl rfl (gle rfl) rfl rfl ?_
        refine SV.opY (OpMk.ok (ok_call (ls := [(false, [.sc _])]) rfl rfl ⟨_, _, Try.func21, rfl, by decide⟩ (vasc_t a hwa (by omega)) ⟨⟨[.hd 0], rfl, ⟨rfl, trivial⟩⟩, trivial⟩ rfl (gle rfl))) rfl rfl rfl (gle rfl) rfl rfl ?_
        refine SV.opY (OpL.ok (nb := 0) (ok_move (v := V.one (.sc _)) (.inl rfl) rfl) rfl (gle rfl)) rfl rfl rfl (gle rfl) rfl rfl ?_
        refine SV.split (d := 65) rfl (fun hg2 => ?_) (fun hg2 => ?_)
        · skip   -- g2.T
          refine SV.opY (OpL.ok (nb := 0) (ok_move (v := V.one (.hd 1)) (.inl rfl) rfl) rfl (gle rfl)) rfl rfl rfl (gle rfl) rfl rfl ?_
          refine SV.opY (OpMk.ok (ok_call (ls := [(false, [.sc _])]) rfl rfl ⟨_, _, Try.func21, rfl, by decide⟩ (vasc_t b hwb (by omega)) ⟨⟨[.hd 1], rfl, ⟨rfl, trivial⟩⟩, trivial⟩ rfl (gle rfl))) rfl rfl rfl (gle rfl) rfl rfl ?_
          refine SV.opY (OpL.ok (nb := 0) (ok_pickT (v := V.one (.sc _)) rfl rfl rfl) rfl (gle rfl)) rfl rfl rfl (gle rfl) rfl rfl ?_
          refine SV.opY (OpL.ok (nb := 0) (ok_move (v := V.one (.sc _)) (.inl rfl) rfl) rfl (gle rfl)) rfl rfl rfl (gle rfl) rfl rfl ?_
          refine SV.split (d := 69) rfl (fun hg3 => ?_) (fun hg3 => ?_)
          · skip   -- g3.T
            refine SV.opY (OpL.ok (nb := 0) (ok_move (v := V.one (.hd 2)) (.inl rfl) rfl) rfl (gle rfl)) rfl rfl rfl (gle rfl) rfl rfl ?_
            refine SV.opY (OpMk.ok (ok_call (ls := [(false, [.sc _])]) rfl rfl ⟨_, _, Try.func22, rfl, by decide⟩ (iasc (Runs.merge2 a b) hmw (by omega)) ⟨⟨[.hd 2], rfl, ⟨rfl, trivial⟩⟩, trivial⟩ rfl (gle rfl))) rfl rfl rfl (gle rfl) rfl rfl ?_
            refine SV.opY (OpL.ok (nb := 0) (ok_s1 (x := .tmp 71) (VScal.one rfl) (fun ρ h1 w => by go_simp; (try go_bits); with_reducible rfl) rfl) rfl (gle rfl)) rfl rfl rfl (gle rfl) rfl rfl ?_
            refine SV.opY (OpL.ok (nb := 0) (ok_pickT (v := V.one (.sc _)) rfl rfl rfl) rfl (gle rfl)) rfl rfl rfl (gle rfl) rfl rfl ?_
            refine SV.op (OpL.ok (nb := 0) (ok_pickF (v := V.one (.sc _)) rfl rfl rfl) rfl (gle rfl)) rfl ?_
            refine SV.op (OpL.ok (nb := 0) (ok_move (v := V.one (.sc _)) (.inl rfl) rfl) rfl (gle rfl)) rfl ?_
            refine SV.split (d := 75) rfl (fun hg4 => ?_) (fun hg4 => ?_)
            · skip   -- g4.T
              (exfalso; rw [merge_asc (by simpa using hg2) (by simpa using hg3)] at hg4; cases hg4)
            · skip   -- g4.F
              refine SV.opY (OpL.ok (nb := 0) (ok_move (v := V.one (.sc _)) (.inl rfl) rfl) rfl (gle rfl)) rfl rfl rfl (gle rfl) rfl rfl ?_
              refine SV.opY (OpL.ok (nb := 0) (ok_move (v := V.one (.sc _)) (.inl rfl) rfl) rfl (gle rfl)) rfl rfl rfl (gle rfl) rfl rfl ?_
              refine SV.opY (OpL.ok (nb := 0) (ok_s2 (x := .tmp 76) (x' := .tmp 77) (VScal.one rfl) (VScal.one rfl) (fun ρ h1 h2 w => by go_simp; (try go_bits); with_reducible rfl) rfl) rfl (gle rfl)) rfl rfl rfl (gle rfl) rfl rfl ?_
              refine SV.op (OpL.ok (nb := 0) (ok_pickF (v := V.one (.sc _)) rfl rfl rfl) rfl (gle rfl)) rfl ?_
              refine SV.op (OpL.ok (nb := 0) (ok_move (v := V.one (.sc _)) (.inl rfl) rfl) rfl (gle rfl)) rfl ?_
              refine SV.split (d := 80) rfl (fun hg5 => ?_) (fun hg5 => ?_)
              · skip   -- g5.T
                (exfalso; first | (simp at hg5; done) | (simp at hg5; omega))
              · skip   -- g5.F
                refine SV.opY (OpL.ok (nb := 0) (ok_move (v := V.one (.sc _)) (.inl rfl) rfl) rfl (gle rfl)) rfl rfl rfl (gle rfl) rfl rfl ?_
                refine SV.opY (OpL.ok (nb := 0) (ok_move (v := V.one (.sc _)) (.inl rfl) rfl) rfl (gle rfl)) rfl rfl rfl (gle rfl) rfl rfl ?_
                refine SV.opY (OpL.ok (nb := 0) (ok_s2 (x := .tmp 81) (x' := .tmp 82) (VScal.one rfl) (VScal.one rfl) (fun ρ h1 h2 w => by go_simp; (try go_bits); with_reducible rfl) rfl) rfl (gle rfl)) rfl rfl rfl (gle rfl) rfl rfl ?_
                refine SV.op (OpL.ok (nb := 0) (ok_pickF (v := V.one (.sc _)) rfl rfl rfl) rfl (gle rfl)) rfl ?_
                refine SV.op (OpL.ok (nb := 0) (ok_move (v := V.one (.sc _)) (.inl rfl) rfl) rfl (gle rfl)) rfl ?_
                refine SV.split (d := 85) rfl (fun hg6 => ?_) (fun hg6 => ?_)
                · skip   -- g6.T
                  (exfalso; first | (simp at hg6; done) | (simp at hg6; omega))
                · skip   -- g6.F
                  refine SV.opY (OpL.ok (nb := 0) (ok_move (v := V.one (.hd 4)) (.inl rfl) rfl) rfl (gle rfl)) rfl rfl rfl (gle rfl) rfl rfl ?_
                  refine SV.opY (OpL.ok (nb := 0) (ok_move (v := V.one (.hd 5)) (.inl rfl) rfl) rfl (gle rfl)) rfl rfl rfl (gle rfl) rfl rfl ?_
                  refine SV.opY (OpMk.ok (ok_call (ls := [(false, [.sc _])]) rfl rfl ⟨_, _, Try.func18, rfl, by decide⟩ (vsame11 (mrows X) hrw (by omega)) ⟨⟨[.hd 4], rfl, ⟨rfl, trivial⟩⟩, ⟨[.hd 5], rfl, ⟨rfl, trivial⟩⟩, trivial⟩ rfl (gle rfl))) rfl rfl rfl (gle rfl) rfl rfl ?_
                  refine SV.opY (OpL.ok (nb := 0) (ok_s1 (x := .tmp 88) (VScal.one rfl) (fun ρ h1 w => by go_simp; (try go_bits); with_reducible rfl) rfl) rfl (gle rfl)) rfl rfl rfl (gle rfl) rfl rfl ?_
                  refine SV.op (OpL.ok (nb := 0) (ok_pickF (v := V.one (.sc _)) rfl rfl rfl) rfl (gle rfl)) rfl ?_
                  refine SV.op (OpL.ok (nb := 0) (ok_move (v := V.one (.sc _)) (.inl rfl) rfl) rfl (gle rfl)) rfl ?_
                  refine SV.split (d := 91) rfl (fun hg7 => ?_) (fun hg7 => ?_)
                  · skip   -- g7.T
                    (exfalso; first | (simp at hg7; done) | (simp at hg7; omega))
                  · skip   -- g7.F
                    refine SV.opY (OpL.ok (nb := 0) (ok_move (v := V.one (.hd 7)) (.inl rfl) rfl) rfl (gle rfl)) rfl rfl rfl (gle rfl) rfl rfl ?_
                    refine SV.opY (OpL.ok (nb := 0) (ok_move (v := V.one (.hd 6)) (.inl rfl) rfl) rfl (gle rfl)) rfl rfl rfl (gle rfl) rfl rfl ?_
                    refine SV.opY (OpMk.ok (ok_call (ls := [(false, [.hd 12])]) rfl rfl ⟨_, _, Try.func24, rfl, by decide⟩ (vpass_s W (by omega) hWf) ⟨⟨[.hd 6], rfl, ⟨rfl, trivial⟩⟩, trivial⟩ rfl (gle rfl))) rfl rfl rfl (gle rfl) rfl rfl ?_
                    refine SV.opY (OpMk.ok (ok_call (ls := [(false, [.sc _])]) rfl rfl ⟨_, _, Try.func23, rfl, by decide⟩ (vsamer11 (Runs.pass W) hpw hpl (by omega)) ⟨⟨[.hd 7], rfl, ⟨rfl, trivial⟩⟩, ⟨[.hd 12], rfl, ⟨rfl, trivial⟩⟩, trivial⟩ rfl (gle rfl))) rfl rfl rfl (gle rfl) rfl rfl ?_
                    refine SV.opY (OpL.ok (nb := 0) (ok_s1 (x := .tmp 95) (VScal.one rfl) (fun ρ h1 w => by go_simp; (try go_bits); with_reducible rfl) rfl) rfl (gle rfl)) rfl rfl rfl (gle rfl) rfl rfl ?_
                    refine SV.op (OpL.ok (nb := 0) (ok_pickF (v := V.one (.sc _)) rfl rfl rfl) rfl (gle rfl)) rfl ?_
                    refine SV.op (OpL.ok (nb := 0) (ok_move (v := V.one (.sc _)) (.inl rfl) rfl) rfl (gle rfl)) rfl ?_
                    refine SV.split (d := 98) rfl (fun hg8 => ?_) (fun hg8 => ?_)
                    · skip   -- g8.T
                      (exfalso; first | (simp at hg8; done) | (simp at hg8; omega))
                    · skip   -- g8.F
                      refine SV.opY (OpL.ok (nb := 0) (ok_move (v := V.one (.sc _)) (.inl rfl) rfl) rfl (gle rfl)) rfl rfl rfl (gle rfl) rfl rfl ?_
                      refine SV.opY (OpMk.ok (ok_call (ls := [(false, [.sc _])]) rfl rfl ⟨_, _, Try.func25, rfl, by decide⟩ (imn n) ⟨⟨[.sc _], rfl, ⟨rfl, trivial⟩⟩, trivial⟩ rfl (gle rfl))) rfl rfl rfl (gle rfl) rfl rfl ?_
                      refine SV.opY (OpL.ok (nb := 0) (ok_move (v := V.one (.sc _)) (.inl rfl) rfl) rfl (gle rfl)) rfl rfl rfl (gle rfl) rfl rfl ?_
                      refine SV.opY (OpMk.ok (ok_call (ls := [(false, [.sc _])]) rfl rfl ⟨_, _, Try.func26, rfl, by decide⟩ (vmp_s n) ⟨⟨[.sc _], rfl, ⟨rfl, trivial⟩⟩, trivial⟩ rfl (gle rfl))) rfl rfl rfl (gle rfl) rfl rfl ?_
                      refine SV.opY (OpL.ok (nb := 0) (ok_s2 (x := .tmp 100) (x' := .tmp 102) (VScal.one rfl) (VScal.one rfl) (fun ρ h1 h2 w => by go_simp; (try go_bits); with_reducible rfl) rfl) rfl (gle rfl)) rfl rfl rfl (gle rfl) rfl rfl ?_
                      refine SV.op (OpL.ok (nb := 0) (ok_pickF (v := V.one (.sc _)) rfl rfl rfl) rfl (gle rfl)) rfl ?_
                      refine SV.nil ?_
                      refine SV.tn ?_
                      refine SV.cond rfl (fun hc1 => ?_) (fun hc1 => ?_)
                      · skip   -- c1.T
                        (exfalso; first | (simp at hc1; done) | (simp at hc1; omega))
                      · skip   -- c1.F
                        refine SV.skip ?_
                        refine SV.tn ?_
                        refine SV.seq' ?_
                        refine SV.seq' ?_
                        refine SV.region ?_
                        refine SV.op (OpL.ok (nb := 0) (ok_move (v := V.one (.sc _)) (.inl rfl) rfl) rfl (gle rfl)) rfl ?_
                        refine SV.op (OpL.ok (nb := 0) (ok_s1 (x := .tmp 105) (VScal.one rfl) (fun ρ h1 w => by go_simp; (try go_bits); with_reducible rfl) rfl) rfl (gle rfl)) rfl ?_
                        refine SV.nil ?_
                        refine SV.tn ?_
                        refine SV.cond rfl (fun hc2 => ?_) (fun hc2 => ?_)
                        · skip   -- c2.T
                          have ho : Runs.okRuns X = false := by simpa using hc2
                          have hr : mrows X = [] := by unfold mrows; rw [if_neg (by rw [ho]; decide)]
                          refine SV.seq' ?_
                          refine SV.region ?_
                          refine SV.op (OpL.ok (nb := 0) (ok_move (v := V.one (.hd 4)) (.inl rfl) rfl) rfl (gle rfl)) rfl ?_
                          refine SV.op (OpL.ok (nb := 0) (ok_len (lf := .hd 4) rfl elt_impl_Row.und rfl rfl) rfl (gle rfl)) rfl ?_
                          refine SV.op (OpL.ok (nb := 0) (ok_s2 (x := .tmp 108) (x' := .const ((Value.int IntKind.i64 0))) (VScal.one rfl) (VScal.one rfl) (fun ρ h1 h2 w => by go_simp; (try go_bits); with_reducible rfl) rfl) rfl (gle rfl)) rfl ?_
                          refine SV.op (OpL.ok (nb := 0) (ok_move (v := V.one (.sc _)) (.inr rfl) rfl) rfl (gle rfl)) rfl ?_
                          refine SV.nil ?_
                          refine SV.tn ?_
                          refine SV.ret ?_
                          refine SV.tr ?_
                          apply SV.done (hf := Try.results3) (ht := rfl) (he := .inl rfl)
                          case hr => exact (ResAll.cons (ResOk.tmp (ag := false) (xs := [.sc _]) rfl) ResAll.nil')
                          case h2 => simp [two]
                          refine ⟨rfl, ⟨?_, trivial⟩, trivial⟩ <;> first | rfl | ((show some (T.lit (Value.bool _)) = some (T.lit (Value.bool _)); refine congrArg (fun z => some (T.lit (Value.bool z))) ?_; first | (rw [hr]; rfl) | (simp; done) | (simp; omega) | (rw [decide_eq_true_iff]; omega)))
                        · skip   -- c2.F
                          have ho : Runs.okRuns X = true := by simpa using hc2
                          have hr : mrows X = R.sort X.flatten := by unfold mrows; rw [if_pos ho, Runs.allIn_sort (Runs.okRuns_asc ho)]
                          have his := iasc (mrows X) hrw (by omega)
                          rw [show R.asc (mrows X) = true from by rw [hr]; exact R.asc_sort _] at his
                          have hbg := vbags11 (mrows X) X.flatten hrw (fun r hr => by obtain ⟨p, hp, h⟩ := List.mem_flatten.1 hr; exact hXW p hp r h) (by omega) (by omega)
                          rw [show R.eqBags (mrows X) X.flatten = true from by rw [hr]; exact R.eqBags_sort _] at hbg
                          have hmn := imn (X.length : Int)
                          rw [Runs.npass_mpass (by omega), show Runs.npass X.length = mcount X from by unfold mcount; rw [if_pos ho]] at hmn
                          rw [show (X.length : Int) = ((X.map tRun).length : Int) from by rw [List.length_map]] at hmn
                          refine SV.skip ?_
                          refine SV.tn ?_
                          refine SV.seq' ?_
                          refine SV.region ?_
                          refine SV.op (OpL.ok (nb := 0) (ok_move (v := V.one (.hd 4)) (.inl rfl) rfl) rfl (gle rfl)) rfl ?_
                          refine SV.op (OpMk.ok (ok_call (ls := [(false, [.sc _])]) rfl rfl ⟨_, _, Try.func22, rfl, by decide⟩ (his) ⟨⟨[.hd 4], rfl, ⟨rfl, trivial⟩⟩, trivial⟩ rfl (gle rfl))) rfl ?_
                          refine SV.op (OpL.ok (nb := 0) (ok_move (v := V.one (.sc _)) (.inl rfl) rfl) rfl (gle rfl)) rfl ?_
                          refine SV.split (d := 112) rfl (fun hg9 => ?_) (fun hg9 => ?_)
                          · skip   -- g9.T
                            refine SV.opY (OpL.ok (nb := 0) (ok_move (v := V.one (.hd 4)) (.inl rfl) rfl) rfl (gle rfl)) rfl rfl rfl (gle rfl) rfl rfl ?_
                            refine SV.opY (OpL.ok (nb := 0) (ok_move (v := V.one (.hd 3)) (.inl rfl) rfl) rfl (gle rfl)) rfl rfl rfl (gle rfl) rfl rfl ?_
                            refine SV.opY (OpMk.ok (ok_call (ls := [(false, [.hd 13])]) rfl rfl ⟨_, _, Try.func27, rfl, by decide⟩ (vflat_s X (by omega) hXf) ⟨⟨[.hd 3], rfl, ⟨rfl, trivial⟩⟩, trivial⟩ rfl (gle rfl))) rfl rfl rfl (gle rfl) rfl rfl ?_
                            refine SV.opY (OpMk.ok (ok_call (ls := [(false, [.sc _])]) rfl rfl ⟨_, _, Try.func20, rfl, by decide⟩ (hbg) ⟨⟨[.hd 4], rfl, ⟨rfl, trivial⟩⟩, ⟨[.hd 13], rfl, ⟨rfl, trivial⟩⟩, trivial⟩ rfl (gle rfl))) rfl rfl rfl (gle rfl) rfl rfl ?_
                            refine SV.op (OpL.ok (nb := 0) (ok_pickT (v := V.one (.sc _)) rfl rfl rfl) rfl (gle rfl)) rfl ?_
                            refine SV.op (OpL.ok (nb := 0) (ok_move (v := V.one (.sc _)) (.inl rfl) rfl) rfl (gle rfl)) rfl ?_
                            refine SV.split (d := 118) rfl (fun hg10 => ?_) (fun hg10 => ?_)
                            · skip   -- g10.T
                              refine SV.opY (OpL.ok (nb := 0) (ok_move (v := V.one (.sc _)) (.inl rfl) rfl) rfl (gle rfl)) rfl rfl rfl (gle rfl) rfl rfl ?_
                              refine SV.opY (OpL.ok (nb := 0) (ok_move (v := V.one (.hd 3)) (.inl rfl) rfl) rfl (gle rfl)) rfl rfl rfl (gle rfl) rfl rfl ?_
                              refine SV.opY (OpL.ok (nb := 0) (ok_len (lf := .hd 3) rfl elt_impl_Run.und rfl rfl) rfl (gle rfl)) rfl rfl rfl (gle rfl) rfl rfl ?_
                              refine SV.opY (OpMk.ok (ok_call (ls := [(false, [.sc _])]) rfl rfl ⟨_, _, Try.func25, rfl, by decide⟩ (hmn) ⟨⟨[.sc _], rfl, ⟨rfl, trivial⟩⟩, trivial⟩ rfl (gle rfl))) rfl rfl rfl (gle rfl) rfl rfl ?_
                              refine SV.opY (OpL.ok (nb := 0) (ok_s2 (x := .tmp 119) (x' := .tmp 122) (VScal.one rfl) (VScal.one rfl) (fun ρ h1 h2 w => by go_simp; (try go_bits); with_reducible rfl) rfl) rfl (gle rfl)) rfl rfl rfl (gle rfl) rfl rfl ?_
                              refine SV.op (OpL.ok (nb := 0) (ok_pickT (v := V.one (.sc _)) rfl rfl rfl) rfl (gle rfl)) rfl ?_
                              refine SV.op (OpL.ok (nb := 0) (ok_move (v := V.one (.sc _)) (.inl rfl) rfl) rfl (gle rfl)) rfl ?_
                              refine SV.split (d := 125) rfl (fun hg11 => ?_) (fun hg11 => ?_)
                              · skip   -- g11.T
                                refine SV.opY (OpL.ok (nb := 0) (ok_move (v := V.one (.hd 7)) (.inl rfl) rfl) rfl (gle rfl)) rfl rfl rfl (gle rfl) rfl rfl ?_
                                refine SV.opY (OpL.ok (nb := 0) (ok_len (lf := .hd 7) rfl elt_impl_Run.und rfl rfl) rfl (gle rfl)) rfl rfl rfl (gle rfl) rfl rfl ?_
                                refine SV.opY (OpL.ok (nb := 0) (ok_move (v := V.one (.hd 6)) (.inl rfl) rfl) rfl (gle rfl)) rfl rfl rfl (gle rfl) rfl rfl ?_
                                refine SV.opY (OpL.ok (nb := 0) (ok_len (lf := .hd 6) rfl elt_impl_Run.und rfl rfl) rfl (gle rfl)) rfl rfl rfl (gle rfl) rfl rfl ?_
                                refine SV.opY (OpL.ok (nb := 0) (ok_s2 (x := .tmp 129) (x' := .const ((Value.int IntKind.i64 1))) (VScal.one rfl) (VScal.one rfl) (fun ρ h1 h2 w => by go_simp; (try go_bits); with_reducible rfl) rfl) rfl (gle rfl)) rfl rfl rfl (gle rfl) rfl rfl ?_
                                refine SV.opY (OpL.ok (nb := 0) (ok_s2 (x := .tmp 130) (x' := .const ((Value.int IntKind.i64 2))) (VScal.one rfl) (VScal.one rfl) (fun ρ h1 h2 w => by go_simp; (try go_bits); with_reducible rfl) rfl) rfl (gle rfl)) rfl rfl rfl (gle rfl) rfl rfl ?_
                                refine SV.opY (OpL.ok (nb := 0) (ok_s2 (x := .tmp 127) (x' := .tmp 131) (VScal.one rfl) (VScal.one rfl) (fun ρ h1 h2 w => by go_simp; (try go_bits); with_reducible rfl) rfl) rfl (gle rfl)) rfl rfl rfl (gle rfl) rfl rfl ?_
                                refine SV.op (OpL.ok (nb := 0) (ok_pickT (v := V.one (.sc _)) rfl rfl rfl) rfl (gle rfl)) rfl ?_
                                refine SV.op (OpL.ok (nb := 0) (ok_move (v := V.one (.sc _)) (.inr rfl) rfl) rfl (gle rfl)) rfl ?_
                                refine SV.nil ?_
                                refine SV.tn ?_
                                refine SV.ret ?_
                                apply SV.done (hf := Try.results3) (ht := rfl) (he := .inl rfl)
                                case hr => exact (ResAll.cons (ResOk.tmp (ag := false) (xs := [.sc _]) rfl) ResAll.nil')
                                case h2 => simp [two]
                                refine ⟨rfl, ⟨?_, trivial⟩, trivial⟩ <;> first | rfl | ((show some (T.lit (Value.bool _)) = some (T.lit (Value.bool _)); refine congrArg (fun z => some (T.lit (Value.bool z))) ?_; first | (rw [hr]; rfl) | (simp; done) | (simp; omega) | (rw [decide_eq_true_iff]; omega)))
                              · skip   -- g11.F
                                (exfalso; first | (simp at hg11; done) | (simp at hg11; omega))
                            · skip   -- g10.F
                              (exfalso; first | (simp at hg10; done) | (simp at hg10; omega))
                          · skip   -- g9.F
                            (exfalso; first | (simp at hg9; done) | (simp at hg9; omega))
          · skip   -- g3.F
            refine SV.opN rfl rfl rfl (gle rfl) rfl rfl rfl (gle rfl) ?_
            refine SV.opN rfl rfl rfl (gle rfl) rfl rfl rfl (gle rfl) ?_
            refine SV.opN rfl rfl rfl (gle rfl) rfl rfl rfl (gle rfl) ?_
            refine SV.opY (OpL.ok (nb := 0) (ok_pickF (v := V.one (.sc _)) rfl rfl rfl) rfl (gle rfl)) rfl rfl rfl (gle rfl) rfl rfl ?_
            refine SV.op (OpL.ok (nb := 0) (ok_pickF (v := V.one (.sc _)) rfl rfl rfl) rfl (gle rfl)) rfl ?_
            refine SV.op (OpL.ok (nb := 0) (ok_move (v := V.one (.sc _)) (.inl rfl) rfl) rfl (gle rfl)) rfl ?_
            refine SV.opY (OpL.ok (nb := 0) (ok_move (v := V.one (.sc _)) (.inl rfl) rfl) rfl (gle rfl)) rfl rfl rfl (gle rfl) rfl rfl ?_
            refine SV.opY (OpL.ok (nb := 0) (ok_move (v := V.one (.sc _)) (.inl rfl) rfl) rfl (gle rfl)) rfl rfl rfl (gle rfl) rfl rfl ?_
            refine SV.opY (OpL.ok (nb := 0) (ok_s2 (x := .tmp 76) (x' := .tmp 77) (VScal.one rfl) (VScal.one rfl) (fun ρ h1 h2 w => by go_simp; (try go_bits); with_reducible rfl) rfl) rfl (gle rfl)) rfl rfl rfl (gle rfl) rfl rfl ?_
            refine SV.op (OpL.ok (nb := 0) (ok_pickF (v := V.one (.sc _)) rfl rfl rfl) rfl (gle rfl)) rfl ?_
            refine SV.op (OpL.ok (nb := 0) (ok_move (v := V.one (.sc _)) (.inl rfl) rfl) rfl (gle rfl)) rfl ?_
            refine SV.split (d := 80) rfl (fun hg12 => ?_) (fun hg12 => ?_)
            · skip   -- g12.T
              (exfalso; first | (simp at hg12; done) | (simp at hg12; omega))
            · skip   -- g12.F
              refine SV.opY (OpL.ok (nb := 0) (ok_move (v := V.one (.sc _)) (.inl rfl) rfl) rfl (gle rfl)) rfl rfl rfl (gle rfl) rfl rfl ?_
              refine SV.opY (OpL.ok (nb := 0) (ok_move (v := V.one (.sc _)) (.inl rfl) rfl) rfl (gle rfl)) rfl rfl rfl (gle rfl) rfl rfl ?_
              refine SV.opY (OpL.ok (nb := 0) (ok_s2 (x := .tmp 81) (x' := .tmp 82) (VScal.one rfl) (VScal.one rfl) (fun ρ h1 h2 w => by go_simp; (try go_bits); with_reducible rfl) rfl) rfl (gle rfl)) rfl rfl rfl (gle rfl) rfl rfl ?_
              refine SV.op (OpL.ok (nb := 0) (ok_pickF (v := V.one (.sc _)) rfl rfl rfl) rfl (gle rfl)) rfl ?_
              refine SV.op (OpL.ok (nb := 0) (ok_move (v := V.one (.sc _)) (.inl rfl) rfl) rfl (gle rfl)) rfl ?_
              refine SV.split (d := 85) rfl (fun hg13 => ?_) (fun hg13 => ?_)
              · skip   -- g13.T
                (exfalso; first | (simp at hg13; done) | (simp at hg13; omega))
              · skip   -- g13.F
                refine SV.opY (OpL.ok (nb := 0) (ok_move (v := V.one (.hd 4)) (.inl rfl) rfl) rfl (gle rfl)) rfl rfl rfl (gle rfl) rfl rfl ?_
                refine SV.opY (OpL.ok (nb := 0) (ok_move (v := V.one (.hd 5)) (.inl rfl) rfl) rfl (gle rfl)) rfl rfl rfl (gle rfl) rfl rfl ?_
                refine SV.opY (OpMk.ok (ok_call (ls := [(false, [.sc _])]) rfl rfl ⟨_, _, Try.func18, rfl, by decide⟩ (vsame11 (mrows X) hrw (by omega)) ⟨⟨[.hd 4], rfl, ⟨rfl, trivial⟩⟩, ⟨[.hd 5], rfl, ⟨rfl, trivial⟩⟩, trivial⟩ rfl (gle rfl))) rfl rfl rfl (gle rfl) rfl rfl ?_
                refine SV.opY (OpL.ok (nb := 0) (ok_s1 (x := .tmp 88) (VScal.one rfl) (fun ρ h1 w => by go_simp; (try go_bits); with_reducible rfl) rfl) rfl (gle rfl)) rfl rfl rfl (gle rfl) rfl rfl ?_
                refine SV.op (OpL.ok (nb := 0) (ok_pickF (v := V.one (.sc _)) rfl rfl rfl) rfl (gle rfl)) rfl ?_
                refine SV.op (OpL.ok (nb := 0) (ok_move (v := V.one (.sc _)) (.inl rfl) rfl) rfl (gle rfl)) rfl ?_
                refine SV.split (d := 91) rfl (fun hg14 => ?_) (fun hg14 => ?_)
                · skip   -- g14.T
                  (exfalso; first | (simp at hg14; done) | (simp at hg14; omega))
                · skip   -- g14.F
                  refine SV.opY (OpL.ok (nb := 0) (ok_move (v := V.one (.hd 7)) (.inl rfl) rfl) rfl (gle rfl)) rfl rfl rfl (gle rfl) rfl rfl ?_
                  refine SV.opY (OpL.ok (nb := 0) (ok_move (v := V.one (.hd 6)) (.inl rfl) rfl) rfl (gle rfl)) rfl rfl rfl (gle rfl) rfl rfl ?_
                  refine SV.opY (OpMk.ok (ok_call (ls := [(false, [.hd 12])]) rfl rfl ⟨_, _, Try.func24, rfl, by decide⟩ (vpass_s W (by omega) hWf) ⟨⟨[.hd 6], rfl, ⟨rfl, trivial⟩⟩, trivial⟩ rfl (gle rfl))) rfl rfl rfl (gle rfl) rfl rfl ?_
                  refine SV.opY (OpMk.ok (ok_call (ls := [(false, [.sc _])]) rfl rfl ⟨_, _, Try.func23, rfl, by decide⟩ (vsamer11 (Runs.pass W) hpw hpl (by omega)) ⟨⟨[.hd 7], rfl, ⟨rfl, trivial⟩⟩, ⟨[.hd 12], rfl, ⟨rfl, trivial⟩⟩, trivial⟩ rfl (gle rfl))) rfl rfl rfl (gle rfl) rfl rfl ?_
                  refine SV.opY (OpL.ok (nb := 0) (ok_s1 (x := .tmp 95) (VScal.one rfl) (fun ρ h1 w => by go_simp; (try go_bits); with_reducible rfl) rfl) rfl (gle rfl)) rfl rfl rfl (gle rfl) rfl rfl ?_
                  refine SV.op (OpL.ok (nb := 0) (ok_pickF (v := V.one (.sc _)) rfl rfl rfl) rfl (gle rfl)) rfl ?_
                  refine SV.op (OpL.ok (nb := 0) (ok_move (v := V.one (.sc _)) (.inl rfl) rfl) rfl (gle rfl)) rfl ?_
                  refine SV.split (d := 98) rfl (fun hg15 => ?_) (fun hg15 => ?_)
                  · skip   -- g15.T
                    (exfalso; first | (simp at hg15; done) | (simp at hg15; omega))
                  · skip   -- g15.F
                    refine SV.opY (OpL.ok (nb := 0) (ok_move (v := V.one (.sc _)) (.inl rfl) rfl) rfl (gle rfl)) rfl rfl rfl (gle rfl) rfl rfl ?_
                    refine SV.opY (OpMk.ok (ok_call (ls := [(false, [.sc _])]) rfl rfl ⟨_, _, Try.func25, rfl, by decide⟩ (imn n) ⟨⟨[.sc _], rfl, ⟨rfl, trivial⟩⟩, trivial⟩ rfl (gle rfl))) rfl rfl rfl (gle rfl) rfl rfl ?_
                    refine SV.opY (OpL.ok (nb := 0) (ok_move (v := V.one (.sc _)) (.inl rfl) rfl) rfl (gle rfl)) rfl rfl rfl (gle rfl) rfl rfl ?_
                    refine SV.opY (OpMk.ok (ok_call (ls := [(false, [.sc _])]) rfl rfl ⟨_, _, Try.func26, rfl, by decide⟩ (vmp_s n) ⟨⟨[.sc _], rfl, ⟨rfl, trivial⟩⟩, trivial⟩ rfl (gle rfl))) rfl rfl rfl (gle rfl) rfl rfl ?_
                    refine SV.opY (OpL.ok (nb := 0) (ok_s2 (x := .tmp 100) (x' := .tmp 102) (VScal.one rfl) (VScal.one rfl) (fun ρ h1 h2 w => by go_simp; (try go_bits); with_reducible rfl) rfl) rfl (gle rfl)) rfl rfl rfl (gle rfl) rfl rfl ?_
                    refine SV.op (OpL.ok (nb := 0) (ok_pickF (v := V.one (.sc _)) rfl rfl rfl) rfl (gle rfl)) rfl ?_
                    refine SV.nil ?_
                    refine SV.tn ?_
                    refine SV.cond rfl (fun hc3 => ?_) (fun hc3 => ?_)
                    · skip   -- c3.T
                      (exfalso; first | (simp at hc3; done) | (simp at hc3; omega))
                    · skip   -- c3.F
                      refine SV.skip ?_
                      refine SV.tn ?_
                      refine SV.seq' ?_
                      refine SV.seq' ?_
                      refine SV.region ?_
                      refine SV.op (OpL.ok (nb := 0) (ok_move (v := V.one (.sc _)) (.inl rfl) rfl) rfl (gle rfl)) rfl ?_
                      refine SV.op (OpL.ok (nb := 0) (ok_s1 (x := .tmp 105) (VScal.one rfl) (fun ρ h1 w => by go_simp; (try go_bits); with_reducible rfl) rfl) rfl (gle rfl)) rfl ?_
                      refine SV.nil ?_
                      refine SV.tn ?_
                      refine SV.cond rfl (fun hc4 => ?_) (fun hc4 => ?_)
                      · skip   -- c4.T
                        have ho : Runs.okRuns X = false := by simpa using hc4
                        have hr : mrows X = [] := by unfold mrows; rw [if_neg (by rw [ho]; decide)]
                        refine SV.seq' ?_
                        refine SV.region ?_
                        refine SV.op (OpL.ok (nb := 0) (ok_move (v := V.one (.hd 4)) (.inl rfl) rfl) rfl (gle rfl)) rfl ?_
                        refine SV.op (OpL.ok (nb := 0) (ok_len (lf := .hd 4) rfl elt_impl_Row.und rfl rfl) rfl (gle rfl)) rfl ?_
                        refine SV.op (OpL.ok (nb := 0) (ok_s2 (x := .tmp 108) (x' := .const ((Value.int IntKind.i64 0))) (VScal.one rfl) (VScal.one rfl) (fun ρ h1 h2 w => by go_simp; (try go_bits); with_reducible rfl) rfl) rfl (gle rfl)) rfl ?_
                        refine SV.op (OpL.ok (nb := 0) (ok_move (v := V.one (.sc _)) (.inr rfl) rfl) rfl (gle rfl)) rfl ?_
                        refine SV.nil ?_
                        refine SV.tn ?_
                        refine SV.ret ?_
                        refine SV.tr ?_
                        apply SV.done (hf := Try.results3) (ht := rfl) (he := .inl rfl)
                        case hr => exact (ResAll.cons (ResOk.tmp (ag := false) (xs := [.sc _]) rfl) ResAll.nil')
                        case h2 => simp [two]
                        refine ⟨rfl, ⟨?_, trivial⟩, trivial⟩ <;> first | rfl | ((show some (T.lit (Value.bool _)) = some (T.lit (Value.bool _)); refine congrArg (fun z => some (T.lit (Value.bool z))) ?_; first | (rw [hr]; rfl) | (simp; done) | (simp; omega) | (rw [decide_eq_true_iff]; omega)))
                      · skip   -- c4.F
                        have ho : Runs.okRuns X = true := by simpa using hc4
                        have hr : mrows X = R.sort X.flatten := by unfold mrows; rw [if_pos ho, Runs.allIn_sort (Runs.okRuns_asc ho)]
                        have his := iasc (mrows X) hrw (by omega)
                        rw [show R.asc (mrows X) = true from by rw [hr]; exact R.asc_sort _] at his
                        have hbg := vbags11 (mrows X) X.flatten hrw (fun r hr => by obtain ⟨p, hp, h⟩ := List.mem_flatten.1 hr; exact hXW p hp r h) (by omega) (by omega)
                        rw [show R.eqBags (mrows X) X.flatten = true from by rw [hr]; exact R.eqBags_sort _] at hbg
                        have hmn := imn (X.length : Int)
                        rw [Runs.npass_mpass (by omega), show Runs.npass X.length = mcount X from by unfold mcount; rw [if_pos ho]] at hmn
                        rw [show (X.length : Int) = ((X.map tRun).length : Int) from by rw [List.length_map]] at hmn
                        refine SV.skip ?_
                        refine SV.tn ?_
                        refine SV.seq' ?_
                        refine SV.region ?_
                        refine SV.op (OpL.ok (nb := 0) (ok_move (v := V.one (.hd 4)) (.inl rfl) rfl) rfl (gle rfl)) rfl ?_
                        refine SV.op (OpMk.ok (ok_call (ls := [(false, [.sc _])]) rfl rfl ⟨_, _, Try.func22, rfl, by decide⟩ (his) ⟨⟨[.hd 4], rfl, ⟨rfl, trivial⟩⟩, trivial⟩ rfl (gle rfl))) rfl ?_
                        refine SV.op (OpL.ok (nb := 0) (ok_move (v := V.one (.sc _)) (.inl rfl) rfl) rfl (gle rfl)) rfl ?_
                        refine SV.split (d := 112) rfl (fun hg16 => ?_) (fun hg16 => ?_)
                        · skip   -- g16.T
                          refine SV.opY (OpL.ok (nb := 0) (ok_move (v := V.one (.hd 4)) (.inl rfl) rfl) rfl (gle rfl)) rfl rfl rfl (gle rfl) rfl rfl ?_
                          refine SV.opY (OpL.ok (nb := 0) (ok_move (v := V.one (.hd 3)) (.inl rfl) rfl) rfl (gle rfl)) rfl rfl rfl (gle rfl) rfl rfl ?_
                          refine SV.opY (OpMk.ok (ok_call (ls := [(false, [.hd 13])]) rfl rfl ⟨_, _, Try.func27, rfl, by decide⟩ (vflat_s X (by omega) hXf) ⟨⟨[.hd 3], rfl, ⟨rfl, trivial⟩⟩, trivial⟩ rfl (gle rfl))) rfl rfl rfl (gle rfl) rfl rfl ?_
                          refine SV.opY (OpMk.ok (ok_call (ls := [(false, [.sc _])]) rfl rfl ⟨_, _, Try.func20, rfl, by decide⟩ (hbg) ⟨⟨[.hd 4], rfl, ⟨rfl, trivial⟩⟩, ⟨[.hd 13], rfl, ⟨rfl, trivial⟩⟩, trivial⟩ rfl (gle rfl))) rfl rfl rfl (gle rfl) rfl rfl ?_
                          refine SV.op (OpL.ok (nb := 0) (ok_pickT (v := V.one (.sc _)) rfl rfl rfl) rfl (gle rfl)) rfl ?_
                          refine SV.op (OpL.ok (nb := 0) (ok_move (v := V.one (.sc _)) (.inl rfl) rfl) rfl (gle rfl)) rfl ?_
                          refine SV.split (d := 118) rfl (fun hg17 => ?_) (fun hg17 => ?_)
                          · skip   -- g17.T
                            refine SV.opY (OpL.ok (nb := 0) (ok_move (v := V.one (.sc _)) (.inl rfl) rfl) rfl (gle rfl)) rfl rfl rfl (gle rfl) rfl rfl ?_
                            refine SV.opY (OpL.ok (nb := 0) (ok_move (v := V.one (.hd 3)) (.inl rfl) rfl) rfl (gle rfl)) rfl rfl rfl (gle rfl) rfl rfl ?_
                            refine SV.opY (OpL.ok (nb := 0) (ok_len (lf := .hd 3) rfl elt_impl_Run.und rfl rfl) rfl (gle rfl)) rfl rfl rfl (gle rfl) rfl rfl ?_
                            refine SV.opY (OpMk.ok (ok_call (ls := [(false, [.sc _])]) rfl rfl ⟨_, _, Try.func25, rfl, by decide⟩ (hmn) ⟨⟨[.sc _], rfl, ⟨rfl, trivial⟩⟩, trivial⟩ rfl (gle rfl))) rfl rfl rfl (gle rfl) rfl rfl ?_
                            refine SV.opY (OpL.ok (nb := 0) (ok_s2 (x := .tmp 119) (x' := .tmp 122) (VScal.one rfl) (VScal.one rfl) (fun ρ h1 h2 w => by go_simp; (try go_bits); with_reducible rfl) rfl) rfl (gle rfl)) rfl rfl rfl (gle rfl) rfl rfl ?_
                            refine SV.op (OpL.ok (nb := 0) (ok_pickT (v := V.one (.sc _)) rfl rfl rfl) rfl (gle rfl)) rfl ?_
                            refine SV.op (OpL.ok (nb := 0) (ok_move (v := V.one (.sc _)) (.inl rfl) rfl) rfl (gle rfl)) rfl ?_
                            refine SV.split (d := 125) rfl (fun hg18 => ?_) (fun hg18 => ?_)
                            · skip   -- g18.T
                              refine SV.opY (OpL.ok (nb := 0) (ok_move (v := V.one (.hd 7)) (.inl rfl) rfl) rfl (gle rfl)) rfl rfl rfl (gle rfl) rfl rfl ?_
                              refine SV.opY (OpL.ok (nb := 0) (ok_len (lf := .hd 7) rfl elt_impl_Run.und rfl rfl) rfl (gle rfl)) rfl rfl rfl (gle rfl) rfl rfl ?_
                              refine SV.opY (OpL.ok (nb := 0) (ok_move (v := V.one (.hd 6)) (.inl rfl) rfl) rfl (gle rfl)) rfl rfl rfl (gle rfl) rfl rfl ?_
                              refine SV.opY (OpL.ok (nb := 0) (ok_len (lf := .hd 6) rfl elt_impl_Run.und rfl rfl) rfl (gle rfl)) rfl rfl rfl (gle rfl) rfl rfl ?_
                              refine SV.opY (OpL.ok (nb := 0) (ok_s2 (x := .tmp 129) (x' := .const ((Value.int IntKind.i64 1))) (VScal.one rfl) (VScal.one rfl) (fun ρ h1 h2 w => by go_simp; (try go_bits); with_reducible rfl) rfl) rfl (gle rfl)) rfl rfl rfl (gle rfl) rfl rfl ?_
                              refine SV.opY (OpL.ok (nb := 0) (ok_s2 (x := .tmp 130) (x' := .const ((Value.int IntKind.i64 2))) (VScal.one rfl) (VScal.one rfl) (fun ρ h1 h2 w => by go_simp; (try go_bits); with_reducible rfl) rfl) rfl (gle rfl)) rfl rfl rfl (gle rfl) rfl rfl ?_
                              refine SV.opY (OpL.ok (nb := 0) (ok_s2 (x := .tmp 127) (x' := .tmp 131) (VScal.one rfl) (VScal.one rfl) (fun ρ h1 h2 w => by go_simp; (try go_bits); with_reducible rfl) rfl) rfl (gle rfl)) rfl rfl rfl (gle rfl) rfl rfl ?_
                              refine SV.op (OpL.ok (nb := 0) (ok_pickT (v := V.one (.sc _)) rfl rfl rfl) rfl (gle rfl)) rfl ?_
                              refine SV.op (OpL.ok (nb := 0) (ok_move (v := V.one (.sc _)) (.inr rfl) rfl) rfl (gle rfl)) rfl ?_
                              refine SV.nil ?_
                              refine SV.tn ?_
                              refine SV.ret ?_
                              apply SV.done (hf := Try.results3) (ht := rfl) (he := .inl rfl)
                              case hr => exact (ResAll.cons (ResOk.tmp (ag := false) (xs := [.sc _]) rfl) ResAll.nil')
                              case h2 => simp [two]
                              refine ⟨rfl, ⟨?_, trivial⟩, trivial⟩ <;> first | rfl | ((show some (T.lit (Value.bool _)) = some (T.lit (Value.bool _)); refine congrArg (fun z => some (T.lit (Value.bool z))) ?_; first | (rw [hr]; rfl) | (simp; done) | (simp; omega) | (rw [decide_eq_true_iff]; omega)))
                            · skip   -- g18.F
                              (exfalso; first | (simp at hg18; done) | (simp at hg18; omega))
                          · skip   -- g17.F
                            (exfalso; first | (simp at hg17; done) | (simp at hg17; omega))
                        · skip   -- g16.F
                          (exfalso; first | (simp at hg16; done) | (simp at hg16; omega))
        · skip   -- g2.F
          refine SV.opN rfl rfl rfl (gle rfl) rfl rfl rfl (gle rfl) ?_
          refine SV.opN rfl rfl rfl (gle rfl) rfl rfl rfl (gle rfl) ?_
          refine SV.opY (OpL.ok (nb := 0) (ok_pickF (v := V.one (.sc _)) rfl rfl rfl) rfl (gle rfl)) rfl rfl rfl (gle rfl) rfl rfl ?_
          refine SV.opY (OpL.ok (nb := 0) (ok_move (v := V.one (.sc _)) (.inl rfl) rfl) rfl (gle rfl)) rfl rfl rfl (gle rfl) rfl rfl ?_
          refine SV.opN rfl rfl rfl (gle rfl) rfl rfl rfl (gle rfl) ?_
          refine SV.opN rfl rfl rfl (gle rfl) rfl rfl rfl (gle rfl) ?_
          refine SV.opN rfl rfl rfl (gle rfl) rfl rfl rfl (gle rfl) ?_
          refine SV.opY (OpL.ok (nb := 0) (ok_pickF (v := V.one (.sc _)) rfl rfl rfl) rfl (gle rfl)) rfl rfl rfl (gle rfl) rfl rfl ?_
          refine SV.op (OpL.ok (nb := 0) (ok_pickF (v := V.one (.sc _)) rfl rfl rfl) rfl (gle rfl)) rfl ?_
          refine SV.op (OpL.ok (nb := 0) (ok_move (v := V.one (.sc _)) (.inl rfl) rfl) rfl (gle rfl)) rfl ?_
          refine SV.opY (OpL.ok (nb := 0) (ok_move (v := V.one (.sc _)) (.inl rfl) rfl) rfl (gle rfl)) rfl rfl rfl (gle rfl) rfl rfl ?_
          refine SV.opY (OpL.ok (nb := 0) (ok_move (v := V.one (.sc _)) (.inl rfl) rfl) rfl (gle rfl)) rfl rfl rfl (gle rfl) rfl rfl ?_
          refine SV.opY (OpL.ok (nb := 0) (ok_s2 (x := .tmp 76) (x' := .tmp 77) (VScal.one rfl) (VScal.one rfl) (fun ρ h1 h2 w => by go_simp; (try go_bits); with_reducible rfl) rfl) rfl (gle rfl)) rfl rfl rfl (gle rfl) rfl rfl ?_
          refine SV.op (OpL.ok (nb := 0) (ok_pickF (v := V.one (.sc _)) rfl rfl rfl) rfl (gle rfl)) rfl ?_
          refine SV.op (OpL.ok (nb := 0) (ok_move (v := V.one (.sc _)) (.inl rfl) rfl) rfl (gle rfl)) rfl ?_
          refine SV.split (d := 80) rfl (fun hg19 => ?_) (fun hg19 => ?_)
          · skip   -- g19.T
            (exfalso; first | (simp at hg19; done) | (simp at hg19; omega))
          · skip   -- g19.F
            refine SV.opY (OpL.ok (nb := 0) (ok_move (v := V.one (.sc _)) (.inl rfl) rfl) rfl (gle rfl)) rfl rfl rfl (gle rfl) rfl rfl ?_
            refine SV.opY (OpL.ok (nb := 0) (ok_move (v := V.one (.sc _)) (.inl rfl) rfl) rfl (gle rfl)) rfl rfl rfl (gle rfl) rfl rfl ?_
            refine SV.opY (OpL.ok (nb := 0) (ok_s2 (x := .tmp 81) (x' := .tmp 82) (VScal.one rfl) (VScal.one rfl) (fun ρ h1 h2 w => by go_simp; (try go_bits); with_reducible rfl) rfl) rfl (gle rfl)) rfl rfl rfl (gle rfl) rfl rfl ?_
            refine SV.op (OpL.ok (nb := 0) (ok_pickF (v := V.one (.sc _)) rfl rfl rfl) rfl (gle rfl)) rfl ?_
            refine SV.op (OpL.ok (nb := 0) (ok_move (v := V.one (.sc _)) (.inl rfl) rfl) rfl (gle rfl)) rfl ?_
            refine SV.split (d := 85) rfl (fun hg20 => ?_) (fun hg20 => ?_)
            · skip   -- g20.T
              (exfalso; first | (simp at hg20; done) | (simp at hg20; omega))
            · skip   -- g20.F
              refine SV.opY (OpL.ok (nb := 0) (ok_move (v := V.one (.hd 4)) (.inl rfl) rfl) rfl (gle rfl)) rfl rfl rfl (gle rfl) rfl rfl ?_
              refine SV.opY (OpL.ok (nb := 0) (ok_move (v := V.one (.hd 5)) (.inl rfl) rfl) rfl (gle rfl)) rfl rfl rfl (gle rfl) rfl rfl ?_
              refine SV.opY (OpMk.ok (ok_call (ls := [(false, [.sc _])]) rfl rfl ⟨_, _, Try.func18, rfl, by decide⟩ (vsame11 (mrows X) hrw (by omega)) ⟨⟨[.hd 4], rfl, ⟨rfl, trivial⟩⟩, ⟨[.hd 5], rfl, ⟨rfl, trivial⟩⟩, trivial⟩ rfl (gle rfl))) rfl rfl rfl (gle rfl) rfl rfl ?_
              refine SV.opY (OpL.ok (nb := 0) (ok_s1 (x := .tmp 88) (VScal.one rfl) (fun ρ h1 w => by go_simp; (try go_bits); with_reducible rfl) rfl) rfl (gle rfl)) rfl rfl rfl (gle rfl) rfl rfl ?_
              refine SV.op (OpL.ok (nb := 0) (ok_pickF (v := V.one (.sc _)) rfl rfl rfl) rfl (gle rfl)) rfl ?_
              refine SV.op (OpL.ok (nb := 0) (ok_move (v := V.one (.sc _)) (.inl rfl) rfl) rfl (gle rfl)) rfl ?_
              refine SV.split (d := 91) rfl (fun hg21 => ?_) (fun hg21 => ?_)
              · skip   -- g21.T
                (exfalso; first | (simp at hg21; done) | (simp at hg21; omega))
              · skip   -- g21.F
                refine SV.opY (OpL.ok (nb := 0) (ok_move (v := V.one (.hd 7)) (.inl rfl) rfl) rfl (gle rfl)) rfl rfl rfl (gle rfl) rfl rfl ?_
                refine SV.opY (OpL.ok (nb := 0) (ok_move (v := V.one (.hd 6)) (.inl rfl) rfl) rfl (gle rfl)) rfl rfl rfl (gle rfl) rfl rfl ?_
                refine SV.opY (OpMk.ok (ok_call (ls := [(false, [.hd 12])]) rfl rfl ⟨_, _, Try.func24, rfl, by decide⟩ (vpass_s W (by omega) hWf) ⟨⟨[.hd 6], rfl, ⟨rfl, trivial⟩⟩, trivial⟩ rfl (gle rfl))) rfl rfl rfl (gle rfl) rfl rfl ?_
                refine SV.opY (OpMk.ok (ok_call (ls := [(false, [.sc _])]) rfl rfl ⟨_, _, Try.func23, rfl, by decide⟩ (vsamer11 (Runs.pass W) hpw hpl (by omega)) ⟨⟨[.hd 7], rfl, ⟨rfl, trivial⟩⟩, ⟨[.hd 12], rfl, ⟨rfl, trivial⟩⟩, trivial⟩ rfl (gle rfl))) rfl rfl rfl (gle rfl) rfl rfl ?_
                refine SV.opY (OpL.ok (nb := 0) (ok_s1 (x := .tmp 95) (VScal.one rfl) (fun ρ h1 w => by go_simp; (try go_bits); with_reducible rfl) rfl) rfl (gle rfl)) rfl rfl rfl (gle rfl) rfl rfl ?_
                refine SV.op (OpL.ok (nb := 0) (ok_pickF (v := V.one (.sc _)) rfl rfl rfl) rfl (gle rfl)) rfl ?_
                refine SV.op (OpL.ok (nb := 0) (ok_move (v := V.one (.sc _)) (.inl rfl) rfl) rfl (gle rfl)) rfl ?_
                refine SV.split (d := 98) rfl (fun hg22 => ?_) (fun hg22 => ?_)
                · skip   -- g22.T
                  (exfalso; first | (simp at hg22; done) | (simp at hg22; omega))
                · skip   -- g22.F
                  refine SV.opY (OpL.ok (nb := 0) (ok_move (v := V.one (.sc _)) (.inl rfl) rfl) rfl (gle rfl)) rfl rfl rfl (gle rfl) rfl rfl ?_
                  refine SV.opY (OpMk.ok (ok_call (ls := [(false, [.sc _])]) rfl rfl ⟨_, _, Try.func25, rfl, by decide⟩ (imn n) ⟨⟨[.sc _], rfl, ⟨rfl, trivial⟩⟩, trivial⟩ rfl (gle rfl))) rfl rfl rfl (gle rfl) rfl rfl ?_
                  refine SV.opY (OpL.ok (nb := 0) (ok_move (v := V.one (.sc _)) (.inl rfl) rfl) rfl (gle rfl)) rfl rfl rfl (gle rfl) rfl rfl ?_
                  refine SV.opY (OpMk.ok (ok_call (ls := [(false, [.sc _])]) rfl rfl ⟨_, _, Try.func26, rfl, by decide⟩ (vmp_s n) ⟨⟨[.sc _], rfl, ⟨rfl, trivial⟩⟩, trivial⟩ rfl (gle rfl))) rfl rfl rfl (gle rfl) rfl rfl ?_
                  refine SV.opY (OpL.ok (nb := 0) (ok_s2 (x := .tmp 100) (x' := .tmp 102) (VScal.one rfl) (VScal.one rfl) (fun ρ h1 h2 w => by go_simp; (try go_bits); with_reducible rfl) rfl) rfl (gle rfl)) rfl rfl rfl (gle rfl) rfl rfl ?_
                  refine SV.op (OpL.ok (nb := 0) (ok_pickF (v := V.one (.sc _)) rfl rfl rfl) rfl (gle rfl)) rfl ?_
                  refine SV.nil ?_
                  refine SV.tn ?_
                  refine SV.cond rfl (fun hc5 => ?_) (fun hc5 => ?_)
                  · skip   -- c5.T
                    (exfalso; first | (simp at hc5; done) | (simp at hc5; omega))
                  · skip   -- c5.F
                    refine SV.skip ?_
                    refine SV.tn ?_
                    refine SV.seq' ?_
                    refine SV.seq' ?_
                    refine SV.region ?_
                    refine SV.op (OpL.ok (nb := 0) (ok_move (v := V.one (.sc _)) (.inl rfl) rfl) rfl (gle rfl)) rfl ?_
                    refine SV.op (OpL.ok (nb := 0) (ok_s1 (x := .tmp 105) (VScal.one rfl) (fun ρ h1 w => by go_simp; (try go_bits); with_reducible rfl) rfl) rfl (gle rfl)) rfl ?_
                    refine SV.nil ?_
                    refine SV.tn ?_
                    refine SV.cond rfl (fun hc6 => ?_) (fun hc6 => ?_)
                    · skip   -- c6.T
                      have ho : Runs.okRuns X = false := by simpa using hc6
                      have hr : mrows X = [] := by unfold mrows; rw [if_neg (by rw [ho]; decide)]
                      refine SV.seq' ?_
                      refine SV.region ?_
                      refine SV.op (OpL.ok (nb := 0) (ok_move (v := V.one (.hd 4)) (.inl rfl) rfl) rfl (gle rfl)) rfl ?_
                      refine SV.op (OpL.ok (nb := 0) (ok_len (lf := .hd 4) rfl elt_impl_Row.und rfl rfl) rfl (gle rfl)) rfl ?_
                      refine SV.op (OpL.ok (nb := 0) (ok_s2 (x := .tmp 108) (x' := .const ((Value.int IntKind.i64 0))) (VScal.one rfl) (VScal.one rfl) (fun ρ h1 h2 w => by go_simp; (try go_bits); with_reducible rfl) rfl) rfl (gle rfl)) rfl ?_
                      refine SV.op (OpL.ok (nb := 0) (ok_move (v := V.one (.sc _)) (.inr rfl) rfl) rfl (gle rfl)) rfl ?_
                      refine SV.nil ?_
                      refine SV.tn ?_
                      refine SV.ret ?_
                      refine SV.tr ?_
                      apply SV.done (hf := Try.results3) (ht := rfl) (he := .inl rfl)
                      case hr => exact (ResAll.cons (ResOk.tmp (ag := false) (xs := [.sc _]) rfl) ResAll.nil')
                      case h2 => simp [two]
                      refine ⟨rfl, ⟨?_, trivial⟩, trivial⟩ <;> first | rfl | ((show some (T.lit (Value.bool _)) = some (T.lit (Value.bool _)); refine congrArg (fun z => some (T.lit (Value.bool z))) ?_; first | (rw [hr]; rfl) | (simp; done) | (simp; omega) | (rw [decide_eq_true_iff]; omega)))
                    · skip   -- c6.F
                      have ho : Runs.okRuns X = true := by simpa using hc6
                      have hr : mrows X = R.sort X.flatten := by unfold mrows; rw [if_pos ho, Runs.allIn_sort (Runs.okRuns_asc ho)]
                      have his := iasc (mrows X) hrw (by omega)
                      rw [show R.asc (mrows X) = true from by rw [hr]; exact R.asc_sort _] at his
                      have hbg := vbags11 (mrows X) X.flatten hrw (fun r hr => by obtain ⟨p, hp, h⟩ := List.mem_flatten.1 hr; exact hXW p hp r h) (by omega) (by omega)
                      rw [show R.eqBags (mrows X) X.flatten = true from by rw [hr]; exact R.eqBags_sort _] at hbg
                      have hmn := imn (X.length : Int)
                      rw [Runs.npass_mpass (by omega), show Runs.npass X.length = mcount X from by unfold mcount; rw [if_pos ho]] at hmn
                      rw [show (X.length : Int) = ((X.map tRun).length : Int) from by rw [List.length_map]] at hmn
                      refine SV.skip ?_
                      refine SV.tn ?_
                      refine SV.seq' ?_
                      refine SV.region ?_
                      refine SV.op (OpL.ok (nb := 0) (ok_move (v := V.one (.hd 4)) (.inl rfl) rfl) rfl (gle rfl)) rfl ?_
                      refine SV.op (OpMk.ok (ok_call (ls := [(false, [.sc _])]) rfl rfl ⟨_, _, Try.func22, rfl, by decide⟩ (his) ⟨⟨[.hd 4], rfl, ⟨rfl, trivial⟩⟩, trivial⟩ rfl (gle rfl))) rfl ?_
                      refine SV.op (OpL.ok (nb := 0) (ok_move (v := V.one (.sc _)) (.inl rfl) rfl) rfl (gle rfl)) rfl ?_
                      refine SV.split (d := 112) rfl (fun hg23 => ?_) (fun hg23 => ?_)
                      · skip   -- g23.T
                        refine SV.opY (OpL.ok (nb := 0) (ok_move (v := V.one (.hd 4)) (.inl rfl) rfl) rfl (gle rfl)) rfl rfl rfl (gle rfl) rfl rfl ?_
                        refine SV.opY (OpL.ok (nb := 0) (ok_move (v := V.one (.hd 3)) (.inl rfl) rfl) rfl (gle rfl)) rfl rfl rfl (gle rfl) rfl rfl ?_
                        refine SV.opY (OpMk.ok (ok_call (ls := [(false, [.hd 13])]) rfl rfl ⟨_, _, Try.func27, rfl, by decide⟩ (vflat_s X (by omega) hXf) ⟨⟨[.hd 3], rfl, ⟨rfl, trivial⟩⟩, trivial⟩ rfl (gle rfl))) rfl rfl rfl (gle rfl) rfl rfl ?_
                        refine SV.opY (OpMk.ok (ok_call (ls := [(false, [.sc _])]) rfl rfl ⟨_, _, Try.func20, rfl, by decide⟩ (hbg) ⟨⟨[.hd 4], rfl, ⟨rfl, trivial⟩⟩, ⟨[.hd 13], rfl, ⟨rfl, trivial⟩⟩, trivial⟩ rfl (gle rfl))) rfl rfl rfl (gle rfl) rfl rfl ?_
                        refine SV.op (OpL.ok (nb := 0) (ok_pickT (v := V.one (.sc _)) rfl rfl rfl) rfl (gle rfl)) rfl ?_
                        refine SV.op (OpL.ok (nb := 0) (ok_move (v := V.one (.sc _)) (.inl rfl) rfl) rfl (gle rfl)) rfl ?_
                        refine SV.split (d := 118) rfl (fun hg24 => ?_) (fun hg24 => ?_)
                        · skip   -- g24.T
                          refine SV.opY (OpL.ok (nb := 0) (ok_move (v := V.one (.sc _)) (.inl rfl) rfl) rfl (gle rfl)) rfl rfl rfl (gle rfl) rfl rfl ?_
                          refine SV.opY (OpL.ok (nb := 0) (ok_move (v := V.one (.hd 3)) (.inl rfl) rfl) rfl (gle rfl)) rfl rfl rfl (gle rfl) rfl rfl ?_
                          refine SV.opY (OpL.ok (nb := 0) (ok_len (lf := .hd 3) rfl elt_impl_Run.und rfl rfl) rfl (gle rfl)) rfl rfl rfl (gle rfl) rfl rfl ?_
                          refine SV.opY (OpMk.ok (ok_call (ls := [(false, [.sc _])]) rfl rfl ⟨_, _, Try.func25, rfl, by decide⟩ (hmn) ⟨⟨[.sc _], rfl, ⟨rfl, trivial⟩⟩, trivial⟩ rfl (gle rfl))) rfl rfl rfl (gle rfl) rfl rfl ?_
                          refine SV.opY (OpL.ok (nb := 0) (ok_s2 (x := .tmp 119) (x' := .tmp 122) (VScal.one rfl) (VScal.one rfl) (fun ρ h1 h2 w => by go_simp; (try go_bits); with_reducible rfl) rfl) rfl (gle rfl)) rfl rfl rfl (gle rfl) rfl rfl ?_
                          refine SV.op (OpL.ok (nb := 0) (ok_pickT (v := V.one (.sc _)) rfl rfl rfl) rfl (gle rfl)) rfl ?_
                          refine SV.op (OpL.ok (nb := 0) (ok_move (v := V.one (.sc _)) (.inl rfl) rfl) rfl (gle rfl)) rfl ?_
                          refine SV.split (d := 125) rfl (fun hg25 => ?_) (fun hg25 => ?_)
                          · skip   -- g25.T
                            refine SV.opY (OpL.ok (nb := 0) (ok_move (v := V.one (.hd 7)) (.inl rfl) rfl) rfl (gle rfl)) rfl rfl rfl (gle rfl) rfl rfl ?_
                            refine SV.opY (OpL.ok (nb := 0) (ok_len (lf := .hd 7) rfl elt_impl_Run.und rfl rfl) rfl (gle rfl)) rfl rfl rfl (gle rfl) rfl rfl ?_
                            refine SV.opY (OpL.ok (nb := 0) (ok_move (v := V.one (.hd 6)) (.inl rfl) rfl) rfl (gle rfl)) rfl rfl rfl (gle rfl) rfl rfl ?_
                            refine SV.opY (OpL.ok (nb := 0) (ok_len (lf := .hd 6) rfl elt_impl_Run.und rfl rfl) rfl (gle rfl)) rfl rfl rfl (gle rfl) rfl rfl ?_
                            refine SV.opY (OpL.ok (nb := 0) (ok_s2 (x := .tmp 129) (x' := .const ((Value.int IntKind.i64 1))) (VScal.one rfl) (VScal.one rfl) (fun ρ h1 h2 w => by go_simp; (try go_bits); with_reducible rfl) rfl) rfl (gle rfl)) rfl rfl rfl (gle rfl) rfl rfl ?_
                            refine SV.opY (OpL.ok (nb := 0) (ok_s2 (x := .tmp 130) (x' := .const ((Value.int IntKind.i64 2))) (VScal.one rfl) (VScal.one rfl) (fun ρ h1 h2 w => by go_simp; (try go_bits); with_reducible rfl) rfl) rfl (gle rfl)) rfl rfl rfl (gle rfl) rfl rfl ?_
                            refine SV.opY (OpL.ok (nb := 0) (ok_s2 (x := .tmp 127) (x' := .tmp 131) (VScal.one rfl) (VScal.one rfl) (fun ρ h1 h2 w => by go_simp; (try go_bits); with_reducible rfl) rfl) rfl (gle rfl)) rfl rfl rfl (gle rfl) rfl rfl ?_
                            refine SV.op (OpL.ok (nb := 0) (ok_pickT (v := V.one (.sc _)) rfl rfl rfl) rfl (gle rfl)) rfl ?_
                            refine SV.op (OpL.ok (nb := 0) (ok_move (v := V.one (.sc _)) (.inr rfl) rfl) rfl (gle rfl)) rfl ?_
                            refine SV.nil ?_
                            refine SV.tn ?_
                            refine SV.ret ?_
                            apply SV.done (hf := Try.results3) (ht := rfl) (he := .inl rfl)
                            case hr => exact (ResAll.cons (ResOk.tmp (ag := false) (xs := [.sc _]) rfl) ResAll.nil')
                            case h2 => simp [two]
                            refine ⟨rfl, ⟨?_, trivial⟩, trivial⟩ <;> first | rfl | ((show some (T.lit (Value.bool _)) = some (T.lit (Value.bool _)); refine congrArg (fun z => some (T.lit (Value.bool z))) ?_; first | (rw [hr]; rfl) | (simp; done) | (simp; omega) | (rw [decide_eq_true_iff]; omega)))
                          · skip   -- g25.F
                            (exfalso; first | (simp at hg25; done) | (simp at hg25; omega))
                        · skip   -- g24.F
                          (exfalso; first | (simp at hg24; done) | (simp at hg24; omega))
                      · skip   -- g23.F
                        (exfalso; first | (simp at hg23; done) | (simp at hg23; omega))
end Go.Proofs.Ytfionajnoaednaa
/- The program's isUpTo, by contract. -/
namespace Go.Proofs.Ytfionajnoaednaa
open Go.RowKit
theorem iup (n b : Int) (w : World) : Calls Try.prog 86 #[.int .i64 n, .int .i64 b] w fun e w' => e = .returned (.bool (decide (0 ≤ n ∧ n ≤ b))) ∧ w = w' := by
  go_enter Try.func86, Try.ntmps86
  go_wp2
  all_goals go_ret
  all_goals simp_all
  all_goals omega
end Go.Proofs.Ytfionajnoaednaa
/- The program's IsValidRow and RowCost, by contract. -/
namespace Go.Proofs.Ytfionajnoaednaa
open Go.RowKit
theorem ivalid (r : R) (w : World) : Calls Try.prog 82 #[r.val] w fun e w' => e = .returned (.bool r.ok) ∧ Below w.heap.size w w' := by
  obtain ⟨k, v, d⟩ := r
  unfold R.val
  go_enter Try.func82, Try.ntmps82
  go_wp2_with fail
  refine (iup _ _ _).mono ?_
  rintro e w1 ⟨rfl, rfl⟩
  go_wp2_with fail
  case isTrue =>
    refine (iup _ _ _).mono ?_
    rintro e w1 ⟨rfl, rfl⟩
    go_wp2_with fail
    case isTrue =>
      refine (iup _ _ _).mono ?_
      rintro e w1 ⟨rfl, rfl⟩
      go_wp2_with fail
      all_goals go_ret
      all_goals refine ⟨?_, (Below.refl _ _).alloc (Nat.le_refl _) _⟩
      all_goals simp_all [R.ok]
    all_goals go_ret
    all_goals refine ⟨?_, (Below.refl _ _).alloc (Nat.le_refl _) _⟩
    all_goals simp_all [R.ok]
    all_goals omega
  all_goals go_ret
  all_goals refine ⟨?_, (Below.refl _ _).alloc (Nat.le_refl _) _⟩
  all_goals simp_all [R.ok]
  all_goals omega
theorem icost (r : R) (hr : r.wf) (w : World) : Calls Try.prog 79 #[r.val] w fun e w' => e = .returned (.int .i64 r.cost) ∧ Below w.heap.size w w' := by
  have hw := hr.2.2
  have H := Lib.hid (ivalid r)
  cases hok : r.ok with
  | true =>
    have hc : r.cost = 1 + r.width := by unfold R.cost; rw [hok]; rfl
    have hk := R.ok_iff.1 hok
    rw [hc]
    unfold R.val
    go_enter Try.func79, Try.ntmps79
    go_wp2_with fail
    refine (H.out _).mono ?_
    rintro e w1 ⟨rfl, b1⟩
    obtain ⟨⟨c0, c1, c2⟩, b2⟩ := box_row (r := r) b1
    rw [hok]
    simp only [Nat.zero_add] at c2
    go_wp2_with fail
    go_ret
    exact ⟨rfl, b2⟩
  | false =>
    have hc : r.cost = 0 := by unfold R.cost; rw [hok]; rfl
    rw [hc]
    unfold R.val
    go_enter Try.func79, Try.ntmps79
    go_wp2_with fail
    refine (H.out _).mono ?_
    rintro e w1 ⟨rfl, b1⟩
    obtain ⟨⟨c0, c1, c2⟩, b2⟩ := box_row (r := r) b1
    rw [hok]
    go_wp2_with fail
    go_ret
    exact ⟨rfl, b2⟩
end Go.Proofs.Ytfionajnoaednaa
/- The program's AreValidRows and TotalCost, by contract. -/
namespace Go.Proofs.Ytfionajnoaednaa
open Go.RowKit
set_option maxRecDepth 100000 in
theorem iare (a : Option Addr) (len cap : Nat) (L : List R) (w : World) (h : IsRows w a len L) (hlen : len ≤ 9223372036854775807) :
    Calls Try.prog 68 #[.slice a len cap] w fun e w' => e = .returned (.bool (okRows L)) ∧ Below w.heap.size w w' := by
  obtain ⟨hl, hwf, hc⟩ := h
  have HL := Lib.hid hl
  have HC := Lib.hid hc
  clear hl hwf hc
  by_cases h24 : (24 : Int) < len
  · have hno : okRows L = false := by unfold okRows; rw [HL.out, decide_eq_false (by omega), Bool.false_and]
    have HN := Lib.hid hno
    clear hno
    go_enter Try.func68, Try.ntmps68
    go_wp2_with fail
    go_ret
    exact ⟨by rw [HN.out]; rfl, Below.refl _ _⟩
  go_enter Try.func68, Try.ntmps68
  go_wp2_with fail
  go_loopw [10] (fun i wr => ∃ k : Nat, i = .int .i64 k ∧ k ≤ len ∧ Hid (allOk (L.take k) = true) ∧ Hid (Below w.heap.size w wr)) (fun i _ => len - (intOf i).toNat)
  case atStart => exact ⟨0, rfl, Nat.zero_le _, rfl, Below.refl _ _⟩
  case round =>
    obtain ⟨k, rfl, hk, hok, hb⟩ := hrel
    by_cases hlt : k < len
    · obtain ⟨b, o, rfl, hbl, hc⟩ : ∃ b o : Nat, a = some ⟨b, o, none⟩ ∧ b < w.heap.size ∧ ∀ t, t < len → RowAt w b (o + t * 3) (L.getD t R.zero) := by
        rcases HC.out with h0 | h0
        · omega
        · exact h0
      obtain ⟨r, hr⟩ : ∃ r, r = L.getD k R.zero := ⟨_, rfl⟩
      have hat : RowAt wr b (o + k * 3) r := by rw [hr]; exact (hc k hlt).below hb.out hbl
      obtain ⟨c0, c1, c2⟩ := hat
      have HR := Lib.hid hr
      clear hr hc
      go_wp2_with fail
      refine (ivalid r _).mono ?_
      rintro e w1 ⟨rfl, b1⟩
      have B1 := Lib.hid (hb.out.trans ((box_row (r := r) b1).2.mono hb.out.size))
      clear b1
      cases hv : r.ok with
      | true =>
        go_wp2_with fail
        go_roundw
        case rel => exact ⟨k + 1, by go_num, by omega, by show _ = _; rw [allOk_take L k (by rw [HL.out]; exact hlt), hok.out, ← HR.out, hv]; rfl, B1⟩
        case measure => simp [intOf]; omega
      | false =>
        have hno : okRows L = false := by unfold okRows; rw [allOk_bad L k (by rw [HL.out]; exact hlt) (by rw [← HR.out]; exact hv), Bool.and_false]
        go_wp2_with fail
        go_ret
        exact ⟨by rw [hno]; rfl, B1.out⟩
    · have hkl : k = len := by omega
      have hall : okRows L = true := by
        have : allOk L = true := by have := hok.out; rwa [hkl, ← HL.out, List.take_length] at this
        unfold okRows; rw [this, Bool.and_true, HL.out, decide_eq_true_eq]; omega
      clear hkl
      have HA := Lib.hid hall
      clear hall
      go_wp2_with fail
      go_ret
      exact ⟨by rw [HA.out]; rfl, hb.out⟩
set_option maxRecDepth 100000 in
theorem itotal (a : Option Addr) (len cap : Nat) (L : List R) (w : World) (h : IsRows w a len L) (hlen : len ≤ 1000000000000) :
    Calls Try.prog 62 #[.slice a len cap] w fun e w' => e = .returned (.int .i64 (total L)) ∧ Below w.heap.size w w' := by
  have HW := Lib.hid h.wf
  obtain ⟨hl, -, hc⟩ := h
  have HL := Lib.hid hl
  have HC := Lib.hid hc
  clear hl hc
  go_enter Try.func62, Try.ntmps62
  go_wp2_with fail
  go_loopw [3, 8] (fun n i wr => ∃ (k : Nat) (v : Int), n = .int .i64 v ∧ i = .int .i64 k ∧ k ≤ len ∧ 0 ≤ v ∧ v ≤ 4 * k ∧ Hid (total (L.take k) = v) ∧ Hid (Below w.heap.size w wr)) (fun _ i _ => len - (intOf i).toNat)
  case atStart => exact ⟨0, 0, rfl, rfl, Nat.zero_le _, by omega, by omega, rfl, Below.refl _ _⟩
  case round =>
    obtain ⟨k, v, rfl, rfl, hk, hv0, hv1, hsum, hb⟩ := hrel
    by_cases hlt : k < len
    · obtain ⟨b, o, rfl, hbl, hc⟩ : ∃ b o : Nat, a = some ⟨b, o, none⟩ ∧ b < w.heap.size ∧ ∀ t, t < len → RowAt w b (o + t * 3) (L.getD t R.zero) := by
        rcases HC.out with h0 | h0
        · omega
        · exact h0
      obtain ⟨r, hr⟩ : ∃ r, r = L.getD k R.zero := ⟨_, rfl⟩
      have hat : RowAt wr b (o + k * 3) r := by rw [hr]; exact (hc k hlt).below hb.out hbl
      have hrw : r.wf := by rw [hr]; exact HW.out k hlt
      obtain ⟨c0, c1, c2⟩ := hat
      have HR := Lib.hid hr
      have HRW := Lib.hid hrw
      clear hr hc hrw
      go_wp2_with fail
      refine (icost r HRW.out _).mono ?_
      rintro e w1 ⟨rfl, b1⟩
      have B1 := Lib.hid (hb.out.trans ((box_row (r := r) b1).2.mono hb.out.size))
      clear b1
      obtain ⟨x, hx⟩ : ∃ x, x = r.cost := ⟨_, rfl⟩
      have hx0 : 0 ≤ x ∧ x ≤ 4 := by rw [hx]; exact r.cost_range
      obtain ⟨hx0, hx4⟩ := hx0
      have HX := Lib.hid hx
      rw [← hx]
      clear hx
      go_wp2_with fail
      go_roundw
      case rel => exact ⟨k + 1, v + x, by go_num, by go_num, by omega, by omega, by omega, by show _ = _; rw [total_take L k (by rw [HL.out]; exact hlt), hsum.out, ← HR.out, HX.out], B1⟩
      case measure => simp [intOf]; omega
    · have hkl : k = len := by omega
      have hall : total L = v := by have := hsum.out; rwa [hkl, ← HL.out, List.take_length] at this
      clear hkl
      have HA := Lib.hid hall
      clear hall
      go_wp2_with fail
      go_ret
      exact ⟨by rw [HA.out]; rfl, hb.out⟩
end Go.Proofs.Ytfionajnoaednaa
/- CompareRows: told by trees. -/
namespace Go.Proofs.Ytfionajnoaednaa
open Go Go.RowKit V
set_option linter.unusedVariables false
theorem vcmp_i (a b : R) : VC Try.prog 45 [(true, tRow a), (true, tRow b)] false [(false, [.lit (.int .i64 (R.cmp a b))])] :=
  VC.plain (ins := [(true, [.int .i64 a.key, .int .i64 a.value, .int .i64 a.width]), (true, [.int .i64 b.key, .int .i64 b.value, .int .i64 b.width])]) (ag := false) (rs := [.int .i64 (R.cmp a b)]) (fun u hu => by rw [List.mem_singleton.1 hu]; rfl) fun w => icmp a b w
end Go.Proofs.Ytfionajnoaednaa
/- Functions of rows, the program's: told by trees: told by trees. -/
namespace Go.Proofs.Ytfionajnoaednaa
open Go Go.RowKit V
set_option linter.unusedVariables false
theorem vares_i (L : List R) (hL : ∀ r ∈ L, r.wf) (hl : L.length ≤ 1000000000) : VC Try.prog 68 [(false, [.seq 59 (L.map tRow)])] false [(false, [.lit (.bool (okRows L))])] := VC.rowsP (ag := false) (rs := [.bool (okRows L)]) rfl hL fun w a c h => iare a _ c L w h (by omega)
theorem vtotal_i (L : List R) (hL : ∀ r ∈ L, r.wf) (hl : L.length ≤ 1000000000) : VC Try.prog 62 [(false, [.seq 59 (L.map tRow)])] false [(false, [.lit (.int .i64 (total L))])] := VC.rowsP (ag := false) (rs := [.int .i64 (total L)]) rfl hL fun w a c h => itotal a _ c L w h (by omega)
theorem vasc_i (L : List R) (hL : ∀ r ∈ L, r.wf) (hl : L.length ≤ 1000000000) : VC Try.prog 22 [(false, [.seq 59 (L.map tRow)])] false [(false, [.lit (.bool (R.asc L))])] := VC.rowsP (ag := false) (rs := [.bool (R.asc L)]) rfl hL fun w a c h => iasc a _ c L w h (by omega)
theorem vcost_i (a : R) (ha : a.wf) : VC Try.prog 79 [(true, tRow a)] false [(false, [.lit (.int .i64 a.cost)])] :=
  VC.plain (ins := [(true, [.int .i64 a.key, .int .i64 a.value, .int .i64 a.width])]) (ag := false) (rs := [.int .i64 a.cost]) (oneM rfl) fun w => icost a ha w
set_option maxRecDepth 100000 in
set_option maxHeartbeats 2000000 in
theorem vismem_i (m : Int) : VC Try.prog 74 [(false, [.lit (.int .i64 (m))])] false [(false, [.lit (.bool (Runs.isMem m))])] := by
  refine VC.enter Try.func74 rfl Try.ntmps74 (gle rfl) fun E hE => ?_
  refine SV.seq' ?_
  refine SV.region ?_
  refine SV.op (OpL.ok (nb := 0) (ok_move (v := V.one (.sc _)) (.inr rfl) rfl) rfl (gle rfl)) rfl ?_
  refine SV.nil ?_
  refine SV.tn ?_
  refine SV.seq' ?_
  refine SV.region ?_
  refine SV.op (OpL.ok (nb := 0) (ok_move (v := V.one (.sc _)) (.inl rfl) rfl) rfl (gle rfl)) rfl ?_
  refine SV.op (OpL.ok (nb := 0) (ok_s2 (x := .tmp 3) (x' := .const ((Value.int IntKind.i64 8))) (VScal.one rfl) (VScal.one rfl) (fun ρ h1 h2 w => by go_simp; (try go_bits); with_reducible rfl) rfl) rfl (gle rfl)) rfl ?_
  refine SV.op (OpL.ok (nb := 0) (ok_move (v := V.one (.sc _)) (.inl rfl) rfl) rfl (gle rfl)) rfl ?_
  refine SV.split (d := 5) rfl (fun hg0 => ?_) (fun hg0 => ?_)
  · skip   -- g0.T
    refine SV.opY (OpL.ok (nb := 0) (ok_move (v := V.one (.sc _)) (.inl rfl) rfl) rfl (gle rfl)) rfl rfl rfl (gle rfl) rfl rfl ?_
    refine SV.opY (OpL.ok (nb := 0) (ok_s2 (x := .tmp 6) (x' := .const ((Value.int IntKind.i64 60))) (VScal.one rfl) (VScal.one rfl) (fun ρ h1 h2 w => by go_simp; (try go_bits); with_reducible rfl) rfl) rfl (gle rfl)) rfl rfl rfl (gle rfl) rfl rfl ?_
    refine SV.op (OpL.ok (nb := 0) (ok_pickT (v := V.one (.sc _)) rfl rfl rfl) rfl (gle rfl)) rfl ?_
    refine SV.op (OpL.ok (nb := 0) (ok_move (v := V.one (.sc _)) (.inr rfl) rfl) rfl (gle rfl)) rfl ?_
    refine SV.nil ?_
    refine SV.tn ?_
    refine SV.ret ?_
    apply SV.done (hf := Try.results74) (ht := rfl) (he := .inl rfl)
    case hr => exact (ResAll.cons (ResOk.tmp (ag := false) (xs := [.sc _]) rfl) ResAll.nil')
    case h2 => simp [two]
    refine ⟨rfl, ⟨?_, trivial⟩, trivial⟩ <;> (show some (T.lit (Value.bool _)) = some (T.lit (Value.bool _)); refine congrArg (fun z => some (T.lit (Value.bool z))) ?_; (unfold Runs.isMem; simp at hg0; simp; omega))
  · skip   -- g0.F
    refine SV.opN rfl rfl rfl (gle rfl) rfl rfl rfl (gle rfl) ?_
    refine SV.opN rfl rfl rfl (gle rfl) rfl rfl rfl (gle rfl) ?_
    refine SV.op (OpL.ok (nb := 0) (ok_pickF (v := V.one (.sc _)) rfl rfl rfl) rfl (gle rfl)) rfl ?_
    refine SV.op (OpL.ok (nb := 0) (ok_move (v := V.one (.sc _)) (.inr rfl) rfl) rfl (gle rfl)) rfl ?_
    refine SV.nil ?_
    refine SV.tn ?_
    refine SV.ret ?_
    apply SV.done (hf := Try.results74) (ht := rfl) (he := .inl rfl)
    case hr => exact (ResAll.cons (ResOk.tmp (ag := false) (xs := [.sc _]) rfl) ResAll.nil')
    case h2 => simp [two]
    refine ⟨rfl, ⟨?_, trivial⟩, trivial⟩ <;> (show some (T.lit (Value.bool _)) = some (T.lit (Value.bool _)); refine congrArg (fun z => some (T.lit (Value.bool z))) ?_; (unfold Runs.isMem; simp at hg0; simp; omega))
end Go.Proofs.Ytfionajnoaednaa
/- 'make([]T, 0, n)': told by trees. -/
namespace Go.Proofs.Ytfionajnoaednaa.V
open Go Go.RowKit
variable {E : Env} {N : Nat} {σ : VS} {o : Oper}
theorem ok_make0 {d : Nat} {t ty : TypeId} {n bytes : Nat} {z : Value} {x y : Operand} {c0 : Nat} {kl kc : IntKind} (I : ElT t ty n z bytes) {kk : Nat} (hk : σ.nx = kk) (ho : o.op = .makeSlice t x y) (hx : σ.ev x = V.one (.sc (.int kl 0))) (hy : σ.ev y = V.one (.sc (.int kc (c0 : Nat)))) (hl : c0 ≤ 350000000000)
    (hd : o.dst = some d) (hdN : d < N) : OpMk Try.prog E N none σ o ((σ.new (.seq ty [])).put d (V.one (.hd kk))) :=
  fun a w G K Q h k => by
    subst hk
    obtain ⟨i0, hi, hz0, hz1, hz2⟩ := info_parts I.inf
    have hby : i0.bytes * c0 ≤ 281474976710656 := by
      have h1 : i0.bytes * c0 ≤ 400 * 350000000000 := Nat.mul_le_mul (by rw [hz2]; exact I.small) hl
      omega
    have hrun := run_make (P := Try.prog) w t ty i0 z I.und hi hz0 kl kc 0 c0 (Int.le_refl _) (by omega) (by
      have h1 : ((i0.bytes * c0 : Nat) : Int) ≤ 281474976710656 := by omega
      rwa [Int.natCast_mul] at h1) (by omega)
    simp only [Int.toNat_natCast, Int.toNat_zero, hz1] at hrun
    have hown := World.ownsRow_made (base := 0) (w := w) (e := ty) (size := n) (madeCells z.cells (c0 * n)) c0 (Nat.zero_le _) (by unfold maxLen; omega) (size_madeCells _ _)
    obtain ⟨G', hG', ⟨hvl, hvls, hβs⟩, -, -⟩ := h.renew [] (fun x hx => by cases hx) (w' := w.alloc (.cells (madeCells z.cells (c0 * n)) ty)) (t := .seq ty []) (v := .slice (some ⟨w.heap.size, 0, none⟩) 0 c0) (F := fun b => b = w.heap.size) (fun _ => False) (.of_below ((Below.refl _ _).alloc h.low _)) (fun k hk _ => Below.heap_alloc _ _ _ hk) (fun b hb => hb.elim)
      (.seq n I.pos I.sz (fun e he => by cases he) [] hown (fun _ _ => False) (fun k e j t u he hj hu => by simp at he)
        (fun u hu => by cases hu) (fun b hb => by cases hb; rfl) (fun q b hb => hb.elim) (fun q b hb => hb.elim) fun q q' b hb => hb.elim)
      ⟨_, _, rfl⟩ fun b hb => ⟨by subst hb; exact ⟨.inl h.low, by simp⟩, .inl (h.fresh (by rw [hb]; exact Nat.le_refl _))⟩
    refine wp_value (v := .slice (some ⟨w.heap.size, 0, none⟩) 0 c0) (w' := w.alloc (.cells (madeCells z.cells (c0 * n)) ty)) ?_ (by rw [hd]; exact k _ _ _ (hG'.put hdN (vone.2 ⟨⟨Nat.lt_succ_self _, hvl.symm⟩, .inr rfl⟩)) ⟨by simp, .of_below ((Below.refl _ _).alloc h.low _), hvls, fun b _ => by rw [hβs], fun b hb => .inl (Below.heap_alloc _ _ _ hb), fun i e1 e2 b e3 => .inl (by
      have hi : i = σ.nx := Nat.le_antisymm (Nat.le_of_lt_succ e2) e1
      rw [hi, hvl] at e3
      rw [← Option.some.inj e3]; exact Nat.le_refl _)⟩)
    have hxv := h.sc hx
    have hyv := h.sc hy
    simp [execOp, ho, hxv, hyv, hrun, Result.andThen]
end Go.Proofs.Ytfionajnoaednaa.V
/- The program's MergeSorted: told by trees. -/
namespace Go.Proofs.Ytfionajnoaednaa
open Go Go.RowKit V
set_option linter.unusedVariables false
set_option maxRecDepth 100000 in
set_option maxHeartbeats 2000000 in
theorem vms_i (a b : List R) (hA : ∀ r ∈ a, r.wf) (hB : ∀ r ∈ b, r.wf) (hL : a.length + b.length ≤ 1000000000) : VC Try.prog 11 [(false, [.seq 59 ((a).map tRow)]), (false, [.seq 59 ((b).map tRow)])] false [(false, [.seq 59 ((Runs.merge2 a b).map tRow)])] := by
  refine VC.enter Try.func11 rfl Try.ntmps11 (gle rfl) fun E hE => ?_
  refine SV.seq' ?_
  refine SV.region ?_
  refine SV.op (OpL.ok (nb := 0) (ok_move (v := V.one (.sc _)) (.inr rfl) rfl) rfl (gle rfl)) rfl ?_
  refine SV.nil ?_
  refine SV.tn ?_
  refine SV.seq' ?_
  refine SV.region ?_
  refine SV.op (OpL.ok (nb := 0) (ok_move (v := V.one (.ro _)) (.inl rfl) rfl) rfl (gle rfl)) rfl ?_
  refine SV.op (OpL.ok (nb := 0) (ok_len (lf := .ro _) rfl elt_impl_Row.und rfl rfl) rfl (gle rfl)) rfl ?_
  refine SV.op (OpL.ok (nb := 0) (ok_move (v := V.one (.ro _)) (.inl rfl) rfl) rfl (gle rfl)) rfl ?_
  refine SV.op (OpL.ok (nb := 0) (ok_len (lf := .ro _) rfl elt_impl_Row.und rfl rfl) rfl (gle rfl)) rfl ?_
  refine SV.op (OpL.ok (nb := 0) (ok_s2 (v := .int .i64 ((a.length + b.length : Nat) : Int)) (x := .tmp 7) (x' := .tmp 9) (VScal.one rfl) (VScal.one rfl) (fun ρ h1 h2 w => by go_simp; rw [IntWalk.i64_left, IntWalk.wrap64_in _ ⟨by omega, by omega⟩]) rfl) rfl (gle rfl)) rfl ?_
  refine SV.op (OpMk.ok (ok_make0 (kk := 0) elt_impl_Row rfl rfl rfl rfl (by first | omega | (simp only [List.length_map]; omega) | (simp; done) | (simp; omega)) rfl (gle rfl))) rfl ?_
  refine SV.op (OpL.ok (nb := 0) (ok_move (v := V.one (.hd 0)) (.inr rfl) rfl) rfl (gle rfl)) rfl ?_
  refine SV.nil ?_
  refine SV.tn ?_
  refine SV.seq' ?_
  refine SV.block ?_
  refine SV.loopF (X := Nat × Nat × List R) (fun (σ : VS) z => (((((VS.nil.new (.seq 59 (z.2.2.map tRow))).put 0 (V.flat false [.ro (.seq 59 ((a.drop z.1).map tRow))])).put 1 (V.flat false [.ro (.seq 59 ((b.drop z.2.1).map tRow))])).put 4 (σ.tm 4)).put 5 (V.flat false [.hd 0]))) (fun z => z.1 ≤ a.length ∧ z.2.1 ≤ b.length ∧ z.2.2 ++ Runs.merge2 (a.drop z.1) (b.drop z.2.1) = Runs.merge2 a b) (fun z => (a.length - z.1) + (b.length - z.2.1)) ?_ ?_
  · skip
    refine SV.again (fun i => [0].getD i 0) (0, 0, []) (⟨Nat.zero_le _, Nat.zero_le _, rfl⟩) (pins hE rfl rfl) (VS.le.mk' (le_put (le_put (le_put (le_put (le_new le_nil) (V.le.keep (ag := false) (xs := [.ro _]) (ys := [.ro _]) rfl rfl ⟨(by first | rfl | (show Leaf.ro _ = Leaf.ro _; refine congrArg Leaf.ro (congrArg (T.seq _) ?_); (rw [hz]; first | done | rfl | (simp [List.map_drop, List.drop_drop, Nat.add_comm]; done) | (simp [List.map_drop, List.map_take, List.drop_drop, Nat.add_comm]; rw [List.take_of_length_le (by simp), List.tail_drop])))), trivial⟩)) (V.le.keep (ag := false) (xs := [.ro _]) (ys := [.ro _]) rfl rfl ⟨(by first | rfl | (show Leaf.ro _ = Leaf.ro _; refine congrArg Leaf.ro (congrArg (T.seq _) ?_); (rw [hz]; first | done | rfl | (simp [List.map_drop, List.drop_drop, Nat.add_comm]; done) | (simp [List.map_drop, List.map_take, List.drop_drop, Nat.add_comm]; rw [List.take_of_length_le (by simp), List.tail_drop])))), trivial⟩)) (V.le.keep (ag := false) (xs := [.sc _]) (ys := [.sc _]) rfl rfl ⟨rfl, trivial⟩)) (V.le.keep (ag := false) (xs := [.hd 0]) (ys := [.hd 0]) rfl rfl ⟨⟨rfl, (gle rfl), (gle rfl)⟩, trivial⟩)) trivial ⟨.inr ⟨_, _, rfl, ?ob1_0, (gle rfl)⟩, trivial⟩ (new_ob nil_ob) (fun i j hi hj e => inj_list (l := [0]) (by decide) i j hi hj e))
    case ob1_0 =>
      show some (T.seq _ _) = some (T.seq _ _)
      rfl
  · rintro ⟨i, k, o⟩ ⟨hi, hk, ho⟩
    dsimp only at hi hk ho
    have hol : o.length + (a.length - i + (b.length - k)) = a.length + b.length := by have h := congrArg List.length ho; rw [List.length_append, Runs.merge2_length, Runs.merge2_length, List.length_drop, List.length_drop] at h; exact h
    refine SV.seq' ?_
    refine SV.seq' ?_
    refine SV.region ?_
    refine SV.op (OpL.ok (nb := 0) (ok_move (v := V.one (.ro _)) (.inl rfl) rfl) rfl (gle rfl)) rfl ?_
    refine SV.op (OpL.ok (nb := 0) (ok_len (lf := .ro _) rfl elt_impl_Row.und rfl rfl) rfl (gle rfl)) rfl ?_
    refine SV.op (OpL.ok (nb := 0) (ok_s2 (x := .tmp 13) (x' := .const ((Value.int IntKind.i64 0))) (VScal.one rfl) (VScal.one rfl) (fun ρ h1 h2 w => by go_simp; (try go_bits); with_reducible rfl) rfl) rfl (gle rfl)) rfl ?_
    refine SV.op (OpL.ok (nb := 0) (ok_move (v := V.one (.sc _)) (.inl rfl) rfl) rfl (gle rfl)) rfl ?_
    refine SV.split (d := 15) rfl (fun hg0 => ?_) (fun hg0 => ?_)
    · skip   -- g0.T
      have hil : i < a.length := by simp at hg0; omega
      obtain ⟨x, hx⟩ : ∃ x, a[i]? = some x := ⟨_, List.getElem?_eq_getElem hil⟩
      have hx0 : (a.drop i)[0]? = some x := by rw [List.getElem?_drop, Nat.add_zero]; exact hx
      refine SV.opY (OpL.ok (nb := 0) (ok_move (v := V.one (.ro _)) (.inl rfl) rfl) rfl (gle rfl)) rfl rfl rfl (gle rfl) rfl rfl ?_
      refine SV.opY (OpL.ok (nb := 0) (ok_len (lf := .ro _) rfl elt_impl_Row.und rfl rfl) rfl (gle rfl)) rfl rfl rfl (gle rfl) rfl rfl ?_
      refine SV.opY (OpL.ok (nb := 0) (ok_s2 (x := .tmp 17) (x' := .const ((Value.int IntKind.i64 0))) (VScal.one rfl) (VScal.one rfl) (fun ρ h1 h2 w => by go_simp; (try go_bits); with_reducible rfl) rfl) rfl (gle rfl)) rfl rfl rfl (gle rfl) rfl rfl ?_
      refine SV.op (OpL.ok (nb := 0) (ok_pickT (v := V.one (.sc _)) rfl rfl rfl) rfl (gle rfl)) rfl ?_
      refine SV.nil ?_
      refine SV.tn ?_
      refine SV.cond rfl (fun hc0 => ?_) (fun hc0 => ?_)
      · skip   -- c0.T
        have hkl : k < b.length := by simp at hc0; omega
        obtain ⟨y, hy⟩ : ∃ y, b[k]? = some y := ⟨_, List.getElem?_eq_getElem hkl⟩
        have hy0 : (b.drop k)[0]? = some y := by rw [List.getElem?_drop, Nat.add_zero]; exact hy
        refine SV.skip ?_
        refine SV.tn ?_
        refine SV.block ?_
        refine SV.seq' ?_
        refine SV.draw [.q 0, .q 1, .q 2, .q 3, .q 4, .q 5, .m 6, .q 7] [] (by kernel_rfl) (by kernel_rfl) ?_
        refine DW.q rfl (ok_move (v := V.one (.ro _)) (.inl rfl) rfl) rfl rfl (gle rfl) (fun _ _ _ _ h => h) ?_
        refine DW.q rfl (ok_index (n := 3) (lf := .ro _) rfl elt_impl_Row.und sz_impl_Row rfl rfl rfl (map_at hx0)) rfl rfl (gle rfl) (fun _ _ _ _ h => h) ?_
        refine DW.q rfl (ok_load_rp (ag := true) (m := 3) (ys := [.sc _, .sc _, .sc _]) rfl rfl agg_impl_Row sz_impl_Row (fun h => by cases h) (gle rfl) rfl) rfl rfl (gle rfl) (fun _ _ _ _ h => h) ?_
        refine DW.q rfl (ok_move (v := V.one (.ro _)) (.inl rfl) rfl) rfl rfl (gle rfl) (fun _ _ _ _ h => h) ?_
        refine DW.q rfl (ok_index (n := 3) (lf := .ro _) rfl elt_impl_Row.und sz_impl_Row rfl rfl rfl (map_at hy0)) rfl rfl (gle rfl) (fun _ _ _ _ h => h) ?_
        refine DW.q rfl (ok_load_rp (ag := true) (m := 3) (ys := [.sc _, .sc _, .sc _]) rfl rfl agg_impl_Row sz_impl_Row (fun h => by cases h) (gle rfl) rfl) rfl rfl (gle rfl) (fun _ _ _ _ h => h) ?_
        refine DW.m [] rfl (ok_call (ls := [(false, [.sc _])]) rfl rfl ⟨_, _, Try.func45, rfl, by decide⟩ (vcmp_i x y) ⟨⟨[.sc _, .sc _, .sc _], rfl, ⟨rfl, rfl, rfl, trivial⟩⟩, ⟨[.sc _, .sc _, .sc _], rfl, ⟨rfl, rfl, rfl, trivial⟩⟩, trivial⟩ rfl (gle rfl)) rfl (gle rfl) (gle rfl) (.inl rfl) (fun j hj => by cases hj) ?_
        refine DW.q rfl (ok_s2 (x := .tmp 26) (x' := .const ((Value.int IntKind.i64 0))) (VScal.one rfl) (VScal.one rfl) (fun ρ h1 h2 w => by go_simp; (try go_bits); with_reducible rfl) rfl) rfl rfl (gle rfl) (fun _ _ _ _ h => h) ?_
        refine DW.stores ?_
        refine SV.zend ?_
        refine SV.tn ?_
        refine SV.cond rfl (fun hc1 => ?_) (fun hc1 => ?_)
        · skip   -- c1.T
          have hcl : R.cmp x y ≤ 0 := by simpa using hc1
          obtain ⟨z', hz⟩ : ∃ z' : Nat × Nat × List R, z' = (i + 1, k, o ++ [x]) := ⟨_, rfl⟩
          have hz2 : (z'.1 ≤ a.length ∧ z'.2.1 ≤ b.length ∧ z'.2.2 ++ Runs.merge2 (a.drop z'.1) (b.drop z'.2.1) = Runs.merge2 a b) ∧ (a.length - z'.1) + (b.length - z'.2.1) < (a.length - i) + (b.length - k) := by
            rw [hz]
            refine ⟨⟨by show i + 1 ≤ a.length; omega, by show k ≤ b.length; omega, ?_⟩, by show (a.length - (i + 1)) + (b.length - k) < _; omega⟩
            show (o ++ [x]) ++ _ = _
            rw [List.append_assoc, ← ho, Runs.m_left hx hy hcl]
            rfl
          refine SV.seq' ?_
          refine SV.region ?_
          refine SV.op (OpL.ok (nb := 0) (ok_move (v := V.one (.hd 0)) (.inl rfl) rfl) rfl (gle rfl)) rfl ?_
          refine SV.op (OpL.ok (nb := 0) (ok_move (v := V.one (.ro _)) (.inl rfl) rfl) rfl (gle rfl)) rfl ?_
          refine SV.op (OpL.ok (nb := 0) (ok_index (n := 3) (lf := .ro _) rfl elt_impl_Row.und sz_impl_Row rfl rfl rfl (map_at hx0)) rfl (gle rfl)) rfl ?_
          refine SV.op (OpL.ok (nb := 0) (ok_load_rp (ag := true) (m := 3) (ys := [.sc _, .sc _, .sc _]) rfl rfl agg_impl_Row sz_impl_Row (fun h => by cases h) (gle rfl) rfl) rfl (gle rfl)) rfl ?_
          refine SV.op (OpMk.ok (ok_lit1 (kk := 1) elt_impl_Row (ag := true) (xs := [.sc _, .sc _, .sc _]) rfl rfl rfl rfl (fun h => by cases h) (outs_c rfl (outs_c rfl (outs_c rfl outs_n))) (by simp [two]) rfl (gle rfl))) rfl ?_
          refine SV.op (OpMk.ok (ok_append (kk := 2) elt_impl_Row (ls := .hd 0) (lx := .hd 1) rfl rfl rfl rfl rfl rfl (by intro i h1 h2; first | (cases h1; done) | (cases h1; cases h2)) (by first | omega | (simp only [List.length_map]; omega) | (simp; done) | (simp; omega)) rfl (gle rfl))) rfl ?_
          refine SV.op (OpL.ok (nb := 0) (ok_move (v := V.one (.hd 2)) (.inr rfl) rfl) rfl (gle rfl)) rfl ?_
          refine SV.nil ?_
          refine SV.tn ?_
          refine SV.region ?_
          refine SV.op (OpL.ok (nb := 0) (ok_move (v := V.one (.ro _)) (.inl rfl) rfl) rfl (gle rfl)) rfl ?_
          refine SV.op (OpL.ok (nb := 0) (ok_slice (l := 1) (h := ((a.drop i).map tRow).length) (lf := .ro _) (yy := .ro _) rfl rfl elt_impl_Row.und sz_impl_Row rfl rfl ⟨_, rfl⟩ rfl (by simp; omega) (Nat.le_refl _)) rfl (gle rfl)) rfl ?_
          refine SV.op (OpL.ok (nb := 0) (ok_move (v := V.one (.ro _)) (.inr rfl) rfl) rfl (gle rfl)) rfl ?_
          refine SV.nil ?_
          refine SV.bn ?_
          refine SV.tn ?_
          refine SV.again (fun i => [2].getD i 0) (z') (hz2) (pins hE rfl rfl) (VS.le.mk' (le_put (le_put (le_put (le_put (le_new le_nil) (V.le.keep (ag := false) (xs := [.ro _]) (ys := [.ro _]) rfl rfl ⟨(by first | rfl | (show Leaf.ro _ = Leaf.ro _; refine congrArg Leaf.ro (congrArg (T.seq _) ?_); (rw [hz]; first | done | rfl | (simp [List.map_drop, List.drop_drop, Nat.add_comm]; done) | (simp [List.map_drop, List.map_take, List.drop_drop, Nat.add_comm]; rw [List.take_of_length_le (by simp), List.tail_drop])))), trivial⟩)) (V.le.keep (ag := false) (xs := [.ro _]) (ys := [.ro _]) rfl rfl ⟨(by first | rfl | (show Leaf.ro _ = Leaf.ro _; refine congrArg Leaf.ro (congrArg (T.seq _) ?_); (rw [hz]; first | done | rfl | (simp [List.map_drop, List.drop_drop, Nat.add_comm]; done) | (simp [List.map_drop, List.map_take, List.drop_drop, Nat.add_comm]; rw [List.take_of_length_le (by simp), List.tail_drop])))), trivial⟩)) (V.le.keep (ag := false) (xs := [.sc _]) (ys := [.sc _]) rfl rfl ⟨rfl, trivial⟩)) (V.le.keep (ag := false) (xs := [.hd 2]) (ys := [.hd 0]) rfl rfl ⟨⟨rfl, (gle rfl), (gle rfl)⟩, trivial⟩)) trivial ⟨.inr ⟨_, _, rfl, ?ob2_0, (gle rfl)⟩, trivial⟩ (new_ob nil_ob) (fun i j hi hj e => inj_list (l := [2]) (by decide) i j hi hj e))
          case ob2_0 =>
            show some (T.seq _ _) = some (T.seq _ _)
            rw [hz]; first | done | rfl | (simp only [List.map_append]; rfl) | (simp [tRow]; done)
        · skip   -- c1.F
          have hcl : ¬ R.cmp x y ≤ 0 := by simpa using hc1
          obtain ⟨z', hz⟩ : ∃ z' : Nat × Nat × List R, z' = (i, k + 1, o ++ [y]) := ⟨_, rfl⟩
          have hz2 : (z'.1 ≤ a.length ∧ z'.2.1 ≤ b.length ∧ z'.2.2 ++ Runs.merge2 (a.drop z'.1) (b.drop z'.2.1) = Runs.merge2 a b) ∧ (a.length - z'.1) + (b.length - z'.2.1) < (a.length - i) + (b.length - k) := by
            rw [hz]
            refine ⟨⟨by show i ≤ a.length; omega, by show k + 1 ≤ b.length; omega, ?_⟩, by show (a.length - i) + (b.length - (k + 1)) < _; omega⟩
            show (o ++ [y]) ++ _ = _
            rw [List.append_assoc, ← ho, Runs.m_right hx hy hcl]
            rfl
          refine SV.seq' ?_
          refine SV.region ?_
          refine SV.op (OpL.ok (nb := 0) (ok_move (v := V.one (.hd 0)) (.inl rfl) rfl) rfl (gle rfl)) rfl ?_
          refine SV.op (OpL.ok (nb := 0) (ok_move (v := V.one (.ro _)) (.inl rfl) rfl) rfl (gle rfl)) rfl ?_
          refine SV.op (OpL.ok (nb := 0) (ok_index (n := 3) (lf := .ro _) rfl elt_impl_Row.und sz_impl_Row rfl rfl rfl (map_at hy0)) rfl (gle rfl)) rfl ?_
          refine SV.op (OpL.ok (nb := 0) (ok_load_rp (ag := true) (m := 3) (ys := [.sc _, .sc _, .sc _]) rfl rfl agg_impl_Row sz_impl_Row (fun h => by cases h) (gle rfl) rfl) rfl (gle rfl)) rfl ?_
          refine SV.op (OpMk.ok (ok_lit1 (kk := 1) elt_impl_Row (ag := true) (xs := [.sc _, .sc _, .sc _]) rfl rfl rfl rfl (fun h => by cases h) (outs_c rfl (outs_c rfl (outs_c rfl outs_n))) (by simp [two]) rfl (gle rfl))) rfl ?_
          refine SV.op (OpMk.ok (ok_append (kk := 2) elt_impl_Row (ls := .hd 0) (lx := .hd 1) rfl rfl rfl rfl rfl rfl (by intro i h1 h2; first | (cases h1; done) | (cases h1; cases h2)) (by first | omega | (simp only [List.length_map]; omega) | (simp; done) | (simp; omega)) rfl (gle rfl))) rfl ?_
          refine SV.op (OpL.ok (nb := 0) (ok_move (v := V.one (.hd 2)) (.inr rfl) rfl) rfl (gle rfl)) rfl ?_
          refine SV.nil ?_
          refine SV.tn ?_
          refine SV.region ?_
          refine SV.op (OpL.ok (nb := 0) (ok_move (v := V.one (.ro _)) (.inl rfl) rfl) rfl (gle rfl)) rfl ?_
          refine SV.op (OpL.ok (nb := 0) (ok_slice (l := 1) (h := ((b.drop k).map tRow).length) (lf := .ro _) (yy := .ro _) rfl rfl elt_impl_Row.und sz_impl_Row rfl rfl ⟨_, rfl⟩ rfl (by simp; omega) (Nat.le_refl _)) rfl (gle rfl)) rfl ?_
          refine SV.op (OpL.ok (nb := 0) (ok_move (v := V.one (.ro _)) (.inr rfl) rfl) rfl (gle rfl)) rfl ?_
          refine SV.nil ?_
          refine SV.bn ?_
          refine SV.tn ?_
          refine SV.again (fun i => [2].getD i 0) (z') (hz2) (pins hE rfl rfl) (VS.le.mk' (le_put (le_put (le_put (le_put (le_new le_nil) (V.le.keep (ag := false) (xs := [.ro _]) (ys := [.ro _]) rfl rfl ⟨(by first | rfl | (show Leaf.ro _ = Leaf.ro _; refine congrArg Leaf.ro (congrArg (T.seq _) ?_); (rw [hz]; first | done | rfl | (simp [List.map_drop, List.drop_drop, Nat.add_comm]; done) | (simp [List.map_drop, List.map_take, List.drop_drop, Nat.add_comm]; rw [List.take_of_length_le (by simp), List.tail_drop])))), trivial⟩)) (V.le.keep (ag := false) (xs := [.ro _]) (ys := [.ro _]) rfl rfl ⟨(by first | rfl | (show Leaf.ro _ = Leaf.ro _; refine congrArg Leaf.ro (congrArg (T.seq _) ?_); (rw [hz]; first | done | rfl | (simp [List.map_drop, List.drop_drop, Nat.add_comm]; done) | (simp [List.map_drop, List.map_take, List.drop_drop, Nat.add_comm]; rw [List.take_of_length_le (by simp), List.tail_drop])))), trivial⟩)) (V.le.keep (ag := false) (xs := [.sc _]) (ys := [.sc _]) rfl rfl ⟨rfl, trivial⟩)) (V.le.keep (ag := false) (xs := [.hd 2]) (ys := [.hd 0]) rfl rfl ⟨⟨rfl, (gle rfl), (gle rfl)⟩, trivial⟩)) trivial ⟨.inr ⟨_, _, rfl, ?ob3_0, (gle rfl)⟩, trivial⟩ (new_ob nil_ob) (fun i j hi hj e => inj_list (l := [2]) (by decide) i j hi hj e))
          case ob3_0 =>
            show some (T.seq _ _) = some (T.seq _ _)
            rw [hz]; first | done | rfl | (simp only [List.map_append]; rfl) | (simp [tRow]; done)
      · skip   -- c0.F
        have hkl : b.drop k = [] := List.drop_eq_nil_of_le (by simp at hc0; omega)
        have hend : o ++ a.drop i ++ b.drop k = Runs.merge2 a b := by rw [← ho, hkl]; simp [Runs.merge2_nil, Runs.merge2_none]
        refine SV.exit ?_
        refine SV.te ?_
        refine SV.te ?_
        refine SV.bh ?_
        refine SV.tn ?_
        refine SV.seq' ?_
        refine SV.region ?_
        refine SV.op (OpL.ok (nb := 0) (ok_move (v := V.one (.hd 0)) (.inl rfl) rfl) rfl (gle rfl)) rfl ?_
        refine SV.op (OpL.ok (nb := 0) (ok_move (v := V.one (.ro _)) (.inl rfl) rfl) rfl (gle rfl)) rfl ?_
        refine SV.op (OpMk.ok (ok_append_ro (kk := 1) elt_impl_Row (ls := .hd 0) (lx := .ro _) rfl rfl rfl rfl rfl rfl (flat_impl_Row _) (by first | omega | (simp only [List.length_map]; omega) | (simp; done) | (simp; omega)) rfl (gle rfl))) rfl ?_
        refine SV.op (OpL.ok (nb := 0) (ok_move (v := V.one (.hd 1)) (.inr rfl) rfl) rfl (gle rfl)) rfl ?_
        refine SV.nil ?_
        refine SV.tn ?_
        refine SV.seq' ?_
        refine SV.region ?_
        refine SV.op (OpL.ok (nb := 0) (ok_move (v := V.one (.hd 1)) (.inl rfl) rfl) rfl (gle rfl)) rfl ?_
        refine SV.op (OpL.ok (nb := 0) (ok_move (v := V.one (.ro _)) (.inl rfl) rfl) rfl (gle rfl)) rfl ?_
        refine SV.op (OpMk.ok (ok_append_ro (kk := 2) elt_impl_Row (ls := .hd 1) (lx := .ro _) rfl rfl rfl rfl rfl rfl (flat_impl_Row _) (by first | omega | (simp only [List.length_map]; omega) | (simp; done) | (simp; omega)) rfl (gle rfl))) rfl ?_
        refine SV.op (OpL.ok (nb := 0) (ok_move (v := V.one (.hd 2)) (.inr rfl) rfl) rfl (gle rfl)) rfl ?_
        refine SV.nil ?_
        refine SV.tn ?_
        refine SV.ret ?_
        apply SV.done (hf := Try.results11) (ht := rfl) (he := .inl rfl)
        case hr => exact (ResAll.cons (ResOk.tmp (ag := false) (xs := [.hd 2]) rfl) ResAll.nil')
        case h2 => simp [two]
        refine ⟨rfl, ⟨?_, trivial⟩, trivial⟩ <;> (show some (T.seq _ _) = some (T.seq _ _); refine congrArg (fun z => some (T.seq _ z)) ?_; rw [← hend]; simp)
    · skip   -- g0.F
      have hil : a.drop i = [] := List.drop_eq_nil_of_le (by simp at hg0; omega)
      have hend : o ++ a.drop i ++ b.drop k = Runs.merge2 a b := by rw [← ho, hil]; simp [Runs.merge2_nil, Runs.merge2_none]
      refine SV.opN rfl rfl rfl (gle rfl) rfl rfl rfl (gle rfl) ?_
      refine SV.opN rfl rfl rfl (gle rfl) rfl rfl rfl (gle rfl) ?_
      refine SV.opN rfl rfl rfl (gle rfl) rfl rfl rfl (gle rfl) ?_
      refine SV.op (OpL.ok (nb := 0) (ok_pickF (v := V.one (.sc _)) rfl rfl rfl) rfl (gle rfl)) rfl ?_
      refine SV.nil ?_
      refine SV.tn ?_
      refine SV.cond rfl (fun hc2 => ?_) (fun hc2 => ?_)
      · skip   -- c2.T
        cases hc2
      · skip   -- c2.F
        refine SV.exit ?_
        refine SV.te ?_
        refine SV.te ?_
        refine SV.bh ?_
        refine SV.tn ?_
        refine SV.seq' ?_
        refine SV.region ?_
        refine SV.op (OpL.ok (nb := 0) (ok_move (v := V.one (.hd 0)) (.inl rfl) rfl) rfl (gle rfl)) rfl ?_
        refine SV.op (OpL.ok (nb := 0) (ok_move (v := V.one (.ro _)) (.inl rfl) rfl) rfl (gle rfl)) rfl ?_
        refine SV.op (OpMk.ok (ok_append_ro (kk := 1) elt_impl_Row (ls := .hd 0) (lx := .ro _) rfl rfl rfl rfl rfl rfl (flat_impl_Row _) (by first | omega | (simp only [List.length_map]; omega) | (simp; done) | (simp; omega)) rfl (gle rfl))) rfl ?_
        refine SV.op (OpL.ok (nb := 0) (ok_move (v := V.one (.hd 1)) (.inr rfl) rfl) rfl (gle rfl)) rfl ?_
        refine SV.nil ?_
        refine SV.tn ?_
        refine SV.seq' ?_
        refine SV.region ?_
        refine SV.op (OpL.ok (nb := 0) (ok_move (v := V.one (.hd 1)) (.inl rfl) rfl) rfl (gle rfl)) rfl ?_
        refine SV.op (OpL.ok (nb := 0) (ok_move (v := V.one (.ro _)) (.inl rfl) rfl) rfl (gle rfl)) rfl ?_
        refine SV.op (OpMk.ok (ok_append_ro (kk := 2) elt_impl_Row (ls := .hd 1) (lx := .ro _) rfl rfl rfl rfl rfl rfl (flat_impl_Row _) (by first | omega | (simp only [List.length_map]; omega) | (simp; done) | (simp; omega)) rfl (gle rfl))) rfl ?_
        refine SV.op (OpL.ok (nb := 0) (ok_move (v := V.one (.hd 2)) (.inr rfl) rfl) rfl (gle rfl)) rfl ?_
        refine SV.nil ?_
        refine SV.tn ?_
        refine SV.ret ?_
        apply SV.done (hf := Try.results11) (ht := rfl) (he := .inl rfl)
        case hr => exact (ResAll.cons (ResOk.tmp (ag := false) (xs := [.hd 2]) rfl) ResAll.nil')
        case h2 => simp [two]
        refine ⟨rfl, ⟨?_, trivial⟩, trivial⟩ <;> (show some (T.seq _ _) = some (T.seq _ _); refine congrArg (fun z => some (T.seq _ z)) ?_; rw [← hend]; simp)
end Go.Proofs.Ytfionajnoaednaa
/- slices.Clone at rows: told by trees. -/
namespace Go.Proofs.Ytfionajnoaednaa
open Go Go.RowKit V
set_option linter.unusedVariables false
set_option maxRecDepth 100000 in
set_option maxHeartbeats 2000000 in
theorem vclonerows (p : List R) (hp : p.length ≤ 1000000000) : VC Try.prog 50 [(false, [.seq 59 (p.map tRow)])] false [(false, [.seq 59 (p.map tRow)])] := by
  refine VC.enter Try.func50 rfl Try.ntmps50 (gle rfl) fun E hE => ?_
  refine SV.seq' ?_
  refine SV.region ?_
  refine SV.op (OpL.ok (nb := 0) (ok_move (v := V.one (.sc _)) (.inr rfl) rfl) rfl (gle rfl)) rfl ?_
  refine SV.nil ?_
  refine SV.tn ?_
  refine SV.seq' ?_
  refine SV.seq' ?_
  refine SV.region ?_
  refine SV.op (OpL.ok (nb := 0) (ok_move (v := V.one (.ro _)) (.inl rfl) rfl) rfl (gle rfl)) rfl ?_
  refine SV.isnil (d := 4) (x := .tmp 3) (y := .const ((Value.slice none 0 0))) rfl rfl rfl (gle rfl) rfl (fun ρ ad n c w h1 h2 => by (cases ad <;> (go_simp; first | done | rfl | (simp [h1, h2]; done)))) (fun hg0 => ?_) ?_
  · skip   -- g0.T
    refine SV.nil ?_
    refine SV.tn ?_
    refine SV.cond rfl (fun hc0 => ?_) (fun hc0 => ?_)
    · skip   -- c0.T
      refine SV.seq' ?_
      refine SV.region ?_
      refine SV.op (OpL.ok (nb := 0) (ok_move (v := V.one (.sc _)) (.inr rfl) rfl) rfl (gle rfl)) rfl ?_
      refine SV.nil ?_
      refine SV.tn ?_
      refine SV.ret ?_
      refine SV.tr ?_
      refine SV.nlsc (s := 2) (kk := 0) (n := 3) rfl rfl (by decide) sz_impl_Row (gle rfl) ?_
      apply SV.done (hf := Try.results50) (ht := rfl) (he := .inr rfl)
      case hr => exact (ResAll.cons (ResOk.tmp (ag := false) (xs := [.hd 0]) rfl) ResAll.nil')
      case h2 => simp [two]
      refine ⟨rfl, ⟨?_, trivial⟩, trivial⟩ <;> (show some (T.seq _ _) = some (T.seq _ _); first | rfl | (rw [hg0]; done) | (simp; done))
    · skip   -- c0.F
      cases hc0
  · skip   -- g0.F
    refine SV.nil ?_
    refine SV.tn ?_
    refine SV.cond rfl (fun hc1 => ?_) (fun hc1 => ?_)
    · skip   -- c1.T
      cases hc1
    · skip   -- c1.F
      refine SV.skip ?_
      refine SV.tn ?_
      refine SV.seq' ?_
      refine SV.region ?_
      refine SV.op (OpMk.ok (ok_lit0 (kk := 0) elt_impl_Row rfl rfl rfl (gle rfl))) rfl ?_
      refine SV.op (OpL.ok (nb := 0) (ok_move (v := V.one (.ro _)) (.inl rfl) rfl) rfl (gle rfl)) rfl ?_
      refine SV.op (OpMk.ok (ok_append_ro (kk := 1) elt_impl_Row (ls := .hd 0) (lx := .ro _) rfl rfl rfl rfl rfl rfl (flat_impl_Row _) (by simp; omega) rfl (gle rfl))) rfl ?_
      refine SV.op (OpL.ok (nb := 0) (ok_move (v := V.one (.hd 1)) (.inr rfl) rfl) rfl (gle rfl)) rfl ?_
      refine SV.nil ?_
      refine SV.tn ?_
      refine SV.ret ?_
      apply SV.done (hf := Try.results50) (ht := rfl) (he := .inl rfl)
      case hr => exact (ResAll.cons (ResOk.tmp (ag := false) (xs := [.hd 1]) rfl) ResAll.nil')
      case h2 => simp [two]
      refine ⟨rfl, ⟨?_, trivial⟩, trivial⟩ <;> (show some (T.seq _ _) = some (T.seq _ _); first | rfl | (rw [hg0]; done) | (simp; done))
end Go.Proofs.Ytfionajnoaednaa
/- The program's MergePass: told by trees. -/
namespace Go.Proofs.Ytfionajnoaednaa
open Go Go.RowKit V
set_option linter.unusedVariables false
theorem two_len_i {X : List (List R)} {i : Nat} {p q : List R} (h : X[i]? = some p) (h' : X[i + 1]? = some q) : p.length + q.length ≤ X.flatten.length := by
  have e := congrArg List.length (congrArg List.flatten (List.take_append_drop i X))
  rw [List.flatten_append, Runs.drop_at h, Runs.drop_at h', List.flatten_cons, List.flatten_cons, List.length_append, List.length_append, List.length_append] at e
  omega
set_option maxRecDepth 100000 in
set_option maxHeartbeats 2000000 in
theorem vpass_i (X : List (List R)) (hW : ∀ p ∈ X, ∀ r ∈ p, r.wf) (hp : ∀ p ∈ X, p.length ≤ 1000000000) (hX : X.length ≤ 1048576) (hF : X.flatten.length ≤ 1000000000) : VC Try.prog 16 [(false, [.seq 63 ((X).map tRun)])] false [(false, [.seq 63 ((Runs.pass X).map tRun)])] := by
  refine VC.enter Try.func16 rfl Try.ntmps16 (gle rfl) fun E hE => ?_
  refine SV.seq' ?_
  refine SV.region ?_
  refine SV.op (OpL.ok (nb := 0) (ok_move (v := V.one (.sc _)) (.inr rfl) rfl) rfl (gle rfl)) rfl ?_
  refine SV.nil ?_
  refine SV.tn ?_
  refine SV.seq' ?_
  refine SV.region ?_
  refine SV.op (OpL.ok (nb := 0) (ok_move (v := V.one (.sc _)) (.inr rfl) rfl) rfl (gle rfl)) rfl ?_
  refine SV.nil ?_
  refine SV.tn ?_
  refine SV.seq' ?_
  refine SV.block ?_
  refine SV.nlsc (s := 3) (kk := 0) (n := 1) rfl rfl (by decide) sz_impl_Run (gle rfl) ?_
  refine SV.loopF (X := Nat × List (List R)) (fun (σ : VS) z => ((((VS.nil.new (.seq 63 (z.2.map tRun))).put 0 (V.flat false [.ro (.seq 63 ((X.drop z.1).map tRun))])).put 2 (σ.tm 2)).put 3 (V.flat false [.hd 0]))) (fun z => z.1 ≤ X.length ∧ z.2 ++ Runs.pass (X.drop z.1) = Runs.pass X) (fun z => X.length - z.1) ?_ ?_
  · skip
    refine SV.again (fun i => [0].getD i 0) (0, []) (⟨Nat.zero_le _, rfl⟩) (pins hE rfl rfl) (VS.le.mk' (le_put (le_put (le_put (le_new le_nil) (V.le.keep (ag := false) (xs := [.ro _]) (ys := [.ro _]) rfl rfl ⟨(by first | rfl | (show Leaf.ro _ = Leaf.ro _; refine congrArg Leaf.ro (congrArg (T.seq _) ?_); (rw [hz]; first | done | rfl | (simp [List.map_drop, List.drop_drop, Nat.add_comm]; done) | (simp [List.map_drop, List.map_take, List.drop_drop, Nat.add_comm]; rw [List.take_of_length_le (by simp), List.drop_drop])))), trivial⟩)) (V.le.keep (ag := false) (xs := [.sc _]) (ys := [.sc _]) rfl rfl ⟨rfl, trivial⟩)) (V.le.keep (ag := false) (xs := [.hd 0]) (ys := [.hd 0]) rfl rfl ⟨⟨rfl, (gle rfl), (gle rfl)⟩, trivial⟩)) trivial ⟨.inr ⟨_, _, rfl, ?ob1_0, (gle rfl)⟩, trivial⟩ (new_ob nil_ob) (fun i j hi hj e => inj_list (l := [0]) (by decide) i j hi hj e))
    case ob1_0 =>
      show some (T.seq _ _) = some (T.seq _ _)
      rfl
  · rintro ⟨t, o⟩ ⟨ht, ho⟩
    dsimp only at ht ho
    have hol : o.length ≤ X.length := by have h := congrArg List.length ho; rw [List.length_append, Runs.pass_len X] at h; omega
    refine SV.seq' ?_
    refine SV.seq' ?_
    refine SV.region ?_
    refine SV.op (OpL.ok (nb := 0) (ok_move (v := V.one (.ro _)) (.inl rfl) rfl) rfl (gle rfl)) rfl ?_
    refine SV.op (OpL.ok (nb := 0) (ok_len (lf := .ro _) rfl elt_impl_Run.und rfl rfl) rfl (gle rfl)) rfl ?_
    refine SV.op (OpL.ok (nb := 0) (ok_s2 (x := .tmp 5) (x' := .const ((Value.int IntKind.i64 1))) (VScal.one rfl) (VScal.one rfl) (fun ρ h1 h2 w => by go_simp; (try go_bits); with_reducible rfl) rfl) rfl (gle rfl)) rfl ?_
    refine SV.nil ?_
    refine SV.tn ?_
    refine SV.cond rfl (fun hc0 => ?_) (fun hc0 => ?_)
    · skip   -- c0.T
      have htl : t + 1 < X.length := by simp at hc0; omega
      obtain ⟨p, hx⟩ : ∃ p, X[t]? = some p := ⟨_, List.getElem?_eq_getElem (by omega)⟩
      obtain ⟨q, hy⟩ : ∃ q, X[t + 1]? = some q := ⟨_, List.getElem?_eq_getElem htl⟩
      have hx0 : (X.drop t)[0]? = some p := by rw [List.getElem?_drop, Nat.add_zero]; exact hx
      have hy0 : (X.drop t)[1]? = some q := by rw [List.getElem?_drop]; exact hy
      have hpl := Runs.mem_len (List.mem_of_getElem? hx)
      obtain ⟨z', hz⟩ : ∃ z' : Nat × List (List R), z' = (t + 2, o ++ [Runs.merge2 p q]) := ⟨_, rfl⟩
      have hz2 : (z'.1 ≤ X.length ∧ z'.2 ++ Runs.pass (X.drop z'.1) = Runs.pass X) ∧ X.length - z'.1 < X.length - t := by
        rw [hz]
        refine ⟨⟨by show t + 2 ≤ X.length; omega, ?_⟩, by show X.length - (t + 2) < _; omega⟩
        show (o ++ [Runs.merge2 p q]) ++ Runs.pass (X.drop (t + 2)) = _
        rw [List.append_assoc, ← ho, Runs.pass_two hx hy]
        rfl
      refine SV.skip ?_
      refine SV.tn ?_
      refine SV.block ?_
      refine SV.seq' ?_
      refine SV.draw [.q 0, .q 1, .q 2, .q 3, .q 4, .q 5, .q 6, .q 7, .q 8, .m 9, .q 10, .m 11, .m 12, .q 13] [] (by kernel_rfl) (by kernel_rfl) ?_
      refine DW.q rfl (ok_move (v := V.one (.hd 0)) (.inl rfl) rfl) rfl rfl (gle rfl) (fun _ _ _ _ h => h) ?_
      refine DW.q rfl (ok_move (v := V.one (.ro _)) (.inl rfl) rfl) rfl rfl (gle rfl) (fun _ _ _ _ h => h) ?_
      refine DW.q rfl (ok_index (n := 1) (lf := .ro _) rfl elt_impl_Run.und sz_impl_Run rfl rfl rfl (map_at hx0)) rfl rfl (gle rfl) (fun _ _ _ _ h => h) ?_
      refine DW.q rfl (ok_field_el (p := .rp _) (off := 0) rfl rfl rfl fld_impl_Run_0) rfl rfl (gle rfl) (fun _ _ _ _ h => h) ?_
      refine DW.q rfl (ok_load_rp (ag := false) (m := 1) (ys := [.ro _]) rfl rfl agg_s_impl_Row sz_s_impl_Row (fun _ => rfl) (gle rfl) rfl) rfl rfl (gle rfl) (fun _ _ _ _ h => h) ?_
      refine DW.q rfl (ok_move (v := V.one (.ro _)) (.inl rfl) rfl) rfl rfl (gle rfl) (fun _ _ _ _ h => h) ?_
      refine DW.q rfl (ok_index (n := 1) (lf := .ro _) rfl elt_impl_Run.und sz_impl_Run rfl rfl rfl (map_at hy0)) rfl rfl (gle rfl) (fun _ _ _ _ h => h) ?_
      refine DW.q rfl (ok_field_el (p := .rp _) (off := 0) rfl rfl rfl fld_impl_Run_0) rfl rfl (gle rfl) (fun _ _ _ _ h => h) ?_
      refine DW.q rfl (ok_load_rp (ag := false) (m := 1) (ys := [.ro _]) rfl rfl agg_s_impl_Row sz_s_impl_Row (fun _ => rfl) (gle rfl) rfl) rfl rfl (gle rfl) (fun _ _ _ _ h => h) ?_
      refine DW.m [1] rfl (ok_call (ls := [(false, [.hd 1])]) rfl rfl ⟨_, _, Try.func11, rfl, by decide⟩ (vms_i p q (hW p (List.mem_of_getElem? hx)) (hW q (List.mem_of_getElem? hy)) (by have := two_len_i hx hy; omega)) ⟨⟨[.ro _], rfl, ⟨rfl, trivial⟩⟩, ⟨[.ro _], rfl, ⟨rfl, trivial⟩⟩, trivial⟩ rfl (gle rfl)) rfl (gle rfl) (gle rfl) (.inl rfl) (fun j hj => by
          simp only [List.mem_cons, List.not_mem_nil, or_false] at hj
          rcases hj with rfl
          · exact .inr ⟨(gle rfl), (gle rfl), .inl rfl⟩) ?_
      refine DW.q rfl (ok_build (zs := [.nl _]) (ys := [.hd 1]) (qs := [(0, [.hd 1])]) (pl := fun i => ([(0, 1)] : List (Nat × Nat))[i]?) rfl zero_impl_Run ⟨rfl, ⟨3, by decide, sz_impl_Row⟩, trivial⟩ ⟨⟨rfl, false, rfl, (fun _ => rfl), rfl⟩, trivial⟩ bld_impl_Run rfl) rfl rfl (gle rfl) (fun _ _ _ _ h => h) ?_
      refine DW.m [2, 1] rfl (ok_lit1 (kk := 2) elt_impl_Run (ag := true) (xs := [.hd 1]) rfl rfl rfl rfl (fun h => by cases h) (outs_c rfl outs_n) (by simp [two]) rfl (gle rfl)) rfl (gle rfl) (gle rfl) (.inl rfl) (fun j hj => by
          simp only [List.mem_cons, List.not_mem_nil, or_false] at hj
          rcases hj with rfl | rfl
          · exact .inr ⟨(gle rfl), (gle rfl), .inl rfl⟩
          · exact .inl (by decide)) ?_
      refine DW.m [2, 1] rfl (ok_append (kk := 3) elt_impl_Run (ls := .hd 0) (lx := .hd 2) rfl rfl rfl rfl rfl rfl (by intro i h1 h2; first | (cases h1; done) | (cases h1; cases h2)) (by first | omega | (simp only [List.length_map]; omega) | (simp; done) | (simp; omega)) rfl (gle rfl)) rfl (gle rfl) (gle rfl) (.inr ⟨0, rfl, .inr ⟨(gle rfl), rfl⟩⟩) (fun j hj => by
          simp only [List.mem_cons, List.not_mem_nil, or_false] at hj
          rcases hj with rfl | rfl
          · exact .inl (by decide)
          · exact .inl (by decide)) ?_
      refine DW.q rfl (ok_move (v := V.one (.hd 3)) (.inr rfl) rfl) rfl rfl (gle rfl) (fun _ _ _ _ h => h) ?_
      refine DW.stores ?_
      refine SV.zend ?_
      refine SV.tn ?_
      refine SV.region ?_
      refine SV.op (OpL.ok (nb := 0) (ok_move (v := V.one (.ro _)) (.inl rfl) rfl) rfl (gle rfl)) rfl ?_
      refine SV.op (OpL.ok (nb := 0) (ok_slice (l := 2) (h := ((X.drop t).map tRun).length) (lf := .ro _) (yy := .ro _) rfl rfl elt_impl_Run.und sz_impl_Run rfl rfl ⟨_, rfl⟩ rfl (by simp; omega) (Nat.le_refl _)) rfl (gle rfl)) rfl ?_
      refine SV.op (OpL.ok (nb := 0) (ok_move (v := V.one (.ro _)) (.inr rfl) rfl) rfl (gle rfl)) rfl ?_
      refine SV.nil ?_
      refine SV.bn ?_
      refine SV.tn ?_
      refine SV.again (fun i => [3].getD i 0) (z') (hz2) (pins hE rfl rfl) (VS.le.mk' (le_put (le_put (le_put (le_new le_nil) (V.le.keep (ag := false) (xs := [.ro _]) (ys := [.ro _]) rfl rfl ⟨(by first | rfl | (show Leaf.ro _ = Leaf.ro _; refine congrArg Leaf.ro (congrArg (T.seq _) ?_); (rw [hz]; first | done | rfl | (simp [List.map_drop, List.drop_drop, Nat.add_comm]; done) | (simp [List.map_drop, List.map_take, List.drop_drop, Nat.add_comm]; rw [List.take_of_length_le (by simp), List.drop_drop])))), trivial⟩)) (V.le.keep (ag := false) (xs := [.sc _]) (ys := [.sc _]) rfl rfl ⟨rfl, trivial⟩)) (V.le.keep (ag := false) (xs := [.hd 3]) (ys := [.hd 0]) rfl rfl ⟨⟨rfl, (gle rfl), (gle rfl)⟩, trivial⟩)) trivial ⟨.inr ⟨_, _, rfl, ?ob2_0, (gle rfl)⟩, trivial⟩ (new_ob nil_ob) (fun i j hi hj e => inj_list (l := [3]) (by decide) i j hi hj e))
      case ob2_0 =>
        show some (T.seq _ _) = some (T.seq _ _)
        rw [hz]; first | done | rfl | (simp only [List.map_append]; rfl) | (simp [tRun]; done)
    · skip   -- c0.F
      have hte : X.length ≤ t + 1 := by simp at hc0; omega
      refine SV.exit ?_
      refine SV.te ?_
      refine SV.te ?_
      refine SV.bh ?_
      refine SV.tn ?_
      refine SV.seq' ?_
      refine SV.seq' ?_
      refine SV.region ?_
      refine SV.op (OpL.ok (nb := 0) (ok_move (v := V.one (.ro _)) (.inl rfl) rfl) rfl (gle rfl)) rfl ?_
      refine SV.op (OpL.ok (nb := 0) (ok_len (lf := .ro _) rfl elt_impl_Run.und rfl rfl) rfl (gle rfl)) rfl ?_
      refine SV.op (OpL.ok (nb := 0) (ok_s2 (x := .tmp 23) (x' := .const ((Value.int IntKind.i64 1))) (VScal.one rfl) (VScal.one rfl) (fun ρ h1 h2 w => by go_simp; (try go_bits); with_reducible rfl) rfl) rfl (gle rfl)) rfl ?_
      refine SV.nil ?_
      refine SV.tn ?_
      refine SV.cond rfl (fun hc1 => ?_) (fun hc1 => ?_)
      · skip   -- c1.T
        have htl : t + 1 = X.length := by simp at hc1; omega
        obtain ⟨p, hx⟩ : ∃ p, X[t]? = some p := ⟨_, List.getElem?_eq_getElem (by omega)⟩
        have hx0 : (X.drop t)[0]? = some p := by rw [List.getElem?_drop, Nat.add_zero]; exact hx
        have hpl := Runs.mem_len (List.mem_of_getElem? hx)
        have hend : o ++ [p] = Runs.pass X := by rw [← ho, Runs.pass_end hx htl]
        refine SV.region ?_
        refine SV.op (OpL.ok (nb := 0) (ok_move (v := V.one (.hd 0)) (.inl rfl) rfl) rfl (gle rfl)) rfl ?_
        refine SV.op (OpL.ok (nb := 0) (ok_move (v := V.one (.ro _)) (.inl rfl) rfl) rfl (gle rfl)) rfl ?_
        refine SV.op (OpL.ok (nb := 0) (ok_index (n := 1) (lf := .ro _) rfl elt_impl_Run.und sz_impl_Run rfl rfl rfl (map_at hx0)) rfl (gle rfl)) rfl ?_
        refine SV.op (OpL.ok (nb := 0) (ok_field_el (p := .rp _) (off := 0) rfl rfl rfl fld_impl_Run_0) rfl (gle rfl)) rfl ?_
        refine SV.op (OpL.ok (nb := 0) (ok_load_rp (ag := false) (m := 1) (ys := [.ro _]) rfl rfl agg_s_impl_Row sz_s_impl_Row (fun _ => rfl) (gle rfl) rfl) rfl (gle rfl)) rfl ?_
        refine SV.op (OpMk.ok (ok_call (ls := [(false, [.hd 1])]) rfl rfl ⟨_, _, Try.func50, rfl, by decide⟩ (vclonerows p (by omega)) ⟨⟨[.ro _], rfl, ⟨rfl, trivial⟩⟩, trivial⟩ rfl (gle rfl))) rfl ?_
        refine SV.op (OpL.ok (nb := 0) (ok_build (zs := [.nl _]) (ys := [.hd 1]) (qs := [(0, [.hd 1])]) (pl := fun i => ([(0, 1)] : List (Nat × Nat))[i]?) rfl zero_impl_Run ⟨rfl, ⟨3, by decide, sz_impl_Row⟩, trivial⟩ ⟨⟨rfl, false, rfl, (fun _ => rfl), rfl⟩, trivial⟩ bld_impl_Run rfl) rfl (gle rfl)) rfl ?_
        refine SV.op (OpMk.ok (ok_lit1 (kk := 2) elt_impl_Run (ag := true) (xs := [.hd 1]) rfl rfl rfl rfl (fun h => by cases h) (outs_c rfl outs_n) (by simp [two]) rfl (gle rfl))) rfl ?_
        refine SV.op (OpMk.ok (ok_append (kk := 3) elt_impl_Run (ls := .hd 0) (lx := .hd 2) rfl rfl rfl rfl rfl rfl (by intro i h1 h2; first | (cases h1; done) | (cases h1; cases h2)) (by first | omega | (simp only [List.length_map]; omega) | (simp; done) | (simp; omega)) rfl (gle rfl))) rfl ?_
        refine SV.op (OpL.ok (nb := 0) (ok_move (v := V.one (.hd 3)) (.inr rfl) rfl) rfl (gle rfl)) rfl ?_
        refine SV.nil ?_
        refine SV.tn ?_
        refine SV.seq' ?_
        refine SV.region ?_
        refine SV.op (OpL.ok (nb := 0) (ok_move (v := V.one (.hd 3)) (.inl rfl) rfl) rfl (gle rfl)) rfl ?_
        refine SV.op (OpL.ok (nb := 0) (ok_move (v := V.one (.hd 3)) (.inr rfl) rfl) rfl (gle rfl)) rfl ?_
        refine SV.nil ?_
        refine SV.tn ?_
        refine SV.ret ?_
        apply SV.done (hf := Try.results16) (ht := rfl) (he := .inl rfl)
        case hr => exact (ResAll.cons (ResOk.tmp (ag := false) (xs := [.hd 3]) rfl) ResAll.nil')
        case h2 => simp [two]
        refine ⟨rfl, ⟨?_, trivial⟩, trivial⟩ <;> (show some (T.seq _ _) = some (T.seq _ _); refine congrArg (fun z => some (T.seq _ z)) ?_; rw [← hend]; first | done | rfl | (simp [tRun]; done))
      · skip   -- c1.F
        have htl : X.drop t = [] := List.drop_eq_nil_of_le (by simp at hc1; omega)
        have hend : o = Runs.pass X := by rw [← ho, htl]; simp [Runs.pass]
        refine SV.skip ?_
        refine SV.tn ?_
        refine SV.seq' ?_
        refine SV.region ?_
        refine SV.op (OpL.ok (nb := 0) (ok_move (v := V.one (.hd 0)) (.inl rfl) rfl) rfl (gle rfl)) rfl ?_
        refine SV.op (OpL.ok (nb := 0) (ok_move (v := V.one (.hd 0)) (.inr rfl) rfl) rfl (gle rfl)) rfl ?_
        refine SV.nil ?_
        refine SV.tn ?_
        refine SV.ret ?_
        apply SV.done (hf := Try.results16) (ht := rfl) (he := .inl rfl)
        case hr => exact (ResAll.cons (ResOk.tmp (ag := false) (xs := [.hd 0]) rfl) ResAll.nil')
        case h2 => simp [two]
        refine ⟨rfl, ⟨?_, trivial⟩, trivial⟩ <;> (show some (T.seq _ _) = some (T.seq _ _); refine congrArg (fun z => some (T.seq _ z)) ?_; rw [← hend]; first | done | rfl | (simp [tRun]; done))
end Go.Proofs.Ytfionajnoaednaa
/- The program's AreValidRuns: told by trees. -/
namespace Go.Proofs.Ytfionajnoaednaa
open Go Go.RowKit V
set_option linter.unusedVariables false
set_option maxRecDepth 100000 in
set_option maxHeartbeats 2000000 in
theorem vokruns_i (X : List (List R)) (hW : ∀ p ∈ X, ∀ r ∈ p, r.wf) (hp : ∀ p ∈ X, p.length ≤ 1000000000) (hX : X.length ≤ 1048576) (hF : X.flatten.length ≤ 1000000000) : VC Try.prog 47 [(false, [.seq 63 ((X).map tRun)])] false [(false, [.lit (.bool (Runs.okRuns X))])] := by
  refine VC.enter Try.func47 rfl Try.ntmps47 (gle rfl) fun E hE => ?_
  refine SV.seq' ?_
  refine SV.region ?_
  refine SV.op (OpL.ok (nb := 0) (ok_move (v := V.one (.sc _)) (.inr rfl) rfl) rfl (gle rfl)) rfl ?_
  refine SV.nil ?_
  refine SV.tn ?_
  refine SV.seq' ?_
  refine SV.seq' ?_
  refine SV.region ?_
  refine SV.op (OpL.ok (nb := 0) (ok_move (v := V.one (.ro _)) (.inl rfl) rfl) rfl (gle rfl)) rfl ?_
  refine SV.op (OpL.ok (nb := 0) (ok_len (lf := .ro _) rfl elt_impl_Run.und rfl rfl) rfl (gle rfl)) rfl ?_
  refine SV.op (OpL.ok (nb := 0) (ok_move (v := V.one (.sc _)) (.inl rfl) rfl) rfl (gle rfl)) rfl ?_
  refine SV.nil ?_
  refine SV.tn ?_
  refine SV.block ?_
  refine SV.loopF (X := Nat) (fun (σ : VS) t => ((((VS.nil.put 2 (σ.tm 2)).put 5 (σ.tm 5)).put 6 (σ.tm 6)).put 7 (V.flat false [.sc (.int .i64 ((t : Int)))]))) (fun t => t ≤ X.length ∧ ∀ u p, u < t → X[u]? = some p → Runs.okRun p = true) (fun t => X.length - t) ?_ ?_
  · skip
    refine SV.again (fun i => [].getD i 0) 0 (⟨Nat.zero_le _, fun u p h => absurd h (Nat.not_lt_zero u)⟩) (pins hE rfl rfl) (VS.le.mk' (le_put (le_put (le_put (le_put le_nil (V.le.keep (ag := false) (xs := [.sc _]) (ys := [.sc _]) rfl rfl ⟨rfl, trivial⟩)) (V.le.keep (ag := false) (xs := [.ro _]) (ys := [.ro _]) rfl rfl ⟨rfl, trivial⟩)) (V.le.keep (ag := false) (xs := [.sc _]) (ys := [.sc _]) rfl rfl ⟨rfl, trivial⟩)) (V.le.keep (ag := false) (xs := [.sc _]) (ys := [.sc _]) rfl rfl ⟨(by first | rfl | (show Leaf.sc _ = Leaf.sc _; refine congrArg Leaf.sc ?_; first | rfl | go_num | (simp [cntAll]; done)) | (simp [cntAll]; done) | (simp; omega)), trivial⟩)) trivial trivial nil_ob (fun i j hi hj e => absurd hi (Nat.not_lt_zero i)))
  · rintro t ⟨ht, hb⟩
    refine SV.seq' ?_
    refine SV.region ?_
    refine SV.op (OpL.ok (nb := 0) (ok_s2 (x := .tmp 7) (x' := .tmp 6) (VScal.one rfl) (VScal.one rfl) (fun ρ h1 h2 w => by go_simp; (try go_bits); with_reducible rfl) rfl) rfl (gle rfl)) rfl ?_
    refine SV.nil ?_
    refine SV.tn ?_
    refine SV.seq' ?_
    refine SV.cond rfl (fun hc0 => ?_) (fun hc0 => ?_)
    · skip   -- c0.T
      have htl : t < X.length := by simpa using hc0
      obtain ⟨p, hx⟩ : ∃ p, X[t]? = some p := ⟨_, List.getElem?_eq_getElem htl⟩
      refine SV.skip ?_
      refine SV.tn ?_
      refine SV.seq' ?_
      refine SV.block ?_
      refine SV.seq' ?_
      refine SV.region ?_
      refine SV.op (OpL.ok (nb := 0) (ok_index (n := 1) (lf := .ro _) rfl elt_impl_Run.und sz_impl_Run rfl rfl rfl (map_at hx)) rfl (gle rfl)) rfl ?_
      refine SV.op (OpL.ok (nb := 0) (ok_load_rp (ag := true) (m := 1) (ys := [.ro _]) rfl rfl agg_impl_Run sz_impl_Run (fun h => by cases h) (gle rfl) rfl) rfl (gle rfl)) rfl ?_
      refine SV.op (OpMk.ok (ok_alloc (kk := 0) (xs := [.nl _]) rfl rfl zero_impl_Run ⟨rfl, ⟨3, by decide, sz_impl_Row⟩, trivial⟩ rfl (gle rfl))) rfl ?_
      refine SV.op (ok_store_bp (b := 0) (i := 0) (m := 1) (ag := true) (zs := [.ro _]) (ys := [.ro _]) rfl rfl rfl rfl sz_impl_Run (fun h => by cases h) rfl (gle rfl) rfl rfl rfl) rfl ?_
      refine SV.nil ?_
      refine SV.tn ?_
      refine SV.seq' ?_
      refine SV.region ?_
      refine SV.op (OpL.ok (nb := 1) (ok_field_bp (b := 0) (o' := 0) (off := 0) rfl rfl fld_impl_Run_0) rfl (gle rfl)) rfl ?_
      refine SV.op (OpL.ok (nb := 1) (ok_load_bp (b := 0) (i := 0) (ag := false) (m := 1) (ys := [.ro _]) rfl rfl rfl agg_s_impl_Row sz_s_impl_Row (fun _ => rfl) rfl rfl (gle rfl)) rfl (gle rfl)) rfl ?_
      refine SV.op (OpL.ok (nb := 1) (ok_len (lf := .ro _) rfl elt_impl_Row.und rfl rfl) rfl (gle rfl)) rfl ?_
      refine SV.op (OpL.ok (nb := 1) (ok_s2 (x := .tmp 13) (x' := .const ((Value.int IntKind.i64 0))) (VScal.one rfl) (VScal.one rfl) (fun ρ h1 h2 w => by go_simp; (try go_bits); with_reducible rfl) rfl) rfl (gle rfl)) rfl ?_
      refine SV.op (OpL.ok (nb := 1) (ok_move (v := V.one (.sc _)) (.inl rfl) rfl) rfl (gle rfl)) rfl ?_
      refine SV.split (d := 15) rfl (fun hg0 => ?_) (fun hg0 => ?_)
      · skip   -- g0.T
        refine SV.opN rfl rfl rfl (gle rfl) rfl rfl rfl (gle rfl) ?_
        refine SV.opN rfl rfl rfl (gle rfl) rfl rfl rfl (gle rfl) ?_
        refine SV.opN rfl rfl rfl (gle rfl) rfl rfl rfl (gle rfl) ?_
        refine SV.opN rfl rfl rfl (gle rfl) rfl rfl rfl (gle rfl) ?_
        refine SV.op (OpL.ok (nb := 1) (ok_pickT (v := V.one (.sc _)) rfl rfl rfl) rfl (gle rfl)) rfl ?_
        refine SV.op (OpL.ok (nb := 1) (ok_move (v := V.one (.sc _)) (.inl rfl) rfl) rfl (gle rfl)) rfl ?_
        refine SV.opN rfl rfl rfl (gle rfl) rfl rfl rfl (gle rfl) ?_
        refine SV.opN rfl rfl rfl (gle rfl) rfl rfl rfl (gle rfl) ?_
        refine SV.opN rfl rfl rfl (gle rfl) rfl rfl rfl (gle rfl) ?_
        refine SV.opN rfl rfl rfl (gle rfl) rfl rfl rfl (gle rfl) ?_
        refine SV.op (OpL.ok (nb := 1) (ok_pickT (v := V.one (.sc _)) rfl rfl rfl) rfl (gle rfl)) rfl ?_
        refine SV.nil ?_
        refine SV.tn ?_
        refine SV.cond rfl (fun hc1 => ?_) (fun hc1 => ?_)
        · skip   -- c1.T
          have hbad : Runs.okRun p = false := by
            rw [Bool.eq_false_iff]
            intro h
            rw [okRun_eq] at h
            simp only [Bool.and_eq_true, decide_eq_true_eq] at h
            obtain ⟨h1, h2, h3⟩ := h
            simp at hg0; first | omega | (simp [hg0] at h1; done)
          have hno : Runs.okRuns X = false := okRuns_no hx hbad
          refine SV.seq' ?_
          refine SV.region ?_
          refine SV.op (OpL.ok (nb := 1) (ok_move (v := V.one (.sc _)) (.inr rfl) rfl) rfl (gle rfl)) rfl ?_
          refine SV.nil ?_
          refine SV.tn ?_
          refine SV.ret ?_
          refine SV.br ?_
          refine SV.tr ?_
          refine SV.tr ?_
          refine SV.br ?_
          refine SV.tr ?_
          apply SV.done (hf := Try.results47) (ht := rfl) (he := .inl rfl)
          case hr => exact (ResAll.cons (ResOk.tmp (ag := false) (xs := [.sc _]) rfl) ResAll.nil')
          case h2 => simp [two]
          refine ⟨rfl, ⟨?_, trivial⟩, trivial⟩ <;> (show some (T.lit (Value.bool _)) = some (T.lit (Value.bool _)); refine congrArg (fun z => some (T.lit (Value.bool z))) ?_; rw [hno])
        · skip   -- c1.F
          cases hc1
      · skip   -- g0.F
        refine SV.opY (OpL.ok (nb := 1) (ok_field_bp (b := 0) (o' := 0) (off := 0) rfl rfl fld_impl_Run_0) rfl (gle rfl)) rfl rfl rfl (gle rfl) rfl rfl ?_
        refine SV.opY (OpL.ok (nb := 1) (ok_load_bp (b := 0) (i := 0) (ag := false) (m := 1) (ys := [.ro _]) rfl rfl rfl agg_s_impl_Row sz_s_impl_Row (fun _ => rfl) rfl rfl (gle rfl)) rfl (gle rfl)) rfl rfl rfl (gle rfl) rfl rfl ?_
        refine SV.opY (OpMk.ok (ok_call (ls := [(false, [.sc _])]) rfl rfl ⟨_, _, Try.func22, rfl, by decide⟩ (vasc_i p (hW p (List.mem_of_getElem? hx)) (hp p (List.mem_of_getElem? hx))) ⟨⟨[.ro _], rfl, ⟨rfl, trivial⟩⟩, trivial⟩ rfl (gle rfl))) rfl rfl rfl (gle rfl) rfl rfl ?_
        refine SV.opY (OpL.ok (nb := 1) (ok_s1 (x := .tmp 18) (VScal.one rfl) (fun ρ h1 w => by go_simp; (try go_bits); with_reducible rfl) rfl) rfl (gle rfl)) rfl rfl rfl (gle rfl) rfl rfl ?_
        refine SV.op (OpL.ok (nb := 1) (ok_pickF (v := V.one (.sc _)) rfl rfl rfl) rfl (gle rfl)) rfl ?_
        refine SV.op (OpL.ok (nb := 1) (ok_move (v := V.one (.sc _)) (.inl rfl) rfl) rfl (gle rfl)) rfl ?_
        refine SV.split (d := 21) rfl (fun hg1 => ?_) (fun hg1 => ?_)
        · skip   -- g1.T
          refine SV.opN rfl rfl rfl (gle rfl) rfl rfl rfl (gle rfl) ?_
          refine SV.opN rfl rfl rfl (gle rfl) rfl rfl rfl (gle rfl) ?_
          refine SV.opN rfl rfl rfl (gle rfl) rfl rfl rfl (gle rfl) ?_
          refine SV.opN rfl rfl rfl (gle rfl) rfl rfl rfl (gle rfl) ?_
          refine SV.op (OpL.ok (nb := 1) (ok_pickT (v := V.one (.sc _)) rfl rfl rfl) rfl (gle rfl)) rfl ?_
          refine SV.nil ?_
          refine SV.tn ?_
          refine SV.cond rfl (fun hc2 => ?_) (fun hc2 => ?_)
          · skip   -- c2.T
            have hbad : Runs.okRun p = false := by
              rw [Bool.eq_false_iff]
              intro h
              rw [okRun_eq] at h
              simp only [Bool.and_eq_true, decide_eq_true_eq] at h
              obtain ⟨h1, h2, h3⟩ := h
              rw [h2] at hg1; cases hg1
            have hno : Runs.okRuns X = false := okRuns_no hx hbad
            refine SV.seq' ?_
            refine SV.region ?_
            refine SV.op (OpL.ok (nb := 1) (ok_move (v := V.one (.sc _)) (.inr rfl) rfl) rfl (gle rfl)) rfl ?_
            refine SV.nil ?_
            refine SV.tn ?_
            refine SV.ret ?_
            refine SV.br ?_
            refine SV.tr ?_
            refine SV.tr ?_
            refine SV.br ?_
            refine SV.tr ?_
            apply SV.done (hf := Try.results47) (ht := rfl) (he := .inl rfl)
            case hr => exact (ResAll.cons (ResOk.tmp (ag := false) (xs := [.sc _]) rfl) ResAll.nil')
            case h2 => simp [two]
            refine ⟨rfl, ⟨?_, trivial⟩, trivial⟩ <;> (show some (T.lit (Value.bool _)) = some (T.lit (Value.bool _)); refine congrArg (fun z => some (T.lit (Value.bool z))) ?_; rw [hno])
          · skip   -- c2.F
            cases hc2
        · skip   -- g1.F
          refine SV.opY (OpL.ok (nb := 1) (ok_field_bp (b := 0) (o' := 0) (off := 0) rfl rfl fld_impl_Run_0) rfl (gle rfl)) rfl rfl rfl (gle rfl) rfl rfl ?_
          refine SV.opY (OpL.ok (nb := 1) (ok_load_bp (b := 0) (i := 0) (ag := false) (m := 1) (ys := [.ro _]) rfl rfl rfl agg_s_impl_Row sz_s_impl_Row (fun _ => rfl) rfl rfl (gle rfl)) rfl (gle rfl)) rfl rfl rfl (gle rfl) rfl rfl ?_
          refine SV.opY (OpMk.ok (ok_call (ls := [(false, [.sc _])]) rfl rfl ⟨_, _, Try.func68, rfl, by decide⟩ (vares_i p (hW p (List.mem_of_getElem? hx)) (hp p (List.mem_of_getElem? hx))) ⟨⟨[.ro _], rfl, ⟨rfl, trivial⟩⟩, trivial⟩ rfl (gle rfl))) rfl rfl rfl (gle rfl) rfl rfl ?_
          refine SV.opY (OpL.ok (nb := 1) (ok_s1 (x := .tmp 24) (VScal.one rfl) (fun ρ h1 w => by go_simp; (try go_bits); with_reducible rfl) rfl) rfl (gle rfl)) rfl rfl rfl (gle rfl) rfl rfl ?_
          refine SV.op (OpL.ok (nb := 1) (ok_pickF (v := V.one (.sc _)) rfl rfl rfl) rfl (gle rfl)) rfl ?_
          refine SV.nil ?_
          refine SV.tn ?_
          refine SV.cond rfl (fun hc3 => ?_) (fun hc3 => ?_)
          · skip   -- c3.T
            have hbad : Runs.okRun p = false := by
              rw [Bool.eq_false_iff]
              intro h
              rw [okRun_eq] at h
              simp only [Bool.and_eq_true, decide_eq_true_eq] at h
              obtain ⟨h1, h2, h3⟩ := h
              rw [h3] at hc3; cases hc3
            have hno : Runs.okRuns X = false := okRuns_no hx hbad
            refine SV.seq' ?_
            refine SV.region ?_
            refine SV.op (OpL.ok (nb := 1) (ok_move (v := V.one (.sc _)) (.inr rfl) rfl) rfl (gle rfl)) rfl ?_
            refine SV.nil ?_
            refine SV.tn ?_
            refine SV.ret ?_
            refine SV.br ?_
            refine SV.tr ?_
            refine SV.tr ?_
            refine SV.br ?_
            refine SV.tr ?_
            apply SV.done (hf := Try.results47) (ht := rfl) (he := .inl rfl)
            case hr => exact (ResAll.cons (ResOk.tmp (ag := false) (xs := [.sc _]) rfl) ResAll.nil')
            case h2 => simp [two]
            refine ⟨rfl, ⟨?_, trivial⟩, trivial⟩ <;> (show some (T.lit (Value.bool _)) = some (T.lit (Value.bool _)); refine congrArg (fun z => some (T.lit (Value.bool z))) ?_; rw [hno])
          · skip   -- c3.F
            have hgood : Runs.okRun p = true := by
              rw [okRun_eq]
              simp only [Bool.and_eq_true, decide_eq_true_eq]
              refine ⟨?_, by simpa using hg1, by simpa using hc3⟩
              rcases Nat.eq_zero_or_pos p.length with h | h; (exfalso; simp [h] at hg0); (exact h)
            refine SV.skip ?_
            refine SV.bn ?_
            refine SV.tn ?_
            refine SV.region ?_
            refine SV.op (OpL.ok (nb := 1) (ok_s2 (x := .tmp 7) (x' := .const ((Value.int IntKind.i64 1))) (VScal.one rfl) (VScal.one rfl) (fun ρ h1 h2 w => by go_simp; (try go_bits); with_reducible rfl) rfl) rfl (gle rfl)) rfl ?_
            refine SV.op (OpL.ok (nb := 1) (ok_move (v := V.one (.sc _)) (.inl rfl) rfl) rfl (gle rfl)) rfl ?_
            refine SV.nil ?_
            refine SV.tn ?_
            refine SV.again (fun i => [].getD i 0) (t + 1) (⟨⟨by omega, fun u q hu hq => by rcases Nat.lt_or_ge u t with h1 | h1; (exact hb u q h1 hq); (have h2 : u = t := (by omega); subst h2; rw [hx] at hq; cases hq; exact hgood)⟩, by omega⟩) (pins hE rfl rfl) (VS.le.mk' (le_put (le_put (le_put (le_put le_nil (V.le.keep (ag := false) (xs := [.sc _]) (ys := [.sc _]) rfl rfl ⟨rfl, trivial⟩)) (V.le.keep (ag := false) (xs := [.ro _]) (ys := [.ro _]) rfl rfl ⟨rfl, trivial⟩)) (V.le.keep (ag := false) (xs := [.sc _]) (ys := [.sc _]) rfl rfl ⟨rfl, trivial⟩)) (V.le.keep (ag := false) (xs := [.sc _]) (ys := [.sc _]) rfl rfl ⟨(by first | rfl | (show Leaf.sc _ = Leaf.sc _; refine congrArg Leaf.sc ?_; first | rfl | go_num | (simp [cntAll]; done)) | (simp [cntAll]; done) | (simp; omega)), trivial⟩)) trivial trivial nil_ob (fun i j hi hj e => absurd hi (Nat.not_lt_zero i)))
    · skip   -- c0.F
      have hte : ¬ t < X.length := by simpa using hc0
      have hno : Runs.okRuns X = true := okRuns_all fun u p hu hx => hb u p (by omega) hx
      refine SV.exit ?_
      refine SV.te ?_
      refine SV.te ?_
      refine SV.bh ?_
      refine SV.tn ?_
      refine SV.seq' ?_
      refine SV.region ?_
      refine SV.op (OpL.ok (nb := 0) (ok_move (v := V.one (.sc _)) (.inr rfl) rfl) rfl (gle rfl)) rfl ?_
      refine SV.nil ?_
      refine SV.tn ?_
      refine SV.ret ?_
      apply SV.done (hf := Try.results47) (ht := rfl) (he := .inl rfl)
      case hr => exact (ResAll.cons (ResOk.tmp (ag := false) (xs := [.sc _]) rfl) ResAll.nil')
      case h2 => simp [two]
      refine ⟨rfl, ⟨?_, trivial⟩, trivial⟩ <;> (show some (T.lit (Value.bool _)) = some (T.lit (Value.bool _)); refine congrArg (fun z => some (T.lit (Value.bool z))) ?_; rw [hno])
end Go.Proofs.Ytfionajnoaednaa
/- The program's FlattenRuns: told by trees. -/
namespace Go.Proofs.Ytfionajnoaednaa
open Go Go.RowKit V
set_option linter.unusedVariables false
set_option maxRecDepth 100000 in
set_option maxHeartbeats 2000000 in
theorem vflat_i (X : List (List R)) (hW : ∀ p ∈ X, ∀ r ∈ p, r.wf) (hp : ∀ p ∈ X, p.length ≤ 1000000000) (hX : X.length ≤ 1048576) (hF : X.flatten.length ≤ 1000000000) : VC Try.prog 48 [(false, [.seq 63 ((X).map tRun)])] false [(false, [.seq 59 ((X.flatten).map tRow)])] := by
  refine VC.enter Try.func48 rfl Try.ntmps48 (gle rfl) fun E hE => ?_
  refine SV.seq' ?_
  refine SV.region ?_
  refine SV.op (OpL.ok (nb := 0) (ok_move (v := V.one (.sc _)) (.inr rfl) rfl) rfl (gle rfl)) rfl ?_
  refine SV.nil ?_
  refine SV.tn ?_
  refine SV.seq' ?_
  refine SV.region ?_
  refine SV.op (OpL.ok (nb := 0) (ok_move (v := V.one (.sc _)) (.inr rfl) rfl) rfl (gle rfl)) rfl ?_
  refine SV.nil ?_
  refine SV.tn ?_
  refine SV.seq' ?_
  refine SV.seq' ?_
  refine SV.region ?_
  refine SV.op (OpL.ok (nb := 0) (ok_move (v := V.one (.ro _)) (.inl rfl) rfl) rfl (gle rfl)) rfl ?_
  refine SV.op (OpL.ok (nb := 0) (ok_len (lf := .ro _) rfl elt_impl_Run.und rfl rfl) rfl (gle rfl)) rfl ?_
  refine SV.op (OpL.ok (nb := 0) (ok_move (v := V.one (.sc _)) (.inl rfl) rfl) rfl (gle rfl)) rfl ?_
  refine SV.nil ?_
  refine SV.tn ?_
  refine SV.block ?_
  refine SV.nlsc (s := 3) (kk := 0) (n := 3) rfl rfl (by decide) sz_impl_Row (gle rfl) ?_
  refine SV.loopF (X := Nat) (fun (σ : VS) t => ((((((VS.nil.new (.seq 59 ((X.take t).flatten.map tRow))).put 2 (σ.tm 2)).put 3 (V.flat false [.hd 0])).put 6 (σ.tm 6)).put 7 (σ.tm 7)).put 8 (V.flat false [.sc (.int .i64 ((t : Int)))]))) (fun t => t ≤ X.length) (fun t => X.length - t) ?_ ?_
  · skip
    refine SV.again (fun i => [0].getD i 0) 0 ((Nat.zero_le _)) (pins hE rfl rfl) (VS.le.mk' (le_put (le_put (le_put (le_put (le_put (le_new le_nil) (V.le.keep (ag := false) (xs := [.sc _]) (ys := [.sc _]) rfl rfl ⟨rfl, trivial⟩)) (V.le.keep (ag := false) (xs := [.hd 0]) (ys := [.hd 0]) rfl rfl ⟨⟨rfl, (gle rfl), (gle rfl)⟩, trivial⟩)) (V.le.keep (ag := false) (xs := [.ro _]) (ys := [.ro _]) rfl rfl ⟨rfl, trivial⟩)) (V.le.keep (ag := false) (xs := [.sc _]) (ys := [.sc _]) rfl rfl ⟨rfl, trivial⟩)) (V.le.keep (ag := false) (xs := [.sc _]) (ys := [.sc _]) rfl rfl ⟨(by first | rfl | (show Leaf.sc _ = Leaf.sc _; refine congrArg Leaf.sc ?_; first | rfl | go_num | (simp [cntAll]; done)) | (simp [cntAll]; done) | (simp; omega)), trivial⟩)) trivial ⟨.inr ⟨_, _, rfl, ?ob1_0, (gle rfl)⟩, trivial⟩ (new_ob nil_ob) (fun i j hi hj e => inj_list (l := [0]) (by decide) i j hi hj e))
    case ob1_0 =>
      show some (T.seq _ _) = some (T.seq _ _)
      rfl
  · rintro t ht
    have hfl := take_len X t
    refine SV.seq' ?_
    refine SV.region ?_
    refine SV.op (OpL.ok (nb := 0) (ok_s2 (x := .tmp 8) (x' := .tmp 7) (VScal.one rfl) (VScal.one rfl) (fun ρ h1 h2 w => by go_simp; (try go_bits); with_reducible rfl) rfl) rfl (gle rfl)) rfl ?_
    refine SV.nil ?_
    refine SV.tn ?_
    refine SV.seq' ?_
    refine SV.cond rfl (fun hc0 => ?_) (fun hc0 => ?_)
    · skip   -- c0.T
      have htl : t < X.length := by simpa using hc0
      obtain ⟨p, hx⟩ : ∃ p, X[t]? = some p := ⟨_, List.getElem?_eq_getElem htl⟩
      have hpl := Runs.mem_len (List.mem_of_getElem? hx)
      refine SV.skip ?_
      refine SV.tn ?_
      refine SV.seq' ?_
      refine SV.block ?_
      refine SV.seq' ?_
      refine SV.region ?_
      refine SV.op (OpL.ok (nb := 0) (ok_index (n := 1) (lf := .ro _) rfl elt_impl_Run.und sz_impl_Run rfl rfl rfl (map_at hx)) rfl (gle rfl)) rfl ?_
      refine SV.op (OpL.ok (nb := 0) (ok_load_rp (ag := true) (m := 1) (ys := [.ro _]) rfl rfl agg_impl_Run sz_impl_Run (fun h => by cases h) (gle rfl) rfl) rfl (gle rfl)) rfl ?_
      refine SV.op (OpMk.ok (ok_alloc (kk := 0) (xs := [.nl _]) rfl rfl zero_impl_Run ⟨rfl, ⟨3, by decide, sz_impl_Row⟩, trivial⟩ rfl (gle rfl))) rfl ?_
      refine SV.op (ok_store_bp (b := 0) (i := 0) (m := 1) (ag := true) (zs := [.ro _]) (ys := [.ro _]) rfl rfl rfl rfl sz_impl_Run (fun h => by cases h) rfl (gle rfl) rfl rfl rfl) rfl ?_
      refine SV.nil ?_
      refine SV.tn ?_
      refine SV.region ?_
      refine SV.op (OpL.ok (nb := 1) (ok_move (v := V.one (.hd 0)) (.inl rfl) rfl) rfl (gle rfl)) rfl ?_
      refine SV.op (OpL.ok (nb := 1) (ok_field_bp (b := 0) (o' := 0) (off := 0) rfl rfl fld_impl_Run_0) rfl (gle rfl)) rfl ?_
      refine SV.op (OpL.ok (nb := 1) (ok_load_bp (b := 0) (i := 0) (ag := false) (m := 1) (ys := [.ro _]) rfl rfl rfl agg_s_impl_Row sz_s_impl_Row (fun _ => rfl) rfl rfl (gle rfl)) rfl (gle rfl)) rfl ?_
      refine SV.op (OpMk.ok (ok_append_ro (kk := 1) elt_impl_Row (ls := .hd 0) (lx := .ro _) rfl rfl rfl rfl rfl rfl (flat_impl_Row _) (by first | omega | (simp only [List.length_map]; omega) | (simp; done) | (simp; omega)) rfl (gle rfl))) rfl ?_
      refine SV.op (OpL.ok (nb := 1) (ok_move (v := V.one (.hd 1)) (.inr rfl) rfl) rfl (gle rfl)) rfl ?_
      refine SV.nil ?_
      refine SV.bn ?_
      refine SV.tn ?_
      refine SV.region ?_
      refine SV.op (OpL.ok (nb := 1) (ok_s2 (x := .tmp 8) (x' := .const ((Value.int IntKind.i64 1))) (VScal.one rfl) (VScal.one rfl) (fun ρ h1 h2 w => by go_simp; (try go_bits); with_reducible rfl) rfl) rfl (gle rfl)) rfl ?_
      refine SV.op (OpL.ok (nb := 1) (ok_move (v := V.one (.sc _)) (.inl rfl) rfl) rfl (gle rfl)) rfl ?_
      refine SV.nil ?_
      refine SV.tn ?_
      refine SV.again (fun i => [1].getD i 0) (t + 1) (⟨by omega, by omega⟩) (pins hE rfl rfl) (VS.le.mk' (le_put (le_put (le_put (le_put (le_put (le_new le_nil) (V.le.keep (ag := false) (xs := [.sc _]) (ys := [.sc _]) rfl rfl ⟨rfl, trivial⟩)) (V.le.keep (ag := false) (xs := [.hd 1]) (ys := [.hd 0]) rfl rfl ⟨⟨rfl, (gle rfl), (gle rfl)⟩, trivial⟩)) (V.le.keep (ag := false) (xs := [.ro _]) (ys := [.ro _]) rfl rfl ⟨rfl, trivial⟩)) (V.le.keep (ag := false) (xs := [.sc _]) (ys := [.sc _]) rfl rfl ⟨rfl, trivial⟩)) (V.le.keep (ag := false) (xs := [.sc _]) (ys := [.sc _]) rfl rfl ⟨(by first | rfl | (show Leaf.sc _ = Leaf.sc _; refine congrArg Leaf.sc ?_; first | rfl | go_num | (simp [cntAll]; done)) | (simp [cntAll]; done) | (simp; omega)), trivial⟩)) trivial ⟨.inr ⟨_, _, rfl, ?ob2_0, (gle rfl)⟩, trivial⟩ (new_ob nil_ob) (fun i j hi hj e => inj_list (l := [1]) (by decide) i j hi hj e))
      case ob2_0 =>
        show some (T.seq _ _) = some (T.seq _ _)
        rw [take_flat hx]; first | done | rfl | (simp only [List.map_append]; rfl) | (simp; done)
    · skip   -- c0.F
      have hte : X.take t = X := List.take_of_length_le (by simp at hc0; omega)
      refine SV.exit ?_
      refine SV.te ?_
      refine SV.te ?_
      refine SV.bh ?_
      refine SV.tn ?_
      refine SV.seq' ?_
      refine SV.region ?_
      refine SV.op (OpL.ok (nb := 0) (ok_move (v := V.one (.hd 0)) (.inl rfl) rfl) rfl (gle rfl)) rfl ?_
      refine SV.op (OpL.ok (nb := 0) (ok_move (v := V.one (.hd 0)) (.inr rfl) rfl) rfl (gle rfl)) rfl ?_
      refine SV.nil ?_
      refine SV.tn ?_
      refine SV.ret ?_
      apply SV.done (hf := Try.results48) (ht := rfl) (he := .inl rfl)
      case hr => exact (ResAll.cons (ResOk.tmp (ag := false) (xs := [.hd 0]) rfl) ResAll.nil')
      case h2 => simp [two]
      refine ⟨rfl, ⟨?_, trivial⟩, trivial⟩ <;> (show some (T.seq _ _) = some (T.seq _ _); refine congrArg (fun z => some (T.seq _ z)) ?_; rw [hte])
end Go.Proofs.Ytfionajnoaednaa
/- The program's MergeRuns: told by trees. -/
namespace Go.Proofs.Ytfionajnoaednaa
open Go Go.RowKit V
set_option linter.unusedVariables false
theorem passes_wf {X : List (List R)} (hW : ∀ p ∈ X, ∀ r ∈ p, r.wf) (t : Nat) : ∀ p ∈ Runs.passes X t, ∀ r ∈ p, r.wf := fun p hp r hr => by
  obtain ⟨q, hq, h⟩ := List.mem_flatten.1 ((Runs.passes_perm X t).mem_iff.1 (List.mem_flatten.2 ⟨p, hp, hr⟩))
  exact hW q hq r h
theorem passes_small {X : List (List R)} (hF : X.flatten.length ≤ 1000000000) (t : Nat) : ∀ p ∈ Runs.passes X t, p.length ≤ 1000000000 := fun p hp => by
  have h1 := Runs.mem_len hp
  have h2 := (Runs.passes_perm X t).length_eq
  omega
set_option maxRecDepth 100000 in
set_option maxHeartbeats 2000000 in
theorem vmr_i (X : List (List R)) (hW : ∀ p ∈ X, ∀ r ∈ p, r.wf) (hp : ∀ p ∈ X, p.length ≤ 1000000000) (hX : X.length ≤ 1048576) (hF : X.flatten.length ≤ 1000000000) : VC Try.prog 13 [(false, [.seq 63 ((X).map tRun)])] true [(false, [.seq 59 ((mrows X).map tRow)]), (false, [.lit (.int .i64 (((mcount X : Nat) : Int)))]), (false, [.lit (.bool (Runs.okRuns X))])] := by
  refine VC.enter Try.func13 rfl Try.ntmps13 (gle rfl) fun E hE => ?_
  refine SV.seq' ?_
  refine SV.region ?_
  refine SV.op (OpL.ok (nb := 0) (ok_move (v := V.one (.sc _)) (.inr rfl) rfl) rfl (gle rfl)) rfl ?_
  refine SV.op (OpL.ok (nb := 0) (ok_move (v := V.one (.sc _)) (.inr rfl) rfl) rfl (gle rfl)) rfl ?_
  refine SV.op (OpL.ok (nb := 0) (ok_move (v := V.one (.sc _)) (.inr rfl) rfl) rfl (gle rfl)) rfl ?_
  refine SV.nil ?_
  refine SV.tn ?_
  refine SV.seq' ?_
  refine SV.seq' ?_
  refine SV.region ?_
  refine SV.op (OpL.ok (nb := 0) (ok_move (v := V.one (.ro _)) (.inl rfl) rfl) rfl (gle rfl)) rfl ?_
  refine SV.op (OpMk.ok (ok_call (ls := [(false, [.sc _])]) rfl rfl ⟨_, _, Try.func47, rfl, by decide⟩ (vokruns_i X hW hp hX hF) ⟨⟨[.ro _], rfl, ⟨rfl, trivial⟩⟩, trivial⟩ rfl (gle rfl))) rfl ?_
  refine SV.op (OpL.ok (nb := 0) (ok_s1 (x := .tmp 7) (VScal.one rfl) (fun ρ h1 w => by go_simp; (try go_bits); with_reducible rfl) rfl) rfl (gle rfl)) rfl ?_
  refine SV.nil ?_
  refine SV.tn ?_
  refine SV.cond rfl (fun hc0 => ?_) (fun hc0 => ?_)
  · skip   -- c0.T
    have ho : Runs.okRuns X = false := by simpa using hc0
    have hr : mrows X = [] := by unfold mrows; rw [if_neg (by rw [ho]; decide)]
    have hk : mcount X = 0 := by unfold mcount; rw [if_neg (by rw [ho]; decide)]
    refine SV.seq' ?_
    refine SV.region ?_
    refine SV.op (OpL.ok (nb := 0) (ok_move (v := V.one (.sc _)) (.inr rfl) rfl) rfl (gle rfl)) rfl ?_
    refine SV.op (OpL.ok (nb := 0) (ok_move (v := V.one (.sc _)) (.inr rfl) rfl) rfl (gle rfl)) rfl ?_
    refine SV.op (OpL.ok (nb := 0) (ok_move (v := V.one (.sc _)) (.inr rfl) rfl) rfl (gle rfl)) rfl ?_
    refine SV.nil ?_
    refine SV.tn ?_
    refine SV.ret ?_
    refine SV.tr ?_
    refine SV.nlsc (s := 2) (kk := 0) (n := 3) rfl rfl (by decide) sz_impl_Row (gle rfl) ?_
    apply SV.done (hf := Try.results13) (ht := rfl) (he := .inr rfl)
    case hr => exact (ResAll.cons (ResOk.tmp (ag := false) (xs := [.hd 0]) rfl) (ResAll.cons (ResOk.tmp (ag := false) (xs := [.sc _]) rfl) (ResAll.cons (ResOk.tmp (ag := false) (xs := [.sc _]) rfl) ResAll.nil')))
    case h2 => simp [two]
    refine ⟨rfl, ⟨?_, trivial⟩, ⟨rfl, ⟨?_, trivial⟩, ⟨rfl, ⟨?_, trivial⟩, trivial⟩⟩⟩ <;> first | rfl | ((show some (T.seq _ _) = some (T.seq _ _); refine congrArg (fun z => some (T.seq _ z)) ?_; rw [hr]; first | done | rfl)) | ((show some (T.lit (Value.int .i64 _)) = some (T.lit (Value.int .i64 _)); refine congrArg (fun z => some (T.lit (Value.int .i64 z))) ?_; rw [hk]; first | done | rfl)) | ((show some (T.lit (Value.int .i64 _)) = some (T.lit (Value.int .i64 _)); refine congrArg (fun z => some (T.lit (Value.int .i64 z))) ?_; rw [hk]; simp)) | ((show some (T.lit (Value.bool _)) = some (T.lit (Value.bool _)); refine congrArg (fun z => some (T.lit (Value.bool z))) ?_; rw [ho])) | ((show some (T.lit (Value.bool _)) = some (T.lit (Value.bool _)); refine congrArg (fun z => some (T.lit (Value.bool z))) ?_; first | (rw [ho]; done) | (simp [ho]; done)))
  · skip   -- c0.F
    have ho : Runs.okRuns X = true := by simpa using hc0
    refine SV.skip ?_
    refine SV.tn ?_
    refine SV.seq' ?_
    refine SV.region ?_
    refine SV.op (OpL.ok (nb := 0) (ok_move (v := V.one (.sc _)) (.inr rfl) rfl) rfl (gle rfl)) rfl ?_
    refine SV.nil ?_
    refine SV.tn ?_
    refine SV.seq' ?_
    refine SV.block ?_
    refine SV.loopF (X := Option Nat) (fun (σ : VS) x => match x with | none => (((((VS.nil.put 0 (σ.tm 0)).put 2 (σ.tm 2)).put 3 (σ.tm 3)).put 4 (σ.tm 4)).put 5 (V.flat false [.sc (.int .i64 ((0 : Int)))])) | some y => ((((((VS.nil.new (.seq 63 ((Runs.passes X y).map tRun))).put 0 (V.flat false [.hd 0])).put 2 (σ.tm 2)).put 3 (σ.tm 3)).put 4 (σ.tm 4)).put 5 (V.flat false [.sc (.int .i64 ((y : Int)))]))) (fun x => Runs.npass X.length = x.getD 0 + Runs.npass (Runs.passes X (x.getD 0)).length ∧ (x.isSome = true → 0 < (Runs.passes X (x.getD 0)).length)) (fun x => (Runs.passes X (x.getD 0)).length) ?_ ?_
    · skip
      refine SV.again (fun i => [].getD i 0) none (⟨by show _ = 0 + _; rw [Nat.zero_add]; rfl, fun h => by cases h⟩) (pins hE rfl rfl) (VS.le.mk' (le_put (le_put (le_put (le_put (le_put le_nil (V.le.keep (ag := false) (xs := [.ro _]) (ys := [.ro _]) rfl rfl ⟨rfl, trivial⟩)) (V.le.keep (ag := false) (xs := [.sc _]) (ys := [.sc _]) rfl rfl ⟨rfl, trivial⟩)) (V.le.keep (ag := false) (xs := [.sc _]) (ys := [.sc _]) rfl rfl ⟨rfl, trivial⟩)) (V.le.keep (ag := false) (xs := [.sc _]) (ys := [.sc _]) rfl rfl ⟨rfl, trivial⟩)) (V.le.keep (ag := false) (xs := [.sc _]) (ys := [.sc _]) rfl rfl ⟨(by first | rfl | (show Leaf.sc _ = Leaf.sc _; refine congrArg Leaf.sc ?_; first | rfl | go_num | (first | rfl | (simp; done); first | done | rfl | go_num | (simp; done) | (simp; omega)) | (simp [cntAll]; done)) | (simp [cntAll]; done) | (simp; omega)), trivial⟩)) trivial trivial nil_ob (fun i j hi hj e => absurd hi (Nat.not_lt_zero i)))
    · rintro x hinv
      cases x with
      | none =>
        have hq : Runs.npass X.length = 0 + Runs.npass (Runs.passes X 0).length := hinv.1
        refine SV.seq' ?_
        refine SV.seq' ?_
        refine SV.region ?_
        refine SV.op (OpL.ok (nb := 0) (ok_move (v := V.one (.ro _)) (.inl rfl) rfl) rfl (gle rfl)) rfl ?_
        refine SV.op (OpL.ok (nb := 0) (ok_len (lf := .ro _) rfl elt_impl_Run.und rfl rfl) rfl (gle rfl)) rfl ?_
        refine SV.op (OpL.ok (nb := 0) (ok_s2 (x := .tmp 10) (x' := .const ((Value.int IntKind.i64 1))) (VScal.one rfl) (VScal.one rfl) (fun ρ h1 h2 w => by go_simp; (try go_bits); with_reducible rfl) rfl) rfl (gle rfl)) rfl ?_
        refine SV.nil ?_
        refine SV.tn ?_
        refine SV.cond rfl (fun hc1 => ?_) (fun hc1 => ?_)
        · skip   -- c1.T
          have h1 : 1 < (Runs.passes X 0).length := by show 1 < X.length; simp at hc1; omega
          have hn1 : (Runs.npass X.length = (0 + 1) + Runs.npass (Runs.passes X (0 + 1)).length ∧ ((some (0 + 1)).isSome = true → 0 < (Runs.passes X (0 + 1)).length)) ∧ (Runs.passes X (0 + 1)).length < (Runs.passes X 0).length := by
            have hl := Runs.pass_len (Runs.passes X 0)
            have e : Runs.passes X (0 + 1) = Runs.pass (Runs.passes X 0) := rfl
            refine ⟨⟨Runs.npass_step hq h1, fun _ => ?_⟩, ?_⟩ <;> (rw [e, hl]; omega)
          refine SV.skip ?_
          refine SV.tn ?_
          refine SV.block ?_
          refine SV.seq' ?_
          refine SV.region ?_
          refine SV.op (OpL.ok (nb := 0) (ok_move (v := V.one (.ro _)) (.inl rfl) rfl) rfl (gle rfl)) rfl ?_
          refine SV.op (OpMk.ok (ok_call (ls := [(false, [.hd 0])]) rfl rfl ⟨_, _, Try.func16, rfl, by decide⟩ (vpass_i X hW hp hX hF) ⟨⟨[.ro _], rfl, ⟨rfl, trivial⟩⟩, trivial⟩ rfl (gle rfl))) rfl ?_
          refine SV.op (OpL.ok (nb := 0) (ok_move (v := V.one (.hd 0)) (.inr rfl) rfl) rfl (gle rfl)) rfl ?_
          refine SV.nil ?_
          refine SV.tn ?_
          refine SV.region ?_
          refine SV.op (OpL.ok (nb := 0) (ok_move (v := V.one (.sc _)) (.inl rfl) rfl) rfl (gle rfl)) rfl ?_
          refine SV.op (OpL.ok (nb := 0) (ok_s2 (x := .tmp 14) (x' := .const ((Value.int IntKind.i64 1))) (VScal.one rfl) (VScal.one rfl) (fun ρ h1 h2 w => by go_simp; (try go_bits); with_reducible rfl) rfl) rfl (gle rfl)) rfl ?_
          refine SV.op (OpL.ok (nb := 0) (ok_move (v := V.one (.sc _)) (.inr rfl) rfl) rfl (gle rfl)) rfl ?_
          refine SV.nil ?_
          refine SV.bn ?_
          refine SV.tn ?_
          refine SV.again (fun i => [0].getD i 0) (some 1) (hn1) (pins hE rfl rfl) (VS.le.mk' (le_put (le_put (le_put (le_put (le_put (le_new le_nil) (V.le.keep (ag := false) (xs := [.hd 0]) (ys := [.hd 0]) rfl rfl ⟨⟨rfl, (gle rfl), (gle rfl)⟩, trivial⟩)) (V.le.keep (ag := false) (xs := [.sc _]) (ys := [.sc _]) rfl rfl ⟨rfl, trivial⟩)) (V.le.keep (ag := false) (xs := [.sc _]) (ys := [.sc _]) rfl rfl ⟨rfl, trivial⟩)) (V.le.keep (ag := false) (xs := [.sc _]) (ys := [.sc _]) rfl rfl ⟨rfl, trivial⟩)) (V.le.keep (ag := false) (xs := [.sc _]) (ys := [.sc _]) rfl rfl ⟨(by first | rfl | (show Leaf.sc _ = Leaf.sc _; refine congrArg Leaf.sc ?_; first | rfl | go_num | (first | rfl | (simp; done); first | done | rfl | go_num | (simp; done) | (simp; omega)) | (simp [cntAll]; done)) | (simp [cntAll]; done) | (simp; omega)), trivial⟩)) trivial ⟨.inr ⟨_, _, rfl, ?ob2_0, (gle rfl)⟩, trivial⟩ (new_ob nil_ob) (fun i j hi hj e => inj_list (l := [0]) (by decide) i j hi hj e))
          case ob2_0 =>
            show some (T.seq _ _) = some (T.seq _ _)
            rfl
        · skip   -- c1.F
          have h1 : (Runs.passes X 0).length ≤ 1 := by show X.length ≤ 1; simp at hc1; omega
          obtain ⟨hr, hk⟩ := mrows_end ho hq h1
          replace hr : mrows X = X.flatten := hr
          refine SV.exit ?_
          refine SV.te ?_
          refine SV.te ?_
          refine SV.bh ?_
          refine SV.tn ?_
          refine SV.seq' ?_
          refine SV.region ?_
          refine SV.op (OpL.ok (nb := 0) (ok_move (v := V.one (.ro _)) (.inl rfl) rfl) rfl (gle rfl)) rfl ?_
          refine SV.op (OpMk.ok (ok_call (ls := [(false, [.hd 0])]) rfl rfl ⟨_, _, Try.func48, rfl, by decide⟩ (vflat_i X hW hp hX hF) ⟨⟨[.ro _], rfl, ⟨rfl, trivial⟩⟩, trivial⟩ rfl (gle rfl))) rfl ?_
          refine SV.op (OpL.ok (nb := 0) (ok_move (v := V.one (.sc _)) (.inl rfl) rfl) rfl (gle rfl)) rfl ?_
          refine SV.op (OpL.ok (nb := 0) (ok_move (v := V.one (.hd 0)) (.inr rfl) rfl) rfl (gle rfl)) rfl ?_
          refine SV.op (OpL.ok (nb := 0) (ok_move (v := V.one (.sc _)) (.inr rfl) rfl) rfl (gle rfl)) rfl ?_
          refine SV.op (OpL.ok (nb := 0) (ok_move (v := V.one (.sc _)) (.inr rfl) rfl) rfl (gle rfl)) rfl ?_
          refine SV.nil ?_
          refine SV.tn ?_
          refine SV.ret ?_
          apply SV.done (hf := Try.results13) (ht := rfl) (he := .inl rfl)
          case hr => exact (ResAll.cons (ResOk.tmp (ag := false) (xs := [.hd 0]) rfl) (ResAll.cons (ResOk.tmp (ag := false) (xs := [.sc _]) rfl) (ResAll.cons (ResOk.tmp (ag := false) (xs := [.sc _]) rfl) ResAll.nil')))
          case h2 => simp [two]
          refine ⟨rfl, ⟨?_, trivial⟩, ⟨rfl, ⟨?_, trivial⟩, ⟨rfl, ⟨?_, trivial⟩, trivial⟩⟩⟩ <;> first | rfl | ((show some (T.seq _ _) = some (T.seq _ _); refine congrArg (fun z => some (T.seq _ z)) ?_; rw [hr]; first | done | rfl)) | ((show some (T.lit (Value.int .i64 _)) = some (T.lit (Value.int .i64 _)); refine congrArg (fun z => some (T.lit (Value.int .i64 z))) ?_; rw [hk]; first | done | rfl)) | ((show some (T.lit (Value.int .i64 _)) = some (T.lit (Value.int .i64 _)); refine congrArg (fun z => some (T.lit (Value.int .i64 z))) ?_; rw [hk]; simp)) | ((show some (T.lit (Value.bool _)) = some (T.lit (Value.bool _)); refine congrArg (fun z => some (T.lit (Value.bool z))) ?_; rw [ho])) | ((show some (T.lit (Value.bool _)) = some (T.lit (Value.bool _)); refine congrArg (fun z => some (T.lit (Value.bool z))) ?_; first | (rw [ho]; done) | (simp [ho]; done)))
      | some y =>
        have hns := npass_self X.length
        have hq : Runs.npass X.length = y + Runs.npass (Runs.passes X y).length := hinv.1
        have h0 : 0 < (Runs.passes X y).length := hinv.2 rfl
        have hple := passes_le X y
        have hpf := (Runs.passes_perm X y).length_eq
        refine SV.seq' ?_
        refine SV.seq' ?_
        refine SV.region ?_
        refine SV.op (OpL.ok (nb := 0) (ok_move (v := V.one (.hd 0)) (.inl rfl) rfl) rfl (gle rfl)) rfl ?_
        refine SV.op (OpL.ok (nb := 0) (ok_len (lf := .hd 0) rfl elt_impl_Run.und rfl rfl) rfl (gle rfl)) rfl ?_
        refine SV.op (OpL.ok (nb := 0) (ok_s2 (x := .tmp 10) (x' := .const ((Value.int IntKind.i64 1))) (VScal.one rfl) (VScal.one rfl) (fun ρ h1 h2 w => by go_simp; (try go_bits); with_reducible rfl) rfl) rfl (gle rfl)) rfl ?_
        refine SV.nil ?_
        refine SV.tn ?_
        refine SV.cond rfl (fun hc2 => ?_) (fun hc2 => ?_)
        · skip   -- c2.T
          have h1 : 1 < (Runs.passes X y).length := by simp at hc2; omega
          have hn1 : (Runs.npass X.length = (y + 1) + Runs.npass (Runs.passes X (y + 1)).length ∧ ((some (y + 1)).isSome = true → 0 < (Runs.passes X (y + 1)).length)) ∧ (Runs.passes X (y + 1)).length < (Runs.passes X y).length := by
            have hl := Runs.pass_len (Runs.passes X y)
            have e : Runs.passes X (y + 1) = Runs.pass (Runs.passes X y) := rfl
            refine ⟨⟨Runs.npass_step hq h1, fun _ => ?_⟩, ?_⟩ <;> (rw [e, hl]; omega)
          refine SV.skip ?_
          refine SV.tn ?_
          refine SV.block ?_
          refine SV.seq' ?_
          refine SV.region ?_
          refine SV.op (OpL.ok (nb := 0) (ok_move (v := V.one (.hd 0)) (.inl rfl) rfl) rfl (gle rfl)) rfl ?_
          refine SV.op (OpMk.ok (ok_call (ls := [(false, [.hd 1])]) rfl rfl ⟨_, _, Try.func16, rfl, by decide⟩ (vpass_i (Runs.passes X y) (passes_wf hW y) (passes_small hF y) (by omega) (by omega)) ⟨⟨[.hd 0], rfl, ⟨rfl, trivial⟩⟩, trivial⟩ rfl (gle rfl))) rfl ?_
          refine SV.op (OpL.ok (nb := 0) (ok_move (v := V.one (.hd 1)) (.inr rfl) rfl) rfl (gle rfl)) rfl ?_
          refine SV.nil ?_
          refine SV.tn ?_
          refine SV.region ?_
          refine SV.op (OpL.ok (nb := 0) (ok_move (v := V.one (.sc _)) (.inl rfl) rfl) rfl (gle rfl)) rfl ?_
          refine SV.op (OpL.ok (nb := 0) (ok_s2 (x := .tmp 14) (x' := .const ((Value.int IntKind.i64 1))) (VScal.one rfl) (VScal.one rfl) (fun ρ h1 h2 w => by go_simp; (try go_bits); with_reducible rfl) rfl) rfl (gle rfl)) rfl ?_
          refine SV.op (OpL.ok (nb := 0) (ok_move (v := V.one (.sc _)) (.inr rfl) rfl) rfl (gle rfl)) rfl ?_
          refine SV.nil ?_
          refine SV.bn ?_
          refine SV.tn ?_
          refine SV.again (fun i => [1].getD i 0) (some (y + 1)) (hn1) (pins hE rfl rfl) (VS.le.mk' (le_put (le_put (le_put (le_put (le_put (le_new le_nil) (V.le.keep (ag := false) (xs := [.hd 1]) (ys := [.hd 0]) rfl rfl ⟨⟨rfl, (gle rfl), (gle rfl)⟩, trivial⟩)) (V.le.keep (ag := false) (xs := [.sc _]) (ys := [.sc _]) rfl rfl ⟨rfl, trivial⟩)) (V.le.keep (ag := false) (xs := [.sc _]) (ys := [.sc _]) rfl rfl ⟨rfl, trivial⟩)) (V.le.keep (ag := false) (xs := [.sc _]) (ys := [.sc _]) rfl rfl ⟨rfl, trivial⟩)) (V.le.keep (ag := false) (xs := [.sc _]) (ys := [.sc _]) rfl rfl ⟨(by first | rfl | (show Leaf.sc _ = Leaf.sc _; refine congrArg Leaf.sc ?_; first | rfl | go_num | (first | rfl | (simp; done); first | done | rfl | go_num | (simp; done) | (simp; omega)) | (simp [cntAll]; done)) | (simp [cntAll]; done) | (simp; omega)), trivial⟩)) trivial ⟨.inr ⟨_, _, rfl, ?ob3_0, (gle rfl)⟩, trivial⟩ (new_ob nil_ob) (fun i j hi hj e => inj_list (l := [1]) (by decide) i j hi hj e))
          case ob3_0 =>
            show some (T.seq _ _) = some (T.seq _ _)
            rfl
        · skip   -- c2.F
          have h1 : (Runs.passes X y).length ≤ 1 := by simp at hc2; omega
          obtain ⟨hr, hk⟩ := mrows_end ho hq h1
          refine SV.exit ?_
          refine SV.te ?_
          refine SV.te ?_
          refine SV.bh ?_
          refine SV.tn ?_
          refine SV.seq' ?_
          refine SV.region ?_
          refine SV.op (OpL.ok (nb := 0) (ok_move (v := V.one (.hd 0)) (.inl rfl) rfl) rfl (gle rfl)) rfl ?_
          refine SV.op (OpMk.ok (ok_call (ls := [(false, [.hd 1])]) rfl rfl ⟨_, _, Try.func48, rfl, by decide⟩ (vflat_i (Runs.passes X y) (passes_wf hW y) (passes_small hF y) (by omega) (by omega)) ⟨⟨[.hd 0], rfl, ⟨rfl, trivial⟩⟩, trivial⟩ rfl (gle rfl))) rfl ?_
          refine SV.op (OpL.ok (nb := 0) (ok_move (v := V.one (.sc _)) (.inl rfl) rfl) rfl (gle rfl)) rfl ?_
          refine SV.op (OpL.ok (nb := 0) (ok_move (v := V.one (.hd 1)) (.inr rfl) rfl) rfl (gle rfl)) rfl ?_
          refine SV.op (OpL.ok (nb := 0) (ok_move (v := V.one (.sc _)) (.inr rfl) rfl) rfl (gle rfl)) rfl ?_
          refine SV.op (OpL.ok (nb := 0) (ok_move (v := V.one (.sc _)) (.inr rfl) rfl) rfl (gle rfl)) rfl ?_
          refine SV.nil ?_
          refine SV.tn ?_
          refine SV.ret ?_
          apply SV.done (hf := Try.results13) (ht := rfl) (he := .inl rfl)
          case hr => exact (ResAll.cons (ResOk.tmp (ag := false) (xs := [.hd 1]) rfl) (ResAll.cons (ResOk.tmp (ag := false) (xs := [.sc _]) rfl) (ResAll.cons (ResOk.tmp (ag := false) (xs := [.sc _]) rfl) ResAll.nil')))
          case h2 => simp [two]
          refine ⟨rfl, ⟨?_, trivial⟩, ⟨rfl, ⟨?_, trivial⟩, ⟨rfl, ⟨?_, trivial⟩, trivial⟩⟩⟩ <;> first | rfl | ((show some (T.seq _ _) = some (T.seq _ _); refine congrArg (fun z => some (T.seq _ z)) ?_; rw [hr]; first | done | rfl)) | ((show some (T.lit (Value.int .i64 _)) = some (T.lit (Value.int .i64 _)); refine congrArg (fun z => some (T.lit (Value.int .i64 z))) ?_; rw [hk]; first | done | rfl)) | ((show some (T.lit (Value.int .i64 _)) = some (T.lit (Value.int .i64 _)); refine congrArg (fun z => some (T.lit (Value.int .i64 z))) ?_; rw [hk]; simp)) | ((show some (T.lit (Value.bool _)) = some (T.lit (Value.bool _)); refine congrArg (fun z => some (T.lit (Value.bool z))) ?_; rw [ho])) | ((show some (T.lit (Value.bool _)) = some (T.lit (Value.bool _)); refine congrArg (fun z => some (T.lit (Value.bool z))) ?_; first | (rw [ho]; done) | (simp [ho]; done)))
end Go.Proofs.Ytfionajnoaednaa
/- The program's MergePasses: told by trees. -/
namespace Go.Proofs.Ytfionajnoaednaa
open Go Go.RowKit V
set_option linter.unusedVariables false
set_option maxRecDepth 100000 in
set_option maxHeartbeats 2000000 in
theorem vmp_i (n : Int) : VC Try.prog 25 [(false, [.lit (.int .i64 (n))])] false [(false, [.lit (.int .i64 (((Runs.mpass n : Nat) : Int)))])] := by
  refine VC.enter Try.func25 rfl Try.ntmps25 (gle rfl) fun E hE => ?_
  refine SV.seq' ?_
  refine SV.region ?_
  refine SV.op (OpL.ok (nb := 0) (ok_move (v := V.one (.sc _)) (.inr rfl) rfl) rfl (gle rfl)) rfl ?_
  refine SV.nil ?_
  refine SV.tn ?_
  refine SV.seq' ?_
  refine SV.region ?_
  refine SV.op (OpL.ok (nb := 0) (ok_move (v := V.one (.sc _)) (.inr rfl) rfl) rfl (gle rfl)) rfl ?_
  refine SV.nil ?_
  refine SV.tn ?_
  refine SV.seq' ?_
  refine SV.block ?_
  refine SV.loopF (X := Nat) (fun (σ : VS) t => (((VS.nil.put 0 (σ.tm 0)).put 2 (σ.tm 2)).put 3 (V.flat false [.sc (.int .i64 ((t : Int)))]))) (fun t => t ≤ 40 ∧ Runs.dbl n (40 - t) t = Runs.mpass n) (fun t => 40 - t) ?_ ?_
  · skip
    refine SV.again (fun i => [].getD i 0) 0 (⟨Nat.zero_le _, rfl⟩) (pins hE rfl rfl) (VS.le.mk' (le_put (le_put (le_put le_nil (V.le.keep (ag := false) (xs := [.sc _]) (ys := [.sc _]) rfl rfl ⟨rfl, trivial⟩)) (V.le.keep (ag := false) (xs := [.sc _]) (ys := [.sc _]) rfl rfl ⟨rfl, trivial⟩)) (V.le.keep (ag := false) (xs := [.sc _]) (ys := [.sc _]) rfl rfl ⟨(by first | rfl | (show Leaf.sc _ = Leaf.sc _; refine congrArg Leaf.sc ?_; first | rfl | go_num | (first | rfl | (simp; done); first | done | rfl | go_num | (simp; done) | (simp; omega)) | (simp [cntAll]; done)) | (simp [cntAll]; done) | (simp; omega)), trivial⟩)) trivial trivial nil_ob (fun i j hi hj e => absurd hi (Nat.not_lt_zero i)))
  · rintro t ⟨ht, hd⟩
    have hp0 : (0 : Int) < (2 : Int) ^ t := Int.pow_pos (by decide)
    refine SV.seq' ?_
    refine SV.seq' ?_
    refine SV.region ?_
    refine SV.op (OpL.ok (nb := 0) (ok_move (v := V.one (.sc _)) (.inl rfl) rfl) rfl (gle rfl)) rfl ?_
    refine SV.op (OpL.ok (nb := 0) (ok_s2 (x := .tmp 4) (x' := .const ((Value.int IntKind.i64 40))) (VScal.one rfl) (VScal.one rfl) (fun ρ h1 h2 w => by go_simp; (try go_bits); with_reducible rfl) rfl) rfl (gle rfl)) rfl ?_
    refine SV.op (OpL.ok (nb := 0) (ok_move (v := V.one (.sc _)) (.inl rfl) rfl) rfl (gle rfl)) rfl ?_
    refine SV.split (d := 6) rfl (fun hg0 => ?_) (fun hg0 => ?_)
    · skip   -- g0.T
      have htl : t < 40 := by simp at hg0; omega
      have hp1 : (2 : Int) ^ t ≤ (2 : Int) ^ 40 := by exact_mod_cast Nat.pow_le_pow_right (by decide : 0 < 2) ht
      have hp2 : (2 : Int) ^ 40 = 1099511627776 := by decide
      refine SV.opY (OpL.ok (nb := 0) (ok_move (v := V.one (.sc _)) (.inl rfl) rfl) rfl (gle rfl)) rfl rfl rfl (gle rfl) rfl rfl ?_
      refine SV.opY (OpL.ok (nb := 0) (ok_s2 (v := .int .i64 ((2 : Int) ^ t)) (x := .const ((Value.int IntKind.i64 1))) (x' := .tmp 7) (VScal.one rfl) (VScal.one rfl) (fun ρ h1 h2 w => by go_simp; rw [IntWalk.i64_left, IntWalk.wrap64_in _ ⟨by omega, by omega⟩]) rfl) rfl (gle rfl)) rfl rfl rfl (gle rfl) rfl rfl ?_
      refine SV.opY (OpL.ok (nb := 0) (ok_move (v := V.one (.sc _)) (.inl rfl) rfl) rfl (gle rfl)) rfl rfl rfl (gle rfl) rfl rfl ?_
      refine SV.opY (OpL.ok (nb := 0) (ok_s2 (x := .tmp 8) (x' := .tmp 9) (VScal.one rfl) (VScal.one rfl) (fun ρ h1 h2 w => by go_simp; (try go_bits); with_reducible rfl) rfl) rfl (gle rfl)) rfl rfl rfl (gle rfl) rfl rfl ?_
      refine SV.op (OpL.ok (nb := 0) (ok_pickT (v := V.one (.sc _)) rfl rfl rfl) rfl (gle rfl)) rfl ?_
      refine SV.nil ?_
      refine SV.tn ?_
      refine SV.cond rfl (fun hc0 => ?_) (fun hc0 => ?_)
      · skip   -- c0.T
        have hlt : (2 : Int) ^ t < n := by simpa using hc0
        refine SV.skip ?_
        refine SV.tn ?_
        refine SV.block ?_
        refine SV.region ?_
        refine SV.op (OpL.ok (nb := 0) (ok_move (v := V.one (.sc _)) (.inl rfl) rfl) rfl (gle rfl)) rfl ?_
        refine SV.op (OpL.ok (nb := 0) (ok_s2 (x := .tmp 12) (x' := .const ((Value.int IntKind.i64 1))) (VScal.one rfl) (VScal.one rfl) (fun ρ h1 h2 w => by go_simp; (try go_bits); with_reducible rfl) rfl) rfl (gle rfl)) rfl ?_
        refine SV.op (OpL.ok (nb := 0) (ok_move (v := V.one (.sc _)) (.inr rfl) rfl) rfl (gle rfl)) rfl ?_
        refine SV.nil ?_
        refine SV.bn ?_
        refine SV.tn ?_
        refine SV.again (fun i => [].getD i 0) (t + 1) (⟨⟨by omega, by rw [← hd, Runs.dbl_go htl hlt]⟩, by omega⟩) (pins hE rfl rfl) (VS.le.mk' (le_put (le_put (le_put le_nil (V.le.keep (ag := false) (xs := [.sc _]) (ys := [.sc _]) rfl rfl ⟨rfl, trivial⟩)) (V.le.keep (ag := false) (xs := [.sc _]) (ys := [.sc _]) rfl rfl ⟨rfl, trivial⟩)) (V.le.keep (ag := false) (xs := [.sc _]) (ys := [.sc _]) rfl rfl ⟨(by first | rfl | (show Leaf.sc _ = Leaf.sc _; refine congrArg Leaf.sc ?_; first | rfl | go_num | (first | rfl | (simp; done); first | done | rfl | go_num | (simp; done) | (simp; omega)) | (simp [cntAll]; done)) | (simp [cntAll]; done) | (simp; omega)), trivial⟩)) trivial trivial nil_ob (fun i j hi hj e => absurd hi (Nat.not_lt_zero i)))
      · skip   -- c0.F
        have hend : Runs.mpass n = t := by rw [← hd]; exact Runs.dbl_stop ht (.inr (by simpa using hc0))
        refine SV.exit ?_
        refine SV.te ?_
        refine SV.te ?_
        refine SV.bh ?_
        refine SV.tn ?_
        refine SV.seq' ?_
        refine SV.region ?_
        refine SV.op (OpL.ok (nb := 0) (ok_move (v := V.one (.sc _)) (.inl rfl) rfl) rfl (gle rfl)) rfl ?_
        refine SV.op (OpL.ok (nb := 0) (ok_move (v := V.one (.sc _)) (.inr rfl) rfl) rfl (gle rfl)) rfl ?_
        refine SV.nil ?_
        refine SV.tn ?_
        refine SV.ret ?_
        apply SV.done (hf := Try.results25) (ht := rfl) (he := .inl rfl)
        case hr => exact (ResAll.cons (ResOk.tmp (ag := false) (xs := [.sc _]) rfl) ResAll.nil')
        case h2 => simp [two]
        refine ⟨rfl, ⟨?_, trivial⟩, trivial⟩ <;> (show some (T.lit (Value.int .i64 _)) = some (T.lit (Value.int .i64 _)); refine congrArg (fun z => some (T.lit (Value.int .i64 z))) ?_; rw [hend])
    · skip   -- g0.F
      have hend : Runs.mpass n = t := by rw [← hd]; exact Runs.dbl_stop ht (.inl (by simp at hg0; omega))
      refine SV.opN rfl rfl rfl (gle rfl) rfl rfl rfl (gle rfl) ?_
      refine SV.opN rfl rfl rfl (gle rfl) rfl rfl rfl (gle rfl) ?_
      refine SV.opN rfl rfl rfl (gle rfl) rfl rfl rfl (gle rfl) ?_
      refine SV.opN rfl rfl rfl (gle rfl) rfl rfl rfl (gle rfl) ?_
      refine SV.op (OpL.ok (nb := 0) (ok_pickF (v := V.one (.sc _)) rfl rfl rfl) rfl (gle rfl)) rfl ?_
      refine SV.nil ?_
      refine SV.tn ?_
      refine SV.cond rfl (fun hc1 => ?_) (fun hc1 => ?_)
      · skip   -- c1.T
        cases hc1
      · skip   -- c1.F
        refine SV.exit ?_
        refine SV.te ?_
        refine SV.te ?_
        refine SV.bh ?_
        refine SV.tn ?_
        refine SV.seq' ?_
        refine SV.region ?_
        refine SV.op (OpL.ok (nb := 0) (ok_move (v := V.one (.sc _)) (.inl rfl) rfl) rfl (gle rfl)) rfl ?_
        refine SV.op (OpL.ok (nb := 0) (ok_move (v := V.one (.sc _)) (.inr rfl) rfl) rfl (gle rfl)) rfl ?_
        refine SV.nil ?_
        refine SV.tn ?_
        refine SV.ret ?_
        apply SV.done (hf := Try.results25) (ht := rfl) (he := .inl rfl)
        case hr => exact (ResAll.cons (ResOk.tmp (ag := false) (xs := [.sc _]) rfl) ResAll.nil')
        case h2 => simp [two]
        refine ⟨rfl, ⟨?_, trivial⟩, trivial⟩ <;> (show some (T.lit (Value.int .i64 _)) = some (T.lit (Value.int .i64 _)); refine congrArg (fun z => some (T.lit (Value.int .i64 z))) ?_; rw [hend])
end Go.Proofs.Ytfionajnoaednaa
/- The law of merging: told by trees. -/
namespace Go.Proofs.Ytfionajnoaednaa
open Go Go.RowKit V
set_option linter.unusedVariables false
theorem vlaw (ad : Option Addr) (len cap : Nat) (zs : List Int) : VCP (fun w => Code ad len cap zs w) Try.prog 3 [(false, [.lit (.slice ad len cap)])] false [(false, [.lit (.bool true)])] := vlaw_merge ad len cap zs vms_i vmr_i vpass_i vmp_i vasc_i
end Go.Proofs.Ytfionajnoaednaa
/- States told by trees: arguments, from their reading to their trees; no function of program or reference is walked here. -/
namespace Go.Proofs.Ytfionajnoaednaa
open Go Go.ChangeShapes Go.WideShapes Go.RowKit Go.Deep Go.Joins V
set_option linter.unusedVariables false
def OpensT (A : TypeId) {α : Type} (n : Nat) (tf : α → List T) (ok : α → Prop) : Prop :=
  ∀ (H : Type) (enc : TypeId × Value → H) (w : World) (spare : Nat → Bool) (held : Bool) (fuel : Nat) (cs : List Value) (x : DataW H × List MemPlace), DataW.trod enc Try.prog w 0 spare held fuel A cs = some x → cs.length = n → ∃ y : α, ok y ∧ (tf y).length = n ∧ ∀ (j : Nat) (t : T) (u : Value), (tf y)[j]? = some t → cs[j]? = some u → Inn (fun b => b < w.heap.size) w t u
set_option maxRecDepth 100000 in
theorem OpensT.seq {A e : TypeId} {α : Type} {n : Nat} {tf : α → List T} {ok : α → Prop} (ht : Try.prog.underlying A = some (.slice e)) (hc : Try.prog.cellsOf e = n) (hp : 0 < n) (hz : Sz e n) (hO : OpensT e n tf ok) : OpensT A 1 (fun X : List α => [.seq e (X.map tf)]) (fun X => (∀ x ∈ X, ok x) ∧ X.length ≤ maxLen) := by
  intro H enc w spare held fuel cs x h _
  have emp : ∀ (a : Option Addr) (c : Nat), c ≤ maxLen → (a = none → c = 0) → ∃ y : List α, ((∀ x ∈ y, ok x) ∧ y.length ≤ maxLen) ∧ [T.seq e (y.map tf)].length = 1 ∧ ∀ (j : Nat) (t : T) (u : Value), [T.seq e (y.map tf)][j]? = some t → [Value.slice a 0 c][j]? = some u → Inn (fun b => b < w.heap.size) w t u := fun a c hc0 hn0 =>
    ⟨[], ⟨fun x hx => (by cases hx), Nat.zero_le _⟩, rfl, fun j t u h1 h2 => by
      match j, h1, h2 with
      | 0, h1, h2 =>
        cases h1; cases h2
        exact Inn.seq (es := []) n hp hz (fun e he => by cases he) (Nat.zero_le _) hc0 hn0 0 0 (fun _ => .bool false) (fun _ _ h => absurd rfl h) (fun h => absurd rfl h) (fun k e j t h => by simp at h) fun k e j t h => by simp at h⟩
  rcases open_slice ht h with ⟨rfl, -⟩ | ⟨a, len, cap, m, fu, D, Pl, rfl, -, hl, hm, hmm, -, hi⟩
  · exact emp none 0 (Nat.zero_le _) fun _ => rfl
  · have hlm : len ≤ m := by rw [hmm]; split <;> omega
    rw [hc] at hi
    rcases Nat.eq_zero_or_pos len with h0 | h0
    · subst h0
      exact emp (some a) cap hm fun e => by cases e
    · have hone : ∀ i, i < len → ∃ yc : α × List Value, ok yc.1 ∧ (tf yc.1).length = n ∧ yc.2.length = n ∧ (∀ j u, yc.2[j]? = some u → w.cell? (a.add (i * n + j)) = some u) ∧ ∀ (j : Nat) (t : T) (u : Value), (tf yc.1)[j]? = some t → yc.2[j]? = some u → Inn (fun b => b < w.heap.size) w t u := by
        intro i hil
        obtain ⟨cs', hcs, htr⟩ := hi i (by omega)
        obtain ⟨_, hcl, hat⟩ := World.cells?_some hcs
        obtain ⟨y, h1, h2, h3⟩ := hO H enc w spare held fu cs' _ htr hcl
        refine ⟨(y, cs'), h1, h2, hcl, fun j u hj => ?_, h3⟩
        have hjl : j < n := by rw [← hcl]; exact get_lt hj
        have := hat j hjl
        rw [add_add] at this
        rw [this]
        exact hj
      obtain ⟨y0, -⟩ := hone 0 h0
      obtain ⟨f, hf⟩ := @choose_lt (α × List Value) ⟨y0⟩ len _ hone
      obtain ⟨b, o, spot⟩ := a
      have hl0 : 0 < (f 0).2.length := by rw [(hf 0 h0).2.2.1]; exact hp
      have hcell0 := (hf 0 h0).2.2.2.1 0 (f 0).2[0] (by simp [hl0])
      have hspot : spot = none := by simpa [Addr.add] using World.cell?_spot hcell0
      subst hspot
      have hb : b < w.heap.size := by
        have := World.block_lt_of_cell? w _ hcell0
        simpa [Addr.add] using this
      have hget : ∀ k e', (((List.range len).map fun t => (f t).1).map tf)[k]? = some e' → k < len ∧ e' = tf (f k).1 := fun k e' hk => by
        have hkl : k < len := by have := get_lt hk; simpa using this
        refine ⟨hkl, ?_⟩
        simp [hkl] at hk
        exact hk.symm
      refine ⟨(List.range len).map fun t => (f t).1, ⟨fun x hx => ?_, by simp; omega⟩, rfl, fun j t u h1 h2 => ?_⟩
      · obtain ⟨t, ht, rfl⟩ := List.mem_map.1 hx
        exact (hf t (List.mem_range.1 ht)).1
      · match j, h1, h2 with
        | 0, h1, h2 =>
          cases h1; cases h2
          have hlen : (((List.range len).map fun t => (f t).1).map tf).length = len := by simp
          have key : ∀ k e' j t', (((List.range len).map fun t => (f t).1).map tf)[k]? = some e' → e'[j]? = some t' → ∃ u, (f k).2[j]? = some u ∧ w.cell? ⟨b, o + (k * n + j), none⟩ = some u ∧ Inn (fun b => b < w.heap.size) w t' u := fun k e' j t' hk hj => by
            obtain ⟨hkl, rfl⟩ := hget k e' hk
            obtain ⟨-, h3, h4, h5, h6⟩ := hf k hkl
            have hjl : j < (f k).2.length := by rw [h4, ← h3]; exact get_lt hj
            have h7 := h5 j _ (List.getElem?_eq_getElem hjl)
            rw [Addr.add_lit] at h7
            exact ⟨_, List.getElem?_eq_getElem hjl, h7, h6 j t' _ hj (List.getElem?_eq_getElem hjl)⟩
          have hsl : Value.slice (some ⟨b, o, none⟩) len cap = Value.slice (some ⟨b, o, none⟩) (((List.range len).map fun t => (f t).1).map tf).length cap := by rw [hlen]
          rw [hsl]
          exact Inn.seq n hp hz (fun e' he => by
            obtain ⟨k, hk, rfl⟩ := List.getElem_of_mem he
            obtain ⟨hkl, e1⟩ := hget k _ (List.getElem?_eq_getElem hk)
            rw [e1]; exact (hf k hkl).2.1) (by rw [hlen]; exact hl) hm (fun e => by cases e) b o (fun i => (w.cell? ⟨b, o + i, none⟩).getD (.bool false)) (fun ad h _ => (Option.some.inj h).symm) (fun _ => ⟨hb, hb⟩) (fun k e' j t' hk hj => by
              obtain ⟨u, -, h3, -⟩ := key k e' j t' hk hj
              rw [h3]; rfl) fun k e' j t' hk hj => by
              obtain ⟨u, -, h3, h4⟩ := key k e' j t' hk hj
              rw [h3]; exact h4
theorem OpensT.int : OpensT 3 1 (fun x : Int => [.lit (.int .i64 x)]) I64 := by
  intro H enc w spare held fuel cs x h hl
  match cs, hl with
  | [c0], _ =>
    obtain ⟨k0, e0, -, w0⟩ := DataW.trod_int Try.underlying3 h
    simp at e0
    subst e0
    refine ⟨k0, bounds_i64 w0, rfl, fun j t u h1 h2 => ?_⟩
    match j, h1, h2 with
    | 0, h1, h2 => cases h1; cases h2; exact .lit rfl
theorem OpensT.bool : OpensT 4 1 (fun x : Bool => [.lit (.bool x)]) (fun _ => True) := by
  intro H enc w spare held fuel cs x h hl
  match cs, hl with
  | [c0], _ =>
    obtain ⟨k0, e0, -⟩ := DataW.trod_bool Try.underlying4 h
    simp at e0
    subst e0
    refine ⟨k0, trivial, rfl, fun j t u h1 h2 => ?_⟩
    match j, h1, h2 with
    | 0, h1, h2 => cases h1; cases h2; exact .lit rfl
set_option maxRecDepth 100000 in
theorem OpensT.row : OpensT 68 3 uRow R.wf := by
  intro H enc w spare held fuel cs x h hl
  obtain ⟨y0, y1, y2, k, _, _, h0, h1, h2⟩ := trod_struct3 Try.underlying68 h
  match cs, hl with
  | [c0, c1, c2], _ =>
    obtain ⟨k0, e0, rfl, w0⟩ := DataW.trod_int Try.underlying3 h0
    obtain ⟨k1, e1, rfl, w1⟩ := DataW.trod_int Try.underlying3 h1
    obtain ⟨k2, e2, rfl, w2⟩ := DataW.trod_int Try.underlying3 h2
    simp [intCells] at e0 e1 e2
    subst e0 e1 e2
    refine ⟨⟨k0, k1, k2⟩, ⟨bounds_i64 w0, bounds_i64 w1, bounds_i64 w2⟩, rfl, fun j t u h1 h2 => ?_⟩
    match j, h1, h2 with
    | 0, h1, h2 => cases h1; cases h2; exact .lit rfl
    | 1, h1, h2 => cases h1; cases h2; exact .lit rfl
    | 2, h1, h2 => cases h1; cases h2; exact .lit rfl
set_option maxRecDepth 100000 in
theorem OpensT.rows : OpensT 39 1 (fun X : List R => [.seq 68 (X.map uRow)]) (fun X => (∀ x ∈ X, x.wf) ∧ X.length ≤ maxLen) := OpensT.seq Try.underlying39 (by kernel_rfl) (by decide) (Sz.of (by kernel_rfl)) OpensT.row
def okRow (r : R) : Prop := r.wf
def ArgT (w : World) (ag : Bool) (ts : List T) (v : Value) : Prop := ∃ us : List Value, v = cval ag us ∧ us.length = ts.length ∧ ∀ (j : Nat) (t : T) (u : Value), ts[j]? = some t → us[j]? = some u → Inn (fun b => b < w.heap.size) w t u
theorem ArgT.lit {w : World} {v : Value} (h : v.oneCell' = true) : ArgT w false [.lit v] v := ⟨[v], rfl, rfl, fun j t u h1 h2 => by
  match j, h1, h2 with
  | 0, h1, h2 => cases h1; cases h2; exact .lit h⟩
set_option maxRecDepth 100000 in
theorem OpensT.val {A : TypeId} {fs : Array Field} {α : Type} {n : Nat} {tf : α → List T} {ok : α → Prop} (hO : OpensT A n tf ok) (hs : Try.prog.underlying A = some (.struct fs)) (hc : Try.prog.cellsOf A = n)
    {H : Type} {enc : TypeId × Value → H} {w : World} {spare : Nat → Bool} {held : Bool} {q : Reach} {b0 : Nat} {v : Value} {d : DataW H} {p : List MemPlace} (hv : Value.okWide Try.prog w q b0 A v) (h : DataW.Trod enc Try.prog w 0 spare held A v d p) :
    ∃ y : α, ok y ∧ ArgT w true (tf y) v := by
  obtain ⟨cs, rfl, hsz⟩ := okWide_struct hs hv
  obtain ⟨fuel, hf⟩ := h
  have hl : (Value.cells (.agg cs)).toList.length = n := by simpa [Value.cells] using hsz.trans hc
  obtain ⟨y, h1, h2, h3⟩ := hO H enc w spare held fuel _ _ hf hl
  exact ⟨y, h1, cs.toList, by simp [cval], hl.trans h2.symm, h3⟩
theorem OpensT.arg {A : TypeId} {α : Type} {tf : α → List T} {ok : α → Prop} (hO : OpensT A 1 tf ok) {H : Type} {enc : TypeId × Value → H} {w : World} {spare : Nat → Bool} {held : Bool} {a : Option Addr} {len cap : Nat} {d : DataW H} {p : List MemPlace}
    (h : DataW.Trod enc Try.prog w 0 spare held A (.slice a len cap) d p) : ∃ y : α, ok y ∧ ArgT w false (tf y) (.slice a len cap) := by
  obtain ⟨fuel, hf⟩ := h
  obtain ⟨y, h1, h2, h3⟩ := hO H enc w spare held fuel _ _ hf (by simp [Value.cells])
  exact ⟨y, h1, [.slice a len cap], rfl, h2.symm, h3⟩
theorem argsIn_nil {w : World} : ArgsIn (Env.of w) w [] [] := ⟨rfl, fun c ag ts v h => by simp at h⟩
theorem argsIn_cons {w : World} {ag : Bool} {ts : List T} {v : Value} {ins : List (Bool × List T)} {vs : List Value} (h : ArgT w ag ts v) (k : ArgsIn (Env.of w) w ins vs) : ArgsIn (Env.of w) w ((ag, ts) :: ins) (v :: vs) := by
  refine ⟨by simp [k.1], fun c ag' ts' v' h1 h2 => ?_⟩
  cases c with
  | zero =>
    cases h1; cases h2
    obtain ⟨us, h3, h4, h5⟩ := h
    exact ⟨us, h3, h4, fun j t u h6 h7 => (h5 j t u h6 h7).frame (Nat.le_refl _) fun b hb _ => ⟨Env.of_old.2 hb, rfl⟩⟩
  | succ c => exact k.2 c ag' ts' v' (by simpa using h1) (by simpa using h2)
theorem VC.law {f : FuncId} {ins : List (Bool × List T)} (h : VC Try.prog f ins false [(false, [.lit (.bool true)])]) {w : World} {vs : List Value} (hv : ArgsIn (Env.of w) w ins vs) : Calls Try.prog f vs.toArray w fun e w' => e = .returned (.bool true) ∧ Below w.heap.size w w' :=
  (h w vs hv).mono fun e w' hg => by
    obtain ⟨h1, h2⟩ := hg.lit
    exact ⟨h1, h2.os, h2.tape, h2.output, h2.size, fun k hk => h2.block k (Env.of_old.2 hk)⟩
end Go.Proofs.Ytfionajnoaednaa
/- Row: the laws' own functions over it, told by trees: each by its contract. -/
namespace Go.Proofs.Ytfionajnoaednaa
open Go Go.RowKit V
set_option linter.unusedVariables false
set_option maxRecDepth 100000 in
set_option maxHeartbeats 2000000 in
theorem vsz_rows (X : List R) (left : Int) (h0 : 0 ≤ left) (h1 : left ≤ 1048576) : VC Try.prog 28 [(false, [.seq 68 (X.map uRow)]), (false, [.lit (.int .i64 left)])] false [(false, [.lit (.int .i64 (szR left (wtRows X)))])] := by
  refine VC.enter Try.func28 rfl Try.ntmps28 (gle rfl) fun E hE => ?_
  refine SV.lenle (s := 0) rfl rfl fun hml => ?_
  have hml2 : X.length ≤ 9223372036854775807 := by rw [← List.length_map (f := uRow)]; exact hml
  have hl2 : (X.map uRow).length = X.length := List.length_map _
  have hlen := wt_row_len X
  have hwX : wtRows X = X.length := rfl
  refine SV.seq' ?_
  refine SV.region ?_
  refine SV.op (OpL.ok (nb := 0) (ok_move (v := V.one (.sc _)) (.inr rfl) rfl) rfl (gle rfl)) rfl ?_
  refine SV.nil ?_
  refine SV.tn ?_
  refine SV.seq' ?_
  refine SV.region ?_
  refine SV.op (OpL.ok (nb := 0) (ok_move (v := V.one (.sc _)) (.inl rfl) rfl) rfl (gle rfl)) rfl ?_
  refine SV.op (OpL.ok (nb := 0) (ok_move (v := V.one (.ro _)) (.inl rfl) rfl) rfl (gle rfl)) rfl ?_
  refine SV.op (OpL.ok (nb := 0) (ok_len (lf := .ro _) rfl elt_laws_Row.und rfl rfl) rfl (gle rfl)) rfl ?_
  refine SV.op (OpL.ok (nb := 0) (ok_s2 (x := .tmp 5) (x' := .tmp 7) (VScal.one rfl) (VScal.one rfl) (fun ρ h1 h2 w => by go_simp; (try go_bits); with_reducible rfl) rfl) rfl (gle rfl)) rfl ?_
  refine SV.op (OpL.ok (nb := 0) (ok_move (v := V.one (.sc _)) (.inr rfl) rfl) rfl (gle rfl)) rfl ?_
  refine SV.nil ?_
  refine SV.tn ?_
  refine SV.seq' ?_
  refine SV.seq' ?_
  refine SV.region ?_
  refine SV.op (OpL.ok (nb := 0) (ok_move (v := V.one (.sc _)) (.inl rfl) rfl) rfl (gle rfl)) rfl ?_
  refine SV.op (OpL.ok (nb := 0) (ok_s2 (x := .tmp 9) (x' := .const ((Value.int IntKind.i64 0))) (VScal.one rfl) (VScal.one rfl) (fun ρ h1 h2 w => by go_simp; (try go_bits); with_reducible rfl) rfl) rfl (gle rfl)) rfl ?_
  refine SV.nil ?_
  refine SV.tn ?_
  refine SV.cond rfl (fun hc0 => ?_) (fun hc0 => ?_)
  · skip   -- c0.T
    have hb : left - (X.length : Nat) < 0 := by simpa using hc0
    refine SV.seq' ?_
    refine SV.region ?_
    refine SV.op (OpL.ok (nb := 0) (ok_move (v := V.one (.sc _)) (.inr rfl) rfl) rfl (gle rfl)) rfl ?_
    refine SV.nil ?_
    refine SV.tn ?_
    refine SV.ret ?_
    refine SV.tr ?_
    apply SV.done (hf := Try.results28) (ht := rfl) (he := .inl rfl)
    case hr => exact (ResAll.cons (ResOk.tmp (ag := false) (xs := [.sc _]) rfl) ResAll.nil')
    case h2 => simp [two]
    refine ⟨rfl, ⟨?_, trivial⟩, trivial⟩ <;> (show some (T.lit (Value.int .i64 _)) = some (T.lit (Value.int .i64 _)); refine congrArg (fun z => some (T.lit (Value.int .i64 z))) ?_; unfold szR; split <;> omega)
  · skip   -- c0.F
    have hb : ¬ left - (X.length : Nat) < 0 := by simpa using hc0
    refine SV.skip ?_
    refine SV.tn ?_
    refine SV.seq' ?_
    refine SV.region ?_
    refine SV.op (OpL.ok (nb := 0) (ok_move (v := V.one (.sc _)) (.inl rfl) rfl) rfl (gle rfl)) rfl ?_
    refine SV.op (OpL.ok (nb := 0) (ok_move (v := V.one (.sc _)) (.inr rfl) rfl) rfl (gle rfl)) rfl ?_
    refine SV.nil ?_
    refine SV.tn ?_
    refine SV.ret ?_
    apply SV.done (hf := Try.results28) (ht := rfl) (he := .inl rfl)
    case hr => exact (ResAll.cons (ResOk.tmp (ag := false) (xs := [.sc _]) rfl) ResAll.nil')
    case h2 => simp [two]
    refine ⟨rfl, ⟨?_, trivial⟩, trivial⟩ <;> (show some (T.lit (Value.int .i64 _)) = some (T.lit (Value.int .i64 _)); refine congrArg (fun z => some (T.lit (Value.int .i64 z))) ?_; unfold szR; split <;> omega)
set_option maxRecDepth 100000 in
set_option maxHeartbeats 2000000 in
theorem vmk_rows' (X : List R) (q : Int) (hq0 : 0 ≤ q) (hq1 : q + 3 * X.length ≤ 100000000000000) : VM Try.prog 31 [(false, [.ln 0]), (false, [.rd (.lit (.int .i64 q))])] [.seq 59 (X.map tRow)] [.seq 59 ((mkAll rowMk q X).map tRow)] (.int .i64 (q + (cntAll rowMk X : Nat))) := by
  refine VM.enter (m := 1) rfl Try.func31 rfl Try.ntmps31 (gle rfl) fun E hE => ?_
  have hC := rows_cnt X
  refine SV.seq' ?_
  refine SV.region ?_
  refine SV.op (OpL.ok (nb := 0) (ok_move (v := V.one (.sc _)) (.inr rfl) rfl) rfl (gle rfl)) rfl ?_
  refine SV.nil ?_
  refine SV.tn ?_
  refine SV.seq' ?_
  refine SV.seq' ?_
  refine SV.region ?_
  refine SV.op (OpL.ok (nb := 0) (ok_move (v := V.one (.sc _)) (.inr rfl) rfl) rfl (gle rfl)) rfl ?_
  refine SV.nil ?_
  refine SV.tn ?_
  refine SV.block ?_
  refine SV.loop (X := Nat) (fun t => ((((VS.nil.new (.seq 59 (mkL rowMk tRow q X t))).put 0 (V.one (.hd 0))).put 1 (V.one (.sc (.int .i64 (q + (cntAll rowMk (X.take t) : Nat)))))).put 5 (V.one (.sc (.int .i64 (t : Int)))))) (fun t => t ≤ X.length) (fun t => X.length - t) ?_ ?_
  · skip
    refine SV.again (fun i => [0].getD i 0) 0 (Nat.zero_le _) (pins hE rfl rfl) (VS.le.mk' (le_put (le_put (le_put (le_new le_nil) (V.le.one rfl ⟨rfl, (gle rfl), (gle rfl)⟩)) (V.le.one rfl (by first | rfl | (show Leaf.sc _ = Leaf.sc _; refine congrArg Leaf.sc ?_; first | rfl | go_num | (simp [cntAll]; done)) | (simp [cntAll]; done) | (simp; omega)))) (V.le.one rfl (by first | rfl | (show Leaf.sc _ = Leaf.sc _; refine congrArg Leaf.sc ?_; first | rfl | go_num | (simp [cntAll]; done)) | (simp [cntAll]; done) | (simp; omega)))) trivial ⟨.inr ⟨_, _, rfl, ?ob1_0, (gle rfl)⟩, trivial⟩ (new_ob nil_ob) (fun i j hi hj e => inj_list (l := [0]) (by decide) i j hi hj e))
    case ob1_0 =>
      show some (T.seq _ _) = some (T.seq _ _)
      rw [mkL_zero]
  · rintro t ht
    refine SV.seq' ?_
    refine SV.seq' ?_
    refine SV.region ?_
    refine SV.op (OpL.ok (nb := 0) (ok_move (v := V.one (.sc _)) (.inl rfl) rfl) rfl (gle rfl)) rfl ?_
    refine SV.op (OpL.ok (nb := 0) (ok_move (v := V.one (.hd 0)) (.inl rfl) rfl) rfl (gle rfl)) rfl ?_
    refine SV.op (OpL.ok (nb := 0) (ok_len (lf := .hd 0) rfl elt_impl_Row.und rfl rfl) rfl (gle rfl)) rfl ?_
    refine SV.op (OpL.ok (nb := 0) (ok_s2 (x := .tmp 6) (x' := .tmp 8) (VScal.one rfl) (VScal.one rfl) (fun ρ h1 h2 w => by go_simp; (try go_bits); with_reducible rfl) rfl) rfl (gle rfl)) rfl ?_
    refine SV.nil ?_
    refine SV.tn ?_
    refine SV.cond rfl (fun hc0 => ?_) (fun hc0 => ?_)
    · skip   -- c0.T
      have htl : t < X.length := by have := mkL_len (m := rowMk) (f := tRow) (q := q) ht; rw [show (mkL rowMk tRow q X t).length = X.length from this] at hc0; simpa using hc0
      have hcn := cntAll_next rowMk X t htl
      have hct := cntAll_take rowMk X (t + 1)
      have hc3 : rowMk.cnt X[t] = 3 := rfl
      refine SV.skip ?_
      refine SV.tn ?_
      refine SV.seq' ?_
      refine SV.block ?_
      refine SV.seq' ?_
      refine SV.region ?_
      refine SV.op (OpL.ok (nb := 0) (ok_move (v := V.one (.hd 0)) (.inl rfl) rfl) rfl (gle rfl)) rfl ?_
      refine SV.op (OpL.ok (nb := 0) (ok_move (v := V.one (.sc _)) (.inl rfl) rfl) rfl (gle rfl)) rfl ?_
      refine SV.op (OpL.ok (nb := 0) (ok_move (v := V.one (.sc _)) (.inl rfl) rfl) rfl (gle rfl)) rfl ?_
      refine SV.op (OpL.ok (nb := 0) (ok_index (n := 3) (lf := .hd 0) rfl elt_impl_Row.und sz_impl_Row rfl rfl rfl (mkL_at htl)) rfl (gle rfl)) rfl ?_
      refine SV.op (OpL.ok (nb := 0) (ok_field_el (p := .ep 0 _ _ _) (off := 0) rfl rfl (cells_ep rfl (mkL_at htl) rfl rfl) fld_impl_Row_0) rfl (gle rfl)) rfl ?_
      refine SV.op (ok_store_ep (i := 0) (n := 3) (m := 1) (ag := false) (zs := [.sc _]) rfl rfl rfl rfl (mkL_at htl) sz_int (fun _ => rfl) rfl sz_impl_Row (gle rfl) (outs_c rfl outs_n) (by simp [two]) rfl rfl rfl) rfl ?_
      refine SV.nil ?_
      refine SV.tn ?_
      refine SV.seq' ?_
      refine SV.region ?_
      refine SV.op (OpL.ok (nb := 0) (ok_move (v := V.one (.sc _)) (.inl rfl) rfl) rfl (gle rfl)) rfl ?_
      refine SV.op (OpL.ok (nb := 0) (ok_s2 (v := .int .i64 (q + (cntAll rowMk (X.take t) : Nat) + 1)) (x := .tmp 17) (x' := .const ((Value.int IntKind.i64 1))) (VScal.one rfl) (VScal.one rfl) (fun ρ h1 h2 w => by go_simp; all_goals ((try go_bits); first | with_reducible rfl | go_num | (simp; done) | (simp; omega))) rfl) rfl (gle rfl)) rfl ?_
      refine SV.op (OpL.ok (nb := 0) (ok_move (v := V.one (.sc _)) (.inr rfl) rfl) rfl (gle rfl)) rfl ?_
      refine SV.nil ?_
      refine SV.tn ?_
      refine SV.seq' ?_
      refine SV.region ?_
      refine SV.op (OpL.ok (nb := 0) (ok_move (v := V.one (.hd 0)) (.inl rfl) rfl) rfl (gle rfl)) rfl ?_
      refine SV.op (OpL.ok (nb := 0) (ok_move (v := V.one (.sc _)) (.inl rfl) rfl) rfl (gle rfl)) rfl ?_
      refine SV.op (OpL.ok (nb := 0) (ok_move (v := V.one (.sc _)) (.inl rfl) rfl) rfl (gle rfl)) rfl ?_
      refine SV.op (OpL.ok (nb := 0) (ok_index (n := 3) (lf := .hd 0) rfl elt_impl_Row.und sz_impl_Row rfl rfl rfl (set_self (mkL_lt htl))) rfl (gle rfl)) rfl ?_
      refine SV.op (OpL.ok (nb := 0) (ok_field_el (p := .ep 0 _ _ _) (off := 1) rfl rfl (cells_ep rfl (set_self (mkL_lt htl)) rfl rfl) fld_impl_Row_1) rfl (gle rfl)) rfl ?_
      refine SV.op (ok_store_ep (i := 0) (n := 3) (m := 1) (ag := false) (zs := [.sc _]) rfl rfl rfl rfl (set_self (mkL_lt htl)) sz_int (fun _ => rfl) rfl sz_impl_Row (gle rfl) (outs_c rfl outs_n) (by simp [two]) rfl (set_twice (by rfl)) rfl) rfl ?_
      refine SV.nil ?_
      refine SV.tn ?_
      refine SV.seq' ?_
      refine SV.region ?_
      refine SV.op (OpL.ok (nb := 0) (ok_move (v := V.one (.sc _)) (.inl rfl) rfl) rfl (gle rfl)) rfl ?_
      refine SV.op (OpL.ok (nb := 0) (ok_s2 (v := .int .i64 (q + (cntAll rowMk (X.take t) : Nat) + 1 + 1)) (x := .tmp 24) (x' := .const ((Value.int IntKind.i64 1))) (VScal.one rfl) (VScal.one rfl) (fun ρ h1 h2 w => by go_simp; all_goals ((try go_bits); first | with_reducible rfl | go_num | (simp; done) | (simp; omega))) rfl) rfl (gle rfl)) rfl ?_
      refine SV.op (OpL.ok (nb := 0) (ok_move (v := V.one (.sc _)) (.inr rfl) rfl) rfl (gle rfl)) rfl ?_
      refine SV.nil ?_
      refine SV.tn ?_
      refine SV.seq' ?_
      refine SV.region ?_
      refine SV.op (OpL.ok (nb := 0) (ok_move (v := V.one (.hd 0)) (.inl rfl) rfl) rfl (gle rfl)) rfl ?_
      refine SV.op (OpL.ok (nb := 0) (ok_move (v := V.one (.sc _)) (.inl rfl) rfl) rfl (gle rfl)) rfl ?_
      refine SV.op (OpL.ok (nb := 0) (ok_move (v := V.one (.sc _)) (.inl rfl) rfl) rfl (gle rfl)) rfl ?_
      refine SV.op (OpL.ok (nb := 0) (ok_index (n := 3) (lf := .hd 0) rfl elt_impl_Row.und sz_impl_Row rfl rfl rfl (set_self (mkL_lt htl))) rfl (gle rfl)) rfl ?_
      refine SV.op (OpL.ok (nb := 0) (ok_field_el (p := .ep 0 _ _ _) (off := 2) rfl rfl (cells_ep rfl (set_self (mkL_lt htl)) rfl rfl) fld_impl_Row_2) rfl (gle rfl)) rfl ?_
      refine SV.op (ok_store_ep (i := 0) (n := 3) (m := 1) (ag := false) (zs := [.sc _]) rfl rfl rfl rfl (set_self (mkL_lt htl)) sz_int (fun _ => rfl) rfl sz_impl_Row (gle rfl) (outs_c rfl outs_n) (by simp [two]) rfl (set_twice (by rfl)) rfl) rfl ?_
      refine SV.nil ?_
      refine SV.tn ?_
      refine SV.region ?_
      refine SV.op (OpL.ok (nb := 0) (ok_move (v := V.one (.sc _)) (.inl rfl) rfl) rfl (gle rfl)) rfl ?_
      refine SV.op (OpL.ok (nb := 0) (ok_s2 (v := .int .i64 (q + (cntAll rowMk (X.take t) : Nat) + 1 + 1 + 1)) (x := .tmp 31) (x' := .const ((Value.int IntKind.i64 1))) (VScal.one rfl) (VScal.one rfl) (fun ρ h1 h2 w => by go_simp; all_goals ((try go_bits); first | with_reducible rfl | go_num | (simp; done) | (simp; omega))) rfl) rfl (gle rfl)) rfl ?_
      refine SV.op (OpL.ok (nb := 0) (ok_move (v := V.one (.sc _)) (.inr rfl) rfl) rfl (gle rfl)) rfl ?_
      refine SV.nil ?_
      refine SV.bn ?_
      refine SV.tn ?_
      refine SV.region ?_
      refine SV.op (OpL.ok (nb := 0) (ok_move (v := V.one (.sc _)) (.inl rfl) rfl) rfl (gle rfl)) rfl ?_
      refine SV.op (OpL.ok (nb := 0) (ok_s2 (x := .tmp 10) (x' := .const ((Value.int IntKind.i64 1))) (VScal.one rfl) (VScal.one rfl) (fun ρ h1 h2 w => by go_simp; (try go_bits); with_reducible rfl) rfl) rfl (gle rfl)) rfl ?_
      refine SV.op (OpL.ok (nb := 0) (ok_move (v := V.one (.sc _)) (.inr rfl) rfl) rfl (gle rfl)) rfl ?_
      refine SV.nil ?_
      refine SV.tn ?_
      refine SV.again (fun i => [0].getD i 0) (t + 1) (⟨by omega, by omega⟩) (pins hE rfl rfl) (VS.le.mk' (le_put (le_put (le_put (le_new le_nil) (V.le.one rfl ⟨rfl, (gle rfl), (gle rfl)⟩)) (V.le.one rfl (by first | rfl | (show Leaf.sc _ = Leaf.sc _; refine congrArg Leaf.sc ?_; first | rfl | go_num | (simp [cntAll]; done)) | (simp [cntAll]; done) | (simp; omega)))) (V.le.one rfl (by first | rfl | (show Leaf.sc _ = Leaf.sc _; refine congrArg Leaf.sc ?_; first | rfl | go_num | (simp [cntAll]; done)) | (simp [cntAll]; done) | (simp; omega)))) trivial ⟨.inr ⟨_, _, rfl, ?ob2_0, (gle rfl)⟩, trivial⟩ (new_ob nil_ob) (fun i j hi hj e => inj_list (l := [0]) (by decide) i j hi hj e))
      case ob2_0 =>
        show some (T.seq _ _) = some (T.seq _ _)
        rw [← mkL_next htl]
        rfl
    · skip   -- c0.F
      have hte : ¬ t < X.length := by have := mkL_len (m := rowMk) (f := tRow) (q := q) ht; rw [show (mkL rowMk tRow q X t).length = X.length from this] at hc0; simpa using hc0
      refine SV.exit ?_
      refine SV.te ?_
      refine SV.te ?_
      refine SV.bh ?_
      refine SV.tn ?_
      refine SV.seq' ?_
      refine SV.region ?_
      refine SV.op (OpL.ok (nb := 0) (ok_move (v := V.one (.sc _)) (.inl rfl) rfl) rfl (gle rfl)) rfl ?_
      refine SV.op (OpL.ok (nb := 0) (ok_move (v := V.one (.sc _)) (.inr rfl) rfl) rfl (gle rfl)) rfl ?_
      refine SV.nil ?_
      refine SV.tn ?_
      refine SV.ret ?_
      refine SV.doneM hE rfl ⟨?_, trivial⟩ (.inl rfl) ?_
      · exact congrArg some (congrArg (T.seq _) (mkL_all hte))
      apply SV.done (hf := Try.results31) (ht := rfl) (he := .inl rfl)
      case hr => exact (ResAll.cons (ResOk.tmp (ag := false) (xs := [.sc _]) rfl) ResAll.nil')
      case h2 => simp [two]
      refine ⟨rfl, ⟨?_, trivial⟩, trivial⟩ <;> (show some (T.lit (Value.int .i64 _)) = some (T.lit (Value.int .i64 _)); rw [List.take_of_length_le (by omega)])
theorem vmk_rows (X : List R) (q : Int) (hq0 : 0 ≤ q) (hq1 : q + 64 * wtRows X ≤ 100000000000000) : VM Try.prog 31 [(false, [.ln 0]), (false, [.rd (.lit (.int .i64 q))])] [.seq 59 (X.map tRow)] [.seq 59 ((rowsMk.mark q X).map tRow)] (.int .i64 (q + (rowsMk.cnt X : Nat))) := by
  have h := vmk_rows' X q hq0 (by have h1 : wtRows X = X.length := rfl; omega)
  rw [rows_all, rows_cnt']
  exact h
set_option maxRecDepth 100000 in
set_option maxHeartbeats 2000000 in
theorem vhd_rows' (X : List R) (q : Int) (hq0 : 0 ≤ q) (hq1 : q + 3 * X.length ≤ 100000000000000) : VC Try.prog 32 [(false, [.seq 59 ((mkAll rowMk q X).map tRow)]), (false, [.lit (.int .i64 q)])] false [(false, [.lit (.int .i64 (q + (cntAll rowMk X : Nat)))])] := by
  refine VC.enter Try.func32 rfl Try.ntmps32 (gle rfl) fun E hE => ?_
  have hC := rows_cnt X
  refine SV.seq' ?_
  refine SV.region ?_
  refine SV.op (OpL.ok (nb := 0) (ok_move (v := V.one (.sc _)) (.inr rfl) rfl) rfl (gle rfl)) rfl ?_
  refine SV.nil ?_
  refine SV.tn ?_
  refine SV.seq' ?_
  refine SV.seq' ?_
  refine SV.region ?_
  refine SV.op (OpL.ok (nb := 0) (ok_move (v := V.one (.sc _)) (.inr rfl) rfl) rfl (gle rfl)) rfl ?_
  refine SV.nil ?_
  refine SV.tn ?_
  refine SV.block ?_
  refine SV.loop (X := Nat) (fun t => (((VS.nil.put 0 (V.one (.ro (.seq 59 ((mkAll rowMk q X).map tRow))))).put 1 (V.one (.sc (.int .i64 (q + (cntAll rowMk (X.take t) : Nat)))))).put 5 (V.one (.sc (.int .i64 (t : Int)))))) (fun t => t ≤ X.length) (fun t => X.length - t) ?_ ?_
  · skip
    refine SV.again (fun i => [].getD i 0) 0 (Nat.zero_le _) (pins hE rfl rfl) (VS.le.mk' (le_put (le_put (le_put le_nil (V.le.one rfl (by first | rfl | (show Leaf.sc _ = Leaf.sc _; refine congrArg Leaf.sc ?_; first | rfl | go_num | (simp [cntAll]; done)) | (simp [cntAll]; done) | (simp; omega)))) (V.le.one rfl (by first | rfl | (show Leaf.sc _ = Leaf.sc _; refine congrArg Leaf.sc ?_; first | rfl | go_num | (simp [cntAll]; done)) | (simp [cntAll]; done) | (simp; omega)))) (V.le.one rfl (by first | rfl | (show Leaf.sc _ = Leaf.sc _; refine congrArg Leaf.sc ?_; first | rfl | go_num | (simp [cntAll]; done)) | (simp [cntAll]; done) | (simp; omega)))) trivial trivial nil_ob (fun i j hi hj e => absurd hi (Nat.not_lt_zero i)))
  · rintro t ht
    refine SV.seq' ?_
    refine SV.seq' ?_
    refine SV.region ?_
    refine SV.op (OpL.ok (nb := 0) (ok_move (v := V.one (.sc _)) (.inl rfl) rfl) rfl (gle rfl)) rfl ?_
    refine SV.op (OpL.ok (nb := 0) (ok_move (v := V.one (.ro _)) (.inl rfl) rfl) rfl (gle rfl)) rfl ?_
    refine SV.op (OpL.ok (nb := 0) (ok_len (lf := .ro _) rfl elt_impl_Row.und rfl rfl) rfl (gle rfl)) rfl ?_
    refine SV.op (OpL.ok (nb := 0) (ok_s2 (x := .tmp 6) (x' := .tmp 8) (VScal.one rfl) (VScal.one rfl) (fun ρ h1 h2 w => by go_simp; (try go_bits); with_reducible rfl) rfl) rfl (gle rfl)) rfl ?_
    refine SV.nil ?_
    refine SV.tn ?_
    refine SV.cond rfl (fun hc0 => ?_) (fun hc0 => ?_)
    · skip   -- c0.T
      have htl : t < X.length := by simpa [mkAll_length] using hc0
      have hx := mkAll_get rowMk q X t htl
      have hcn := cntAll_next rowMk X t htl
      have hct := cntAll_take rowMk X (t + 1)
      have hc3 : rowMk.cnt X[t] = 3 := rfl
      refine SV.skip ?_
      refine SV.tn ?_
      refine SV.seq' ?_
      refine SV.block ?_
      refine SV.seq' ?_
      refine SV.seq' ?_
      refine SV.region ?_
      refine SV.op (OpL.ok (nb := 0) (ok_move (v := V.one (.ro _)) (.inl rfl) rfl) rfl (gle rfl)) rfl ?_
      refine SV.op (OpL.ok (nb := 0) (ok_move (v := V.one (.sc _)) (.inl rfl) rfl) rfl (gle rfl)) rfl ?_
      refine SV.op (OpL.ok (nb := 0) (ok_index (n := 3) (lf := .ro _) rfl elt_impl_Row.und sz_impl_Row rfl rfl rfl (map_at (by assumption))) rfl (gle rfl)) rfl ?_
      refine SV.op (OpL.ok (nb := 0) (ok_field_el (p := .rp _) (off := 0) rfl rfl rfl fld_impl_Row_0) rfl (gle rfl)) rfl ?_
      refine SV.op (OpL.ok (nb := 0) (ok_load_rp (ag := false) (m := 1) (ys := [.sc _]) rfl rfl agg_int sz_int (fun _ => rfl) (gle rfl) rfl) rfl (gle rfl)) rfl ?_
      refine SV.op (OpL.ok (nb := 0) (ok_move (v := V.one (.sc _)) (.inl rfl) rfl) rfl (gle rfl)) rfl ?_
      refine SV.op (OpL.ok (nb := 0) (ok_s2 (x := .tmp 16) (x' := .tmp 17) (VScal.one rfl) (VScal.one rfl) (fun ρ h1 h2 w => by go_simp; (try go_bits); with_reducible rfl) rfl) rfl (gle rfl)) rfl ?_
      refine SV.nil ?_
      refine SV.tn ?_
      refine SV.cond rfl (fun hc1 => ?_) (fun hc1 => ?_)
      · skip   -- c1.T
        (exfalso; first | (simp at hc1; omega) | (simp [rowMk] at hc1; done) | (simp [rowMk] at hc1; omega))
      · skip   -- c1.F
        refine SV.skip ?_
        refine SV.tn ?_
        refine SV.seq' ?_
        refine SV.region ?_
        refine SV.op (OpL.ok (nb := 0) (ok_move (v := V.one (.sc _)) (.inl rfl) rfl) rfl (gle rfl)) rfl ?_
        refine SV.op (OpL.ok (nb := 0) (ok_s2 (v := .int .i64 (q + (cntAll rowMk (X.take t) : Nat) + 1)) (x := .tmp 19) (x' := .const ((Value.int IntKind.i64 1))) (VScal.one rfl) (VScal.one rfl) (fun ρ h1 h2 w => by go_simp; all_goals ((try go_bits); first | with_reducible rfl | go_num | (simp; done) | (simp; omega))) rfl) rfl (gle rfl)) rfl ?_
        refine SV.op (OpL.ok (nb := 0) (ok_move (v := V.one (.sc _)) (.inr rfl) rfl) rfl (gle rfl)) rfl ?_
        refine SV.nil ?_
        refine SV.tn ?_
        refine SV.seq' ?_
        refine SV.seq' ?_
        refine SV.region ?_
        refine SV.op (OpL.ok (nb := 0) (ok_move (v := V.one (.ro _)) (.inl rfl) rfl) rfl (gle rfl)) rfl ?_
        refine SV.op (OpL.ok (nb := 0) (ok_move (v := V.one (.sc _)) (.inl rfl) rfl) rfl (gle rfl)) rfl ?_
        refine SV.op (OpL.ok (nb := 0) (ok_index (n := 3) (lf := .ro _) rfl elt_impl_Row.und sz_impl_Row rfl rfl rfl (map_at (by assumption))) rfl (gle rfl)) rfl ?_
        refine SV.op (OpL.ok (nb := 0) (ok_field_el (p := .rp _) (off := 1) rfl rfl rfl fld_impl_Row_1) rfl (gle rfl)) rfl ?_
        refine SV.op (OpL.ok (nb := 0) (ok_load_rp (ag := false) (m := 1) (ys := [.sc _]) rfl rfl agg_int sz_int (fun _ => rfl) (gle rfl) rfl) rfl (gle rfl)) rfl ?_
        refine SV.op (OpL.ok (nb := 0) (ok_move (v := V.one (.sc _)) (.inl rfl) rfl) rfl (gle rfl)) rfl ?_
        refine SV.op (OpL.ok (nb := 0) (ok_s2 (x := .tmp 25) (x' := .tmp 26) (VScal.one rfl) (VScal.one rfl) (fun ρ h1 h2 w => by go_simp; (try go_bits); with_reducible rfl) rfl) rfl (gle rfl)) rfl ?_
        refine SV.nil ?_
        refine SV.tn ?_
        refine SV.cond rfl (fun hc2 => ?_) (fun hc2 => ?_)
        · skip   -- c2.T
          (exfalso; first | (simp at hc2; omega) | (simp [rowMk] at hc2; done) | (simp [rowMk] at hc2; omega))
        · skip   -- c2.F
          refine SV.skip ?_
          refine SV.tn ?_
          refine SV.seq' ?_
          refine SV.region ?_
          refine SV.op (OpL.ok (nb := 0) (ok_move (v := V.one (.sc _)) (.inl rfl) rfl) rfl (gle rfl)) rfl ?_
          refine SV.op (OpL.ok (nb := 0) (ok_s2 (v := .int .i64 (q + (cntAll rowMk (X.take t) : Nat) + 1 + 1)) (x := .tmp 28) (x' := .const ((Value.int IntKind.i64 1))) (VScal.one rfl) (VScal.one rfl) (fun ρ h1 h2 w => by go_simp; all_goals ((try go_bits); first | with_reducible rfl | go_num | (simp; done) | (simp; omega))) rfl) rfl (gle rfl)) rfl ?_
          refine SV.op (OpL.ok (nb := 0) (ok_move (v := V.one (.sc _)) (.inr rfl) rfl) rfl (gle rfl)) rfl ?_
          refine SV.nil ?_
          refine SV.tn ?_
          refine SV.seq' ?_
          refine SV.seq' ?_
          refine SV.region ?_
          refine SV.op (OpL.ok (nb := 0) (ok_move (v := V.one (.ro _)) (.inl rfl) rfl) rfl (gle rfl)) rfl ?_
          refine SV.op (OpL.ok (nb := 0) (ok_move (v := V.one (.sc _)) (.inl rfl) rfl) rfl (gle rfl)) rfl ?_
          refine SV.op (OpL.ok (nb := 0) (ok_index (n := 3) (lf := .ro _) rfl elt_impl_Row.und sz_impl_Row rfl rfl rfl (map_at (by assumption))) rfl (gle rfl)) rfl ?_
          refine SV.op (OpL.ok (nb := 0) (ok_field_el (p := .rp _) (off := 2) rfl rfl rfl fld_impl_Row_2) rfl (gle rfl)) rfl ?_
          refine SV.op (OpL.ok (nb := 0) (ok_load_rp (ag := false) (m := 1) (ys := [.sc _]) rfl rfl agg_int sz_int (fun _ => rfl) (gle rfl) rfl) rfl (gle rfl)) rfl ?_
          refine SV.op (OpL.ok (nb := 0) (ok_move (v := V.one (.sc _)) (.inl rfl) rfl) rfl (gle rfl)) rfl ?_
          refine SV.op (OpL.ok (nb := 0) (ok_s2 (x := .tmp 34) (x' := .tmp 35) (VScal.one rfl) (VScal.one rfl) (fun ρ h1 h2 w => by go_simp; (try go_bits); with_reducible rfl) rfl) rfl (gle rfl)) rfl ?_
          refine SV.nil ?_
          refine SV.tn ?_
          refine SV.cond rfl (fun hc3 => ?_) (fun hc3 => ?_)
          · skip   -- c3.T
            (exfalso; first | (simp at hc3; omega) | (simp [rowMk] at hc3; done) | (simp [rowMk] at hc3; omega))
          · skip   -- c3.F
            refine SV.skip ?_
            refine SV.tn ?_
            refine SV.region ?_
            refine SV.op (OpL.ok (nb := 0) (ok_move (v := V.one (.sc _)) (.inl rfl) rfl) rfl (gle rfl)) rfl ?_
            refine SV.op (OpL.ok (nb := 0) (ok_s2 (v := .int .i64 (q + (cntAll rowMk (X.take t) : Nat) + 1 + 1 + 1)) (x := .tmp 37) (x' := .const ((Value.int IntKind.i64 1))) (VScal.one rfl) (VScal.one rfl) (fun ρ h1 h2 w => by go_simp; all_goals ((try go_bits); first | with_reducible rfl | go_num | (simp; done) | (simp; omega))) rfl) rfl (gle rfl)) rfl ?_
            refine SV.op (OpL.ok (nb := 0) (ok_move (v := V.one (.sc _)) (.inr rfl) rfl) rfl (gle rfl)) rfl ?_
            refine SV.nil ?_
            refine SV.bn ?_
            refine SV.tn ?_
            refine SV.region ?_
            refine SV.op (OpL.ok (nb := 0) (ok_move (v := V.one (.sc _)) (.inl rfl) rfl) rfl (gle rfl)) rfl ?_
            refine SV.op (OpL.ok (nb := 0) (ok_s2 (x := .tmp 10) (x' := .const ((Value.int IntKind.i64 1))) (VScal.one rfl) (VScal.one rfl) (fun ρ h1 h2 w => by go_simp; (try go_bits); with_reducible rfl) rfl) rfl (gle rfl)) rfl ?_
            refine SV.op (OpL.ok (nb := 0) (ok_move (v := V.one (.sc _)) (.inr rfl) rfl) rfl (gle rfl)) rfl ?_
            refine SV.nil ?_
            refine SV.tn ?_
            refine SV.again (fun i => [].getD i 0) (t + 1) (⟨by omega, by omega⟩) (pins hE rfl rfl) (VS.le.mk' (le_put (le_put (le_put le_nil (V.le.one rfl (by first | rfl | (show Leaf.sc _ = Leaf.sc _; refine congrArg Leaf.sc ?_; first | rfl | go_num | (simp [cntAll]; done)) | (simp [cntAll]; done) | (simp; omega)))) (V.le.one rfl (by first | rfl | (show Leaf.sc _ = Leaf.sc _; refine congrArg Leaf.sc ?_; first | rfl | go_num | (simp [cntAll]; done)) | (simp [cntAll]; done) | (simp; omega)))) (V.le.one rfl (by first | rfl | (show Leaf.sc _ = Leaf.sc _; refine congrArg Leaf.sc ?_; first | rfl | go_num | (simp [cntAll]; done)) | (simp [cntAll]; done) | (simp; omega)))) trivial trivial nil_ob (fun i j hi hj e => absurd hi (Nat.not_lt_zero i)))
    · skip   -- c0.F
      have hte : ¬ t < X.length := by simpa [mkAll_length] using hc0
      refine SV.exit ?_
      refine SV.te ?_
      refine SV.te ?_
      refine SV.bh ?_
      refine SV.tn ?_
      refine SV.seq' ?_
      refine SV.region ?_
      refine SV.op (OpL.ok (nb := 0) (ok_move (v := V.one (.sc _)) (.inl rfl) rfl) rfl (gle rfl)) rfl ?_
      refine SV.op (OpL.ok (nb := 0) (ok_move (v := V.one (.sc _)) (.inr rfl) rfl) rfl (gle rfl)) rfl ?_
      refine SV.nil ?_
      refine SV.tn ?_
      refine SV.ret ?_
      apply SV.done (hf := Try.results32) (ht := rfl) (he := .inl rfl)
      case hr => exact (ResAll.cons (ResOk.tmp (ag := false) (xs := [.sc _]) rfl) ResAll.nil')
      case h2 => simp [two]
      refine ⟨rfl, ⟨?_, trivial⟩, trivial⟩ <;> (show some (T.lit (Value.int .i64 _)) = some (T.lit (Value.int .i64 _)); rw [List.take_of_length_le (by omega)])
theorem vhd_rows (X : List R) (q : Int) (hq0 : 0 ≤ q) (hq1 : q + 64 * wtRows X ≤ 100000000000000) : VC Try.prog 32 [(false, [.seq 59 ((rowsMk.mark q X).map tRow)]), (false, [.lit (.int .i64 q)])] false [(false, [.lit (.int .i64 (q + (rowsMk.cnt X : Nat)))])] := by
  have h := vhd_rows' X q hq0 (by have h1 : wtRows X = X.length := rfl; omega)
  rw [rows_all, rows_cnt']
  exact h
set_option maxRecDepth 100000 in
set_option maxHeartbeats 2000000 in
theorem veq_row (x : R) : VC Try.prog 55 [(true, tRow x), (true, tRow x)] false [(false, [.lit (.bool true)])] := by
  refine VC.enter Try.func55 rfl Try.ntmps55 (gle rfl) fun E hE => ?_
  refine SV.seq' ?_
  refine SV.region ?_
  refine SV.op (OpMk.ok (ok_box (kk := 0) (ag := true) (xs := [.sc _, .sc _, .sc _]) rfl rfl rfl (fun h => by cases h) rfl rfl (gle rfl))) rfl ?_
  refine SV.op (OpMk.ok (ok_box (kk := 1) (ag := true) (xs := [.sc _, .sc _, .sc _]) rfl rfl rfl (fun h => by cases h) rfl rfl (gle rfl))) rfl ?_
  refine SV.op (OpL.ok (nb := 2) (ok_move (v := V.one (.sc _)) (.inr rfl) rfl) rfl (gle rfl)) rfl ?_
  refine SV.nil ?_
  refine SV.tn ?_
  refine SV.seq' ?_
  refine SV.seq' ?_
  refine SV.region ?_
  refine SV.op (OpL.ok (nb := 2) (ok_field_bp (b := 0) (o' := 0) (off := 0) rfl rfl fld_impl_Row_0) rfl (gle rfl)) rfl ?_
  refine SV.op (OpL.ok (nb := 2) (ok_load_bp (b := 0) (i := 0) (ag := false) (m := 1) (ys := [.sc _]) rfl rfl rfl agg_int sz_int (fun _ => rfl) rfl rfl (gle rfl)) rfl (gle rfl)) rfl ?_
  refine SV.op (OpL.ok (nb := 2) (ok_field_bp (b := 1) (o' := 0) (off := 0) rfl rfl fld_impl_Row_0) rfl (gle rfl)) rfl ?_
  refine SV.op (OpL.ok (nb := 2) (ok_load_bp (b := 1) (i := 0) (ag := false) (m := 1) (ys := [.sc _]) rfl rfl rfl agg_int sz_int (fun _ => rfl) rfl rfl (gle rfl)) rfl (gle rfl)) rfl ?_
  refine SV.op (OpL.ok (nb := 2) (ok_s2 (x := .tmp 6) (x' := .tmp 8) (VScal.one rfl) (VScal.one rfl) (fun ρ h1 h2 w => by go_simp; (try go_bits); with_reducible rfl) rfl) rfl (gle rfl)) rfl ?_
  refine SV.nil ?_
  refine SV.tn ?_
  refine SV.cond rfl (fun hc0 => ?_) (fun hc0 => ?_)
  · skip   -- c0.T
    simp at hc0
  · skip   -- c0.F
    refine SV.skip ?_
    refine SV.tn ?_
    refine SV.seq' ?_
    refine SV.seq' ?_
    refine SV.region ?_
    refine SV.op (OpL.ok (nb := 2) (ok_field_bp (b := 0) (o' := 0) (off := 1) rfl rfl fld_impl_Row_1) rfl (gle rfl)) rfl ?_
    refine SV.op (OpL.ok (nb := 2) (ok_load_bp (b := 0) (i := 1) (ag := false) (m := 1) (ys := [.sc _]) rfl rfl rfl agg_int sz_int (fun _ => rfl) rfl rfl (gle rfl)) rfl (gle rfl)) rfl ?_
    refine SV.op (OpL.ok (nb := 2) (ok_field_bp (b := 1) (o' := 0) (off := 1) rfl rfl fld_impl_Row_1) rfl (gle rfl)) rfl ?_
    refine SV.op (OpL.ok (nb := 2) (ok_load_bp (b := 1) (i := 1) (ag := false) (m := 1) (ys := [.sc _]) rfl rfl rfl agg_int sz_int (fun _ => rfl) rfl rfl (gle rfl)) rfl (gle rfl)) rfl ?_
    refine SV.op (OpL.ok (nb := 2) (ok_s2 (x := .tmp 11) (x' := .tmp 13) (VScal.one rfl) (VScal.one rfl) (fun ρ h1 h2 w => by go_simp; (try go_bits); with_reducible rfl) rfl) rfl (gle rfl)) rfl ?_
    refine SV.nil ?_
    refine SV.tn ?_
    refine SV.cond rfl (fun hc1 => ?_) (fun hc1 => ?_)
    · skip   -- c1.T
      simp at hc1
    · skip   -- c1.F
      refine SV.skip ?_
      refine SV.tn ?_
      refine SV.seq' ?_
      refine SV.seq' ?_
      refine SV.region ?_
      refine SV.op (OpL.ok (nb := 2) (ok_field_bp (b := 0) (o' := 0) (off := 2) rfl rfl fld_impl_Row_2) rfl (gle rfl)) rfl ?_
      refine SV.op (OpL.ok (nb := 2) (ok_load_bp (b := 0) (i := 2) (ag := false) (m := 1) (ys := [.sc _]) rfl rfl rfl agg_int sz_int (fun _ => rfl) rfl rfl (gle rfl)) rfl (gle rfl)) rfl ?_
      refine SV.op (OpL.ok (nb := 2) (ok_field_bp (b := 1) (o' := 0) (off := 2) rfl rfl fld_impl_Row_2) rfl (gle rfl)) rfl ?_
      refine SV.op (OpL.ok (nb := 2) (ok_load_bp (b := 1) (i := 2) (ag := false) (m := 1) (ys := [.sc _]) rfl rfl rfl agg_int sz_int (fun _ => rfl) rfl rfl (gle rfl)) rfl (gle rfl)) rfl ?_
      refine SV.op (OpL.ok (nb := 2) (ok_s2 (x := .tmp 16) (x' := .tmp 18) (VScal.one rfl) (VScal.one rfl) (fun ρ h1 h2 w => by go_simp; (try go_bits); with_reducible rfl) rfl) rfl (gle rfl)) rfl ?_
      refine SV.nil ?_
      refine SV.tn ?_
      refine SV.cond rfl (fun hc2 => ?_) (fun hc2 => ?_)
      · skip   -- c2.T
        simp at hc2
      · skip   -- c2.F
        refine SV.skip ?_
        refine SV.tn ?_
        refine SV.seq' ?_
        refine SV.region ?_
        refine SV.op (OpL.ok (nb := 2) (ok_move (v := V.one (.sc _)) (.inr rfl) rfl) rfl (gle rfl)) rfl ?_
        refine SV.nil ?_
        refine SV.tn ?_
        refine SV.ret ?_
        apply SV.done (hf := Try.results55) (ht := rfl) (he := .inl rfl)
        case hr => exact (ResAll.cons (ResOk.tmp (ag := false) (xs := [.sc _]) rfl) ResAll.nil')
        case h2 => simp [two]
        refine ⟨rfl, ⟨?_, trivial⟩, trivial⟩ <;> rfl
set_option maxRecDepth 100000 in
set_option maxHeartbeats 2000000 in
theorem veq_rows (X : List R) (hL : wtRows X ≤ 300000000000) : VC Try.prog 30 [(false, [.seq 59 (X.map tRow)]), (false, [.seq 59 (X.map tRow)])] false [(false, [.lit (.bool true)])] := by
  refine VC.enter Try.func30 rfl Try.ntmps30 (gle rfl) fun E hE => ?_
  have hlen := wt_row_len X
  refine SV.seq' ?_
  refine SV.region ?_
  refine SV.op (OpL.ok (nb := 0) (ok_move (v := V.one (.sc _)) (.inr rfl) rfl) rfl (gle rfl)) rfl ?_
  refine SV.nil ?_
  refine SV.tn ?_
  refine SV.seq' ?_
  refine SV.seq' ?_
  refine SV.region ?_
  refine SV.op (OpL.ok (nb := 0) (ok_move (v := V.one (.ro _)) (.inl rfl) rfl) rfl (gle rfl)) rfl ?_
  refine SV.op (OpL.ok (nb := 0) (ok_len (lf := .ro _) rfl elt_impl_Row.und rfl rfl) rfl (gle rfl)) rfl ?_
  refine SV.op (OpL.ok (nb := 0) (ok_move (v := V.one (.ro _)) (.inl rfl) rfl) rfl (gle rfl)) rfl ?_
  refine SV.op (OpL.ok (nb := 0) (ok_len (lf := .ro _) rfl elt_impl_Row.und rfl rfl) rfl (gle rfl)) rfl ?_
  refine SV.op (OpL.ok (nb := 0) (ok_s2 (x := .tmp 7) (x' := .tmp 9) (VScal.one rfl) (VScal.one rfl) (fun ρ h1 h2 w => by go_simp; (try go_bits); with_reducible rfl) rfl) rfl (gle rfl)) rfl ?_
  refine SV.nil ?_
  refine SV.tn ?_
  refine SV.cond rfl (fun hc0 => ?_) (fun hc0 => ?_)
  · skip   -- c0.T
    simp at hc0
  · skip   -- c0.F
    refine SV.skip ?_
    refine SV.tn ?_
    refine SV.seq' ?_
    refine SV.seq' ?_
    refine SV.region ?_
    refine SV.op (OpL.ok (nb := 0) (ok_move (v := V.one (.sc _)) (.inr rfl) rfl) rfl (gle rfl)) rfl ?_
    refine SV.nil ?_
    refine SV.tn ?_
    refine SV.block ?_
    refine SV.loop (X := Nat) (fun t => (((VS.nil.put 0 (V.one (.ro (.seq 59 (X.map tRow))))).put 1 (V.one (.ro (.seq 59 (X.map tRow))))).put 5 (V.one (.sc (.int .i64 (t : Int)))))) (fun t => t ≤ X.length) (fun t => X.length - t) ?_ ?_
    · skip
      refine SV.again (fun i => [].getD i 0) 0 (Nat.zero_le _) (pins hE rfl rfl) (VS.le.mk' (le_put (le_put (le_put le_nil (V.le.one rfl (by first | rfl | (show Leaf.sc _ = Leaf.sc _; refine congrArg Leaf.sc ?_; first | rfl | go_num | (simp [cntAll]; done)) | (simp [cntAll]; done) | (simp; omega)))) (V.le.one rfl (by first | rfl | (show Leaf.sc _ = Leaf.sc _; refine congrArg Leaf.sc ?_; first | rfl | go_num | (simp [cntAll]; done)) | (simp [cntAll]; done) | (simp; omega)))) (V.le.one rfl (by first | rfl | (show Leaf.sc _ = Leaf.sc _; refine congrArg Leaf.sc ?_; first | rfl | go_num | (simp [cntAll]; done)) | (simp [cntAll]; done) | (simp; omega)))) trivial trivial nil_ob (fun i j hi hj e => absurd hi (Nat.not_lt_zero i)))
    · rintro t ht
      refine SV.seq' ?_
      refine SV.seq' ?_
      refine SV.region ?_
      refine SV.op (OpL.ok (nb := 0) (ok_move (v := V.one (.sc _)) (.inl rfl) rfl) rfl (gle rfl)) rfl ?_
      refine SV.op (OpL.ok (nb := 0) (ok_move (v := V.one (.ro _)) (.inl rfl) rfl) rfl (gle rfl)) rfl ?_
      refine SV.op (OpL.ok (nb := 0) (ok_len (lf := .ro _) rfl elt_impl_Row.und rfl rfl) rfl (gle rfl)) rfl ?_
      refine SV.op (OpL.ok (nb := 0) (ok_s2 (x := .tmp 11) (x' := .tmp 13) (VScal.one rfl) (VScal.one rfl) (fun ρ h1 h2 w => by go_simp; (try go_bits); with_reducible rfl) rfl) rfl (gle rfl)) rfl ?_
      refine SV.nil ?_
      refine SV.tn ?_
      refine SV.cond rfl (fun hc1 => ?_) (fun hc1 => ?_)
      · skip   -- c1.T
        have htl : t < X.length := by simpa using hc1
        have hx : X[t]? = some X[t] := by simp [htl]
        refine SV.skip ?_
        refine SV.tn ?_
        refine SV.seq' ?_
        refine SV.block ?_
        refine SV.seq' ?_
        refine SV.draw [.q 0, .q 1, .q 2, .q 3, .q 4, .q 5, .q 6, .q 7, .m 8, .q 9] [] (by kernel_rfl) (by kernel_rfl) ?_
        refine DW.q rfl (ok_move (v := V.one (.ro _)) (.inl rfl) rfl) rfl rfl (gle rfl) (fun _ _ _ _ h => h) ?_
        refine DW.q rfl (ok_move (v := V.one (.sc _)) (.inl rfl) rfl) rfl rfl (gle rfl) (fun _ _ _ _ h => h) ?_
        refine DW.q rfl (ok_index (n := 3) (lf := .ro _) rfl elt_impl_Row.und sz_impl_Row rfl rfl rfl (map_at (by assumption))) rfl rfl (gle rfl) (fun _ _ _ _ h => h) ?_
        refine DW.q rfl (ok_load_rp (ag := true) (m := 3) (ys := [.sc _, .sc _, .sc _]) rfl rfl agg_impl_Row sz_impl_Row (fun h => by cases h) (gle rfl) rfl) rfl rfl (gle rfl) (fun _ _ _ _ h => h) ?_
        refine DW.q rfl (ok_move (v := V.one (.ro _)) (.inl rfl) rfl) rfl rfl (gle rfl) (fun _ _ _ _ h => h) ?_
        refine DW.q rfl (ok_move (v := V.one (.sc _)) (.inl rfl) rfl) rfl rfl (gle rfl) (fun _ _ _ _ h => h) ?_
        refine DW.q rfl (ok_index (n := 3) (lf := .ro _) rfl elt_impl_Row.und sz_impl_Row rfl rfl rfl (map_at (by assumption))) rfl rfl (gle rfl) (fun _ _ _ _ h => h) ?_
        refine DW.q rfl (ok_load_rp (ag := true) (m := 3) (ys := [.sc _, .sc _, .sc _]) rfl rfl agg_impl_Row sz_impl_Row (fun h => by cases h) (gle rfl) rfl) rfl rfl (gle rfl) (fun _ _ _ _ h => h) ?_
        refine DW.m [] rfl (ok_call (ls := [(false, [.sc _])]) rfl rfl ⟨_, _, Try.func55, rfl, by decide⟩ (veq_row X[t]) ⟨⟨[.sc _, .sc _, .sc _], rfl, ⟨rfl, rfl, rfl, trivial⟩⟩, ⟨[.sc _, .sc _, .sc _], rfl, ⟨rfl, rfl, rfl, trivial⟩⟩, trivial⟩ rfl (gle rfl)) rfl (gle rfl) (gle rfl) (.inl rfl) (fun j hj => by cases hj) ?_
        refine DW.q rfl (ok_s1 (x := .tmp 25) (VScal.one rfl) (fun ρ h1 w => by go_simp; (try go_bits); with_reducible rfl) rfl) rfl rfl (gle rfl) (fun _ _ _ _ h => h) ?_
        refine DW.stores ?_
        refine SV.zend ?_
        refine SV.tn ?_
        refine SV.cond rfl (fun hc2 => ?_) (fun hc2 => ?_)
        · skip   -- c2.T
          simp at hc2
        · skip   -- c2.F
          refine SV.skip ?_
          refine SV.bn ?_
          refine SV.tn ?_
          refine SV.region ?_
          refine SV.op (OpL.ok (nb := 0) (ok_move (v := V.one (.sc _)) (.inl rfl) rfl) rfl (gle rfl)) rfl ?_
          refine SV.op (OpL.ok (nb := 0) (ok_s2 (x := .tmp 15) (x' := .const ((Value.int IntKind.i64 1))) (VScal.one rfl) (VScal.one rfl) (fun ρ h1 h2 w => by go_simp; (try go_bits); with_reducible rfl) rfl) rfl (gle rfl)) rfl ?_
          refine SV.op (OpL.ok (nb := 0) (ok_move (v := V.one (.sc _)) (.inr rfl) rfl) rfl (gle rfl)) rfl ?_
          refine SV.nil ?_
          refine SV.tn ?_
          refine SV.again (fun i => [].getD i 0) (t + 1) (⟨by omega, by omega⟩) (pins hE rfl rfl) (VS.le.mk' (le_put (le_put (le_put le_nil (V.le.one rfl (by first | rfl | (show Leaf.sc _ = Leaf.sc _; refine congrArg Leaf.sc ?_; first | rfl | go_num | (simp [cntAll]; done)) | (simp [cntAll]; done) | (simp; omega)))) (V.le.one rfl (by first | rfl | (show Leaf.sc _ = Leaf.sc _; refine congrArg Leaf.sc ?_; first | rfl | go_num | (simp [cntAll]; done)) | (simp [cntAll]; done) | (simp; omega)))) (V.le.one rfl (by first | rfl | (show Leaf.sc _ = Leaf.sc _; refine congrArg Leaf.sc ?_; first | rfl | go_num | (simp [cntAll]; done)) | (simp [cntAll]; done) | (simp; omega)))) trivial trivial nil_ob (fun i j hi hj e => absurd hi (Nat.not_lt_zero i)))
      · skip   -- c1.F
        refine SV.exit ?_
        refine SV.te ?_
        refine SV.te ?_
        refine SV.bh ?_
        refine SV.tn ?_
        refine SV.seq' ?_
        refine SV.region ?_
        refine SV.op (OpL.ok (nb := 0) (ok_move (v := V.one (.sc _)) (.inr rfl) rfl) rfl (gle rfl)) rfl ?_
        refine SV.nil ?_
        refine SV.tn ?_
        refine SV.ret ?_
        apply SV.done (hf := Try.results30) (ht := rfl) (he := .inl rfl)
        case hr => exact (ResAll.cons (ResOk.tmp (ag := false) (xs := [.sc _]) rfl) ResAll.nil')
        case h2 => simp [two]
        refine ⟨rfl, ⟨?_, trivial⟩, trivial⟩ <;> rfl
set_option maxRecDepth 100000 in
set_option maxHeartbeats 2000000 in
theorem vto_row (x : R) : VC Try.prog 54 [(true, uRow x)] false [(true, tRow x)] := by
  refine VC.enter Try.func54 rfl Try.ntmps54 (gle rfl) fun E hE => ?_
  refine SV.seq' ?_
  refine SV.region ?_
  refine SV.op (OpMk.ok (ok_box (kk := 0) (ag := true) (xs := [.sc _, .sc _, .sc _]) rfl rfl rfl (fun h => by cases h) rfl rfl (gle rfl))) rfl ?_
  refine SV.op (OpMk.ok (ok_alloc (kk := 1) (xs := [.sc _, .sc _, .sc _]) rfl rfl zero_impl_Row ⟨rfl, rfl, rfl, rfl, rfl, rfl, trivial⟩ rfl (gle rfl))) rfl ?_
  refine SV.nil ?_
  refine SV.tn ?_
  refine SV.seq' ?_
  refine SV.region ?_
  refine SV.op (OpMk.ok (ok_alloc (kk := 2) (xs := [.sc _, .sc _, .sc _]) rfl rfl zero_impl_Row ⟨rfl, rfl, rfl, rfl, rfl, rfl, trivial⟩ rfl (gle rfl))) rfl ?_
  refine SV.nil ?_
  refine SV.tn ?_
  refine SV.seq' ?_
  refine SV.region ?_
  refine SV.op (OpL.ok (nb := 3) (ok_field_bp (b := 0) (o' := 0) (off := 0) rfl rfl fld_laws_Row_0) rfl (gle rfl)) rfl ?_
  refine SV.op (OpL.ok (nb := 3) (ok_load_bp (b := 0) (i := 0) (ag := false) (m := 1) (ys := [.sc _]) rfl rfl rfl agg_int sz_int (fun _ => rfl) rfl rfl (gle rfl)) rfl (gle rfl)) rfl ?_
  refine SV.op (OpL.ok (nb := 3) (ok_field_bp (b := 2) (o' := 0) (off := 0) rfl rfl fld_impl_Row_0) rfl (gle rfl)) rfl ?_
  refine SV.op (ok_store_bp (b := 2) (i := 0) (m := 1) (ag := false) (zs := [.sc _]) (ys := [.sc _, .sc _, .sc _]) rfl rfl rfl rfl sz_int (fun _ => rfl) rfl (gle rfl) rfl rfl rfl) rfl ?_
  refine SV.nil ?_
  refine SV.tn ?_
  refine SV.seq' ?_
  refine SV.region ?_
  refine SV.op (OpL.ok (nb := 3) (ok_field_bp (b := 0) (o' := 0) (off := 1) rfl rfl fld_laws_Row_1) rfl (gle rfl)) rfl ?_
  refine SV.op (OpL.ok (nb := 3) (ok_load_bp (b := 0) (i := 1) (ag := false) (m := 1) (ys := [.sc _]) rfl rfl rfl agg_int sz_int (fun _ => rfl) rfl rfl (gle rfl)) rfl (gle rfl)) rfl ?_
  refine SV.op (OpL.ok (nb := 3) (ok_field_bp (b := 2) (o' := 0) (off := 1) rfl rfl fld_impl_Row_1) rfl (gle rfl)) rfl ?_
  refine SV.op (ok_store_bp (b := 2) (i := 1) (m := 1) (ag := false) (zs := [.sc _]) (ys := [.sc _, .sc _, .sc _]) rfl rfl rfl rfl sz_int (fun _ => rfl) rfl (gle rfl) rfl rfl rfl) rfl ?_
  refine SV.nil ?_
  refine SV.tn ?_
  refine SV.seq' ?_
  refine SV.region ?_
  refine SV.op (OpL.ok (nb := 3) (ok_field_bp (b := 0) (o' := 0) (off := 2) rfl rfl fld_laws_Row_2) rfl (gle rfl)) rfl ?_
  refine SV.op (OpL.ok (nb := 3) (ok_load_bp (b := 0) (i := 2) (ag := false) (m := 1) (ys := [.sc _]) rfl rfl rfl agg_int sz_int (fun _ => rfl) rfl rfl (gle rfl)) rfl (gle rfl)) rfl ?_
  refine SV.op (OpL.ok (nb := 3) (ok_field_bp (b := 2) (o' := 0) (off := 2) rfl rfl fld_impl_Row_2) rfl (gle rfl)) rfl ?_
  refine SV.op (ok_store_bp (b := 2) (i := 2) (m := 1) (ag := false) (zs := [.sc _]) (ys := [.sc _, .sc _, .sc _]) rfl rfl rfl rfl sz_int (fun _ => rfl) rfl (gle rfl) rfl rfl rfl) rfl ?_
  refine SV.nil ?_
  refine SV.tn ?_
  refine SV.seq' ?_
  refine SV.region ?_
  refine SV.op (OpL.ok (nb := 3) (ok_load_bp (b := 2) (i := 0) (ag := true) (m := 3) (ys := [.sc _, .sc _, .sc _]) rfl rfl rfl agg_impl_Row sz_impl_Row (fun h => by cases h) rfl rfl (gle rfl)) rfl (gle rfl)) rfl ?_
  refine SV.op (ok_store_bp (b := 1) (i := 0) (m := 3) (ag := true) (zs := [.sc _, .sc _, .sc _]) (ys := [.sc _, .sc _, .sc _]) rfl rfl rfl rfl sz_impl_Row (fun h => by cases h) rfl (gle rfl) rfl rfl rfl) rfl ?_
  refine SV.nil ?_
  refine SV.tn ?_
  refine SV.ret ?_
  apply SV.done (hf := Try.results54) (ht := rfl) (he := .inl rfl)
  case hr => exact (ResAll.cons (ResOk.cell (b := 1) (ag := true) (xs := [.sc _, .sc _, .sc _]) rfl rfl agg_impl_Row sz_impl_Row (fun h => by cases h)) ResAll.nil')
  case h2 => simp [two]
  refine ⟨rfl, ⟨?_, ?_, ?_, trivial⟩, trivial⟩ <;> rfl
set_option maxRecDepth 100000 in
set_option maxHeartbeats 2000000 in
theorem vto_rows (X : List R) (hL : wtRows X ≤ 300000000000) : VC Try.prog 29 [(false, [.seq 68 (X.map uRow)])] false [(false, [.seq 59 (X.map tRow)])] := by
  refine VC.enter Try.func29 rfl Try.ntmps29 (gle rfl) fun E hE => ?_
  have hlen := wt_row_len X
  refine SV.seq' ?_
  refine SV.region ?_
  refine SV.op (OpL.ok (nb := 0) (ok_move (v := V.one (.sc _)) (.inr rfl) rfl) rfl (gle rfl)) rfl ?_
  refine SV.nil ?_
  refine SV.tn ?_
  refine SV.seq' ?_
  refine SV.region ?_
  refine SV.op (OpL.ok (nb := 0) (ok_move (v := V.one (.ro _)) (.inl rfl) rfl) rfl (gle rfl)) rfl ?_
  refine SV.op (OpL.ok (nb := 0) (ok_len (lf := .ro _) rfl elt_laws_Row.und rfl rfl) rfl (gle rfl)) rfl ?_
  refine SV.op (OpMk.ok (ok_make (kk := 0) (zs := [.sc _, .sc _, .sc _]) elt_impl_Row rfl rfl rfl rfl ⟨rfl, rfl, rfl, rfl, rfl, rfl, trivial⟩ rfl (by rw [List.length_map]; omega) rfl (gle rfl))) rfl ?_
  refine SV.op (OpL.ok (nb := 0) (ok_move (v := V.one (.hd 0)) (.inr rfl) rfl) rfl (gle rfl)) rfl ?_
  refine SV.nil ?_
  refine SV.tn ?_
  refine SV.seq' ?_
  refine SV.seq' ?_
  refine SV.region ?_
  refine SV.op (OpL.ok (nb := 0) (ok_move (v := V.one (.sc _)) (.inr rfl) rfl) rfl (gle rfl)) rfl ?_
  refine SV.nil ?_
  refine SV.tn ?_
  refine SV.block ?_
  refine SV.loop (X := Nat) (fun t => ((((VS.nil.new (.seq 59 (toL tRow zRow X t))).put 0 (V.one (.ro (.seq 68 (X.map uRow))))).put 3 (V.one (.hd 0))).put 4 (V.one (.sc (.int .i64 (t : Int)))))) (fun t => t ≤ X.length) (fun t => X.length - t) ?_ ?_
  · skip
    refine SV.again (fun i => [0].getD i 0) 0 (Nat.zero_le _) (pins hE rfl rfl) (VS.le.mk' (le_put (le_put (le_put (le_new le_nil) (V.le.one rfl (by first | rfl | (show Leaf.sc _ = Leaf.sc _; refine congrArg Leaf.sc ?_; first | rfl | go_num | (simp [cntAll]; done)) | (simp [cntAll]; done) | (simp; omega)))) (V.le.one rfl ⟨rfl, (gle rfl), (gle rfl)⟩)) (V.le.one rfl (by first | rfl | (show Leaf.sc _ = Leaf.sc _; refine congrArg Leaf.sc ?_; first | rfl | go_num | (simp [cntAll]; done)) | (simp [cntAll]; done) | (simp; omega)))) trivial ⟨.inr ⟨_, _, rfl, ?ob1_0, (gle rfl)⟩, trivial⟩ (new_ob nil_ob) (fun i j hi hj e => inj_list (l := [0]) (by decide) i j hi hj e))
    case ob1_0 =>
      show some (T.seq _ _) = some (T.seq _ _)
      rw [toL_zero, List.length_map]
      rfl
  · rintro t ht
    refine SV.seq' ?_
    refine SV.seq' ?_
    refine SV.region ?_
    refine SV.op (OpL.ok (nb := 0) (ok_move (v := V.one (.sc _)) (.inl rfl) rfl) rfl (gle rfl)) rfl ?_
    refine SV.op (OpL.ok (nb := 0) (ok_move (v := V.one (.ro _)) (.inl rfl) rfl) rfl (gle rfl)) rfl ?_
    refine SV.op (OpL.ok (nb := 0) (ok_len (lf := .ro _) rfl elt_laws_Row.und rfl rfl) rfl (gle rfl)) rfl ?_
    refine SV.op (OpL.ok (nb := 0) (ok_s2 (x := .tmp 8) (x' := .tmp 10) (VScal.one rfl) (VScal.one rfl) (fun ρ h1 h2 w => by go_simp; (try go_bits); with_reducible rfl) rfl) rfl (gle rfl)) rfl ?_
    refine SV.nil ?_
    refine SV.tn ?_
    refine SV.cond rfl (fun hc0 => ?_) (fun hc0 => ?_)
    · skip   -- c0.T
      have htl : t < X.length := by simpa using hc0
      have hx : X[t]? = some X[t] := by simp [htl]
      refine SV.skip ?_
      refine SV.tn ?_
      refine SV.seq' ?_
      refine SV.block ?_
      refine SV.region ?_
      refine SV.op (OpL.ok (nb := 0) (ok_move (v := V.one (.hd 0)) (.inl rfl) rfl) rfl (gle rfl)) rfl ?_
      refine SV.op (OpL.ok (nb := 0) (ok_move (v := V.one (.sc _)) (.inl rfl) rfl) rfl (gle rfl)) rfl ?_
      refine SV.op (OpL.ok (nb := 0) (ok_move (v := V.one (.ro _)) (.inl rfl) rfl) rfl (gle rfl)) rfl ?_
      refine SV.op (OpL.ok (nb := 0) (ok_move (v := V.one (.sc _)) (.inl rfl) rfl) rfl (gle rfl)) rfl ?_
      refine SV.op (OpL.ok (nb := 0) (ok_index (n := 3) (lf := .ro _) rfl elt_laws_Row.und sz_laws_Row rfl rfl rfl (map_at (by assumption))) rfl (gle rfl)) rfl ?_
      refine SV.op (OpL.ok (nb := 0) (ok_load_rp (ag := true) (m := 3) (ys := [.sc _, .sc _, .sc _]) rfl rfl agg_laws_Row sz_laws_Row (fun h => by cases h) (gle rfl) rfl) rfl (gle rfl)) rfl ?_
      refine SV.op (OpMk.ok (ok_call (ls := [(true, [.sc _, .sc _, .sc _])]) rfl rfl ⟨_, _, Try.func54, rfl, by decide⟩ (vto_row X[t]) ⟨⟨[.sc _, .sc _, .sc _], rfl, ⟨rfl, rfl, rfl, trivial⟩⟩, trivial⟩ rfl (gle rfl))) rfl ?_
      refine SV.op (OpL.ok (nb := 0) (ok_index (n := 3) (lf := .hd 0) rfl elt_impl_Row.und sz_impl_Row rfl rfl rfl (toL_at htl)) rfl (gle rfl)) rfl ?_
      refine SV.op (ok_store_ep (i := 0) (n := 3) (m := 3) (ag := true) (zs := [.sc _, .sc _, .sc _]) rfl rfl rfl rfl (toL_at htl) sz_impl_Row (fun h => by cases h) rfl sz_impl_Row (gle rfl) (outs_c rfl (outs_c rfl (outs_c rfl outs_n))) (by simp [two]) rfl rfl rfl) rfl ?_
      refine SV.nil ?_
      refine SV.bn ?_
      refine SV.tn ?_
      refine SV.region ?_
      refine SV.op (OpL.ok (nb := 0) (ok_move (v := V.one (.sc _)) (.inl rfl) rfl) rfl (gle rfl)) rfl ?_
      refine SV.op (OpL.ok (nb := 0) (ok_s2 (x := .tmp 12) (x' := .const ((Value.int IntKind.i64 1))) (VScal.one rfl) (VScal.one rfl) (fun ρ h1 h2 w => by go_simp; (try go_bits); with_reducible rfl) rfl) rfl (gle rfl)) rfl ?_
      refine SV.op (OpL.ok (nb := 0) (ok_move (v := V.one (.sc _)) (.inr rfl) rfl) rfl (gle rfl)) rfl ?_
      refine SV.nil ?_
      refine SV.tn ?_
      refine SV.again (fun i => [0].getD i 0) (t + 1) (⟨by omega, by omega⟩) (pins hE rfl rfl) (VS.le.mk' (le_put (le_put (le_put (le_new le_nil) (V.le.one rfl (by first | rfl | (show Leaf.sc _ = Leaf.sc _; refine congrArg Leaf.sc ?_; first | rfl | go_num | (simp [cntAll]; done)) | (simp [cntAll]; done) | (simp; omega)))) (V.le.one rfl ⟨rfl, (gle rfl), (gle rfl)⟩)) (V.le.one rfl (by first | rfl | (show Leaf.sc _ = Leaf.sc _; refine congrArg Leaf.sc ?_; first | rfl | go_num | (simp [cntAll]; done)) | (simp [cntAll]; done) | (simp; omega)))) trivial ⟨.inr ⟨_, _, rfl, ?ob2_0, (gle rfl)⟩, trivial⟩ (new_ob nil_ob) (fun i j hi hj e => inj_list (l := [0]) (by decide) i j hi hj e))
      case ob2_0 =>
        show some (T.seq _ _) = some (T.seq _ _)
        rw [← toL_next htl]
        rfl
    · skip   -- c0.F
      have hte : ¬ t < X.length := by simpa using hc0
      refine SV.exit ?_
      refine SV.te ?_
      refine SV.te ?_
      refine SV.bh ?_
      refine SV.tn ?_
      refine SV.seq' ?_
      refine SV.region ?_
      refine SV.op (OpL.ok (nb := 0) (ok_move (v := V.one (.hd 0)) (.inl rfl) rfl) rfl (gle rfl)) rfl ?_
      refine SV.op (OpL.ok (nb := 0) (ok_move (v := V.one (.hd 0)) (.inr rfl) rfl) rfl (gle rfl)) rfl ?_
      refine SV.nil ?_
      refine SV.tn ?_
      refine SV.ret ?_
      apply SV.done (hf := Try.results29) (ht := rfl) (he := .inl rfl)
      case hr => exact (ResAll.cons (ResOk.tmp (ag := false) (xs := [.hd 0]) rfl) ResAll.nil')
      case h2 => simp [two]
      refine ⟨rfl, ⟨?_, trivial⟩, trivial⟩ <;> (show some (T.seq _ _) = some (T.seq _ _); rw [toL_all hte])
end Go.Proofs.Ytfionajnoaednaa
