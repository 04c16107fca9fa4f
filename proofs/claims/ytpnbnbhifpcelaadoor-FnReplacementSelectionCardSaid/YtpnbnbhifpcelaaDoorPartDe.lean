/- Texts joined: VRuns Iup Validi Arei VCmp IRows PruI RoIn RoMem RoDel VHb PruSel PruB PruV PruF JoinT Frowi Strs. -/
import Derived.Test.YtpnbnbhifpcelaaDoorPartDd
import Derived.Deep.OwnRows
import Derived.Laws.IdiomCopy
import Derived.Deep.RegionLaw
import Derived.Deep.CutRange
import Derived.Test.YtpnbnbhifpcelaaDoorShelf
import Derived.Deep.RegionHeld3
import Derived.Lib.SmallJoins
set_option linter.unusedSimpArgs false
set_option linter.unusedVariables false
/- The law of runs, over the program's contracts: told by trees. -/
namespace Go.Proofs.YtpnbnbhifpcelaaDoor
open Go Go.RowKit V
set_option linter.unusedVariables false
theorem VCD.to11 {Φ : World → Prop} {f : FuncId} {ins rs : List (Bool × List V.T)} {tup : Bool} (h : ∀ w, Φ w → Tab w) (k : VCD Tryd.prog f ins tup rs) : VCP Φ Tryd.prog f ins tup rs := fun w hw => k w (h w hw)
theorem VCE.to11 {Y : Type} {Φ Ψ : World → Prop} {Pr : Y → Prop} {f : FuncId} {ins : List (Bool × List V.T)} {tup : Bool} {rs : Y → List (Bool × List V.T)} (h : ∀ w, Φ w → Ψ w) (k : VCE Ψ Pr Tryd.prog f ins tup rs) : VCE Φ Pr Tryd.prog f ins tup rs := fun w hw => k w (h w hw)
theorem vbig11 {ad : Option Addr} {len cap : Nat} {zs : List Int} : VCP (fun w => Code ad len cap zs w ∧ Tab w) Tryd.prog 4 [(false, [.lit (.slice ad len cap)])] false [(false, [.lit (.bool false)])] := fun w hw vs hv => VC.plainAt (ins := [(false, [.slice ad len cap])]) (ag := false) (rs := [.bool false]) (fun u hu => by rw [List.mem_singleton.1 hu]; rfl) ((big_no ad len cap w hw.1.small).mono fun e w' ⟨he, hw'⟩ => ⟨he, hw' ▸ Below.refl _ _⟩) vs hv
set_option maxRecDepth 100000 in
set_option maxHeartbeats 2000000 in
theorem vlaw_runs (ad : Option Addr) (len cap : Nat) (zs : List Int) (ibuild : ∀ (l : List R) (m : Int), (∀ r ∈ l, r.wf) → l.length ≤ 1000000000 → VC Tryd.prog 6 [(false, [.seq 50 (l.map tRow)]), (false, [.lit (.int .i64 m)])] true [(false, [.seq 39 ((Runs.build l m).map tRun)]), (false, [.lit (.bool (Runs.can l m))])]) (ivalid : ∀ X : List (List R), (∀ p ∈ X, ∀ r ∈ p, r.wf) → (∀ p ∈ X, p.length ≤ 1000000000) → X.length ≤ 1048576 → X.flatten.length ≤ 1000000000 → VC Tryd.prog 11 [(false, [.seq 39 (X.map tRun)])] false [(false, [.lit (.bool (Runs.okRuns X))])]) (ifmt : ∀ X : List (List R), (∀ p ∈ X, ∀ r ∈ p, r.wf) → (∀ p ∈ X, p.length ≤ 1000000000) → X.length ≤ 1048576 → X.flatten.length ≤ 1000000000 → VCD Tryd.prog 13 [(false, [.seq 39 (X.map tRun)])] false [(false, [.lit (.string ⟨(Runs.fmtRuns X).toArray⟩)])]) (iflat : ∀ X : List (List R), (∀ p ∈ X, ∀ r ∈ p, r.wf) → (∀ p ∈ X, p.length ≤ 1000000000) → X.length ≤ 1048576 → X.flatten.length ≤ 1000000000 → VC Tryd.prog 18 [(false, [.seq 39 (X.map tRun)])] false [(false, [.seq 50 (X.flatten.map tRow)])]) (iidx : ∀ l : List R, l.length ≤ 1000000000 → VC Tryd.prog 15 [(false, [.seq 50 (l.map tRow)])] false [(false, [.lit (.int .i64 (Runs.idxMin l))])]) : VCP (fun w => Code ad len cap zs w ∧ Tab w) Tryd.prog 3 [(false, [.lit (.slice ad len cap)])] false [(false, [.lit (.bool true)])] := by
  refine VCP.enter (fun w w' h hb => ⟨h.1.below hb, h.2.stay hb⟩) Tryd.func3 rfl Tryd.ntmps3 (gle rfl) fun E hE hD => ?_
  refine SV.seq' ?_
  refine SV.region ?_
  refine SV.op (OpL.ok (nb := 0) (ok_move (v := V.one (.sc _)) (.inr rfl) rfl) rfl (gle rfl)) rfl ?_
  refine SV.nil ?_
  refine SV.tn ?_
  refine SV.seq' ?_
  refine SV.seq' ?_
  refine SV.region ?_
  refine SV.op (OpL.ok (nb := 0) (ok_move (v := V.one (.sc _)) (.inl rfl) rfl) rfl (gle rfl)) rfl ?_
  refine SV.op (OpMk.ok (ok_callP (ls := [(false, [.sc _])]) hD rfl rfl ⟨_, _, Tryd.func4, rfl, by decide⟩ (vbig11) ⟨⟨[.sc _], rfl, ⟨rfl, trivial⟩⟩, trivial⟩ rfl (gle rfl))) rfl ?_
  refine SV.nil ?_
  refine SV.tn ?_
  refine SV.cond rfl (fun hc0 => ?_) (fun hc0 => ?_)
  · skip   -- c0.T
    simp at hc0
  · skip   -- c0.F
    refine SV.skip ?_
    refine SV.tn ?_
    refine SV.seq' ?_
    refine SV.region ?_
    refine SV.op (OpL.ok (nb := 0) (ok_move (v := V.one (.sc _)) (.inl rfl) rfl) rfl (gle rfl)) rfl ?_
    refine SV.callE hD rfl ⟨_, _, Tryd.func5, rfl, by decide⟩ (VCE.to11 (fun w h => h.1) vd_build) ⟨⟨[.sc _], rfl, ⟨rfl, trivial⟩⟩, trivial⟩ rfl (gle rfl) rfl ?_
    rintro ⟨l, m⟩ ⟨hl0, hW⟩
    replace hl0 : l.length ≤ 17 := hl0
    replace hW : ∀ r ∈ l, r.wf := hW
    obtain ⟨hbW, hbp, hbl, hbf⟩ := build_small (m := m) hW
    have hbp2 : ∀ p ∈ Runs.build l m, p.length ≤ 1000000000 := fun p hp => by have := hbp p hp; omega
    refine SV.op (OpL.ok (nb := 0) (ok_move (v := ⟨true, [(false, [.hd 0]), (false, [.sc _])]⟩) (.inl rfl) rfl) rfl (gle rfl)) rfl ?_
    refine SV.op (OpL.ok (nb := 0) (ok_extract (ag := false) (xs := [.hd 0]) rfl rfl rfl) rfl (gle rfl)) rfl ?_
    refine SV.op (OpL.ok (nb := 0) (ok_extract (ag := false) (xs := [.sc _]) rfl rfl rfl) rfl (gle rfl)) rfl ?_
    refine SV.op (OpL.ok (nb := 0) (ok_move (v := V.one (.hd 0)) (.inr rfl) rfl) rfl (gle rfl)) rfl ?_
    refine SV.op (OpL.ok (nb := 0) (ok_move (v := V.one (.sc _)) (.inr rfl) rfl) rfl (gle rfl)) rfl ?_
    refine SV.nil ?_
    refine SV.tn ?_
    refine SV.seq' ?_
    refine SV.region ?_
    refine SV.op (OpL.ok (nb := 0) (ok_move (v := V.one (.hd 0)) (.inl rfl) rfl) rfl (gle rfl)) rfl ?_
    refine SV.op (OpL.ok (nb := 0) (ok_move (v := V.one (.sc _)) (.inl rfl) rfl) rfl (gle rfl)) rfl ?_
    refine SV.op (OpMk.ok (ok_call (ls := [(false, [.hd 1]), (false, [.sc _])]) rfl rfl ⟨_, _, Tryd.func6, rfl, by decide⟩ (ibuild l m hW (by omega)) ⟨⟨[.hd 0], rfl, ⟨rfl, trivial⟩⟩, ⟨[.sc _], rfl, ⟨rfl, trivial⟩⟩, trivial⟩ rfl (gle rfl))) rfl ?_
    refine SV.op (OpL.ok (nb := 0) (ok_move (v := ⟨true, [(false, [.hd 1]), (false, [.sc _])]⟩) (.inl rfl) rfl) rfl (gle rfl)) rfl ?_
    refine SV.op (OpL.ok (nb := 0) (ok_extract (ag := false) (xs := [.hd 1]) rfl rfl rfl) rfl (gle rfl)) rfl ?_
    refine SV.op (OpL.ok (nb := 0) (ok_extract (ag := false) (xs := [.sc _]) rfl rfl rfl) rfl (gle rfl)) rfl ?_
    refine SV.op (OpL.ok (nb := 0) (ok_move (v := V.one (.hd 1)) (.inr rfl) rfl) rfl (gle rfl)) rfl ?_
    refine SV.op (OpL.ok (nb := 0) (ok_move (v := V.one (.sc _)) (.inr rfl) rfl) rfl (gle rfl)) rfl ?_
    refine SV.nil ?_
    refine SV.tn ?_
    refine SV.seq' ?_
    refine SV.region ?_
    refine SV.op (OpL.ok (nb := 0) (ok_move (v := V.one (.hd 0)) (.inl rfl) rfl) rfl (gle rfl)) rfl ?_
    refine SV.op (OpL.ok (nb := 0) (ok_move (v := V.one (.sc _)) (.inl rfl) rfl) rfl (gle rfl)) rfl ?_
    refine SV.op (OpMk.ok (ok_call (ls := [(false, [.hd 2]), (false, [.sc _])]) rfl rfl ⟨_, _, Tryd.func7, rfl, by decide⟩ (vbuild_s l m hW (by omega)) ⟨⟨[.hd 0], rfl, ⟨rfl, trivial⟩⟩, ⟨[.sc _], rfl, ⟨rfl, trivial⟩⟩, trivial⟩ rfl (gle rfl))) rfl ?_
    refine SV.op (OpL.ok (nb := 0) (ok_move (v := ⟨true, [(false, [.hd 2]), (false, [.sc _])]⟩) (.inl rfl) rfl) rfl (gle rfl)) rfl ?_
    refine SV.op (OpL.ok (nb := 0) (ok_extract (ag := false) (xs := [.hd 2]) rfl rfl rfl) rfl (gle rfl)) rfl ?_
    refine SV.op (OpL.ok (nb := 0) (ok_extract (ag := false) (xs := [.sc _]) rfl rfl rfl) rfl (gle rfl)) rfl ?_
    refine SV.op (OpL.ok (nb := 0) (ok_move (v := V.one (.hd 2)) (.inr rfl) rfl) rfl (gle rfl)) rfl ?_
    refine SV.op (OpL.ok (nb := 0) (ok_move (v := V.one (.sc _)) (.inr rfl) rfl) rfl (gle rfl)) rfl ?_
    refine SV.nil ?_
    refine SV.tn ?_
    refine SV.seq' ?_
    refine SV.region ?_
    refine SV.op (OpL.ok (nb := 0) (ok_move (v := V.one (.sc _)) (.inl rfl) rfl) rfl (gle rfl)) rfl ?_
    refine SV.callE hD rfl ⟨_, _, Tryd.func8, rfl, by decide⟩ (VCE.to11 (fun w h => h.1) vd_runs) ⟨⟨[.sc _], rfl, ⟨rfl, trivial⟩⟩, trivial⟩ rfl (gle rfl) rfl ?_
    rintro X ⟨hX, hXk⟩
    have hXW : ∀ p ∈ X, ∀ r ∈ p, r.wf := fun p hp => (hXk p hp).2
    have hXp : ∀ p ∈ X, p.length ≤ 1000000000 := fun p hp => by have := (hXk p hp).1; omega
    have hXf : X.flatten.length ≤ 1000000000 := by have := flat_small (n := 4) fun p hp => (hXk p hp).1; omega
    refine SV.op (OpL.ok (nb := 0) (ok_move (v := V.one (.hd 3)) (.inr rfl) rfl) rfl (gle rfl)) rfl ?_
    refine SV.nil ?_
    refine SV.tn ?_
    refine SV.seq' ?_
    refine SV.region ?_
    refine SV.op (OpL.ok (nb := 0) (ok_move (v := V.one (.sc _)) (.inl rfl) rfl) rfl (gle rfl)) rfl ?_
    refine SV.callE hD rfl ⟨_, _, Tryd.func9, rfl, by decide⟩ (VCE.to11 (fun w h => h.1) vd_idx) ⟨⟨[.sc _], rfl, ⟨rfl, trivial⟩⟩, trivial⟩ rfl (gle rfl) rfl ?_
    rintro Z ⟨hZ, hZW⟩
    refine SV.op (OpL.ok (nb := 0) (ok_move (v := V.one (.hd 4)) (.inr rfl) rfl) rfl (gle rfl)) rfl ?_
    refine SV.nil ?_
    refine SV.tn ?_
    refine SV.seq' ?_
    refine SV.seq' ?_
    refine SV.region ?_
    refine SV.op (OpL.ok (nb := 0) (ok_move (v := V.one (.sc _)) (.inl rfl) rfl) rfl (gle rfl)) rfl ?_
    refine SV.op (OpL.ok (nb := 0) (ok_move (v := V.one (.sc _)) (.inl rfl) rfl) rfl (gle rfl)) rfl ?_
    refine SV.op (OpL.ok (nb := 0) (ok_s2 (x := .tmp 35) (x' := .tmp 36) (VScal.one rfl) (VScal.one rfl) (fun ρ h1 h2 w => by go_simp; (try go_bits); with_reducible rfl) rfl) rfl (gle rfl)) rfl ?_
    refine SV.op (OpL.ok (nb := 0) (ok_move (v := V.one (.sc _)) (.inl rfl) rfl) rfl (gle rfl)) rfl ?_
    refine SV.split (d := 38) rfl (fun hg0 => ?_) (fun hg0 => ?_)
    · skip   -- g0.T
      (exfalso; first | (simp at hg0; done) | (simp at hg0; omega))
    · skip   -- g0.F
      refine SV.opY (OpL.ok (nb := 0) (ok_move (v := V.one (.hd 1)) (.inl rfl) rfl) rfl (gle rfl)) rfl rfl rfl (gle rfl) rfl rfl ?_
      refine SV.opY (OpL.ok (nb := 0) (ok_move (v := V.one (.hd 2)) (.inl rfl) rfl) rfl (gle rfl)) rfl rfl rfl (gle rfl) rfl rfl ?_
      refine SV.opY (OpMk.ok (ok_call (ls := [(false, [.sc _])]) rfl rfl ⟨_, _, Tryd.func10, rfl, by decide⟩ (vsamer11 (Runs.build l m) hbW hbp2 (by omega)) ⟨⟨[.hd 1], rfl, ⟨rfl, trivial⟩⟩, ⟨[.hd 2], rfl, ⟨rfl, trivial⟩⟩, trivial⟩ rfl (gle rfl))) rfl rfl rfl (gle rfl) rfl rfl ?_
      refine SV.opY (OpL.ok (nb := 0) (ok_s1 (x := .tmp 41) (VScal.one rfl) (fun ρ h1 w => by go_simp; (try go_bits); with_reducible rfl) rfl) rfl (gle rfl)) rfl rfl rfl (gle rfl) rfl rfl ?_
      refine SV.op (OpL.ok (nb := 0) (ok_pickF (v := V.one (.sc _)) rfl rfl rfl) rfl (gle rfl)) rfl ?_
      refine SV.op (OpL.ok (nb := 0) (ok_move (v := V.one (.sc _)) (.inl rfl) rfl) rfl (gle rfl)) rfl ?_
      refine SV.split (d := 44) rfl (fun hg1 => ?_) (fun hg1 => ?_)
      · skip   -- g1.T
        (exfalso; first | (simp at hg1; done) | (simp at hg1; omega))
      · skip   -- g1.F
        refine SV.opY (OpL.ok (nb := 0) (ok_move (v := V.one (.hd 3)) (.inl rfl) rfl) rfl (gle rfl)) rfl rfl rfl (gle rfl) rfl rfl ?_
        refine SV.opY (OpMk.ok (ok_call (ls := [(false, [.sc _])]) rfl rfl ⟨_, _, Tryd.func11, rfl, by decide⟩ (ivalid X hXW hXp (by omega) hXf) ⟨⟨[.hd 3], rfl, ⟨rfl, trivial⟩⟩, trivial⟩ rfl (gle rfl))) rfl rfl rfl (gle rfl) rfl rfl ?_
        refine SV.opY (OpL.ok (nb := 0) (ok_move (v := V.one (.hd 3)) (.inl rfl) rfl) rfl (gle rfl)) rfl rfl rfl (gle rfl) rfl rfl ?_
        refine SV.opY (OpMk.ok (ok_call (ls := [(false, [.sc _])]) rfl rfl ⟨_, _, Tryd.func12, rfl, by decide⟩ (vokruns_s X hXW hXp (by omega)) ⟨⟨[.hd 3], rfl, ⟨rfl, trivial⟩⟩, trivial⟩ rfl (gle rfl))) rfl rfl rfl (gle rfl) rfl rfl ?_
        refine SV.opY (OpL.ok (nb := 0) (ok_s2 (x := .tmp 46) (x' := .tmp 48) (VScal.one rfl) (VScal.one rfl) (fun ρ h1 h2 w => by go_simp; (try go_bits); with_reducible rfl) rfl) rfl (gle rfl)) rfl rfl rfl (gle rfl) rfl rfl ?_
        refine SV.op (OpL.ok (nb := 0) (ok_pickF (v := V.one (.sc _)) rfl rfl rfl) rfl (gle rfl)) rfl ?_
        refine SV.op (OpL.ok (nb := 0) (ok_move (v := V.one (.sc _)) (.inl rfl) rfl) rfl (gle rfl)) rfl ?_
        refine SV.split (d := 51) rfl (fun hg2 => ?_) (fun hg2 => ?_)
        · skip   -- g2.T
          (exfalso; first | (simp at hg2; done) | (simp at hg2; omega))
        · skip   -- g2.F
          refine SV.opY (OpL.ok (nb := 0) (ok_move (v := V.one (.hd 3)) (.inl rfl) rfl) rfl (gle rfl)) rfl rfl rfl (gle rfl) rfl rfl ?_
          refine SV.opY (OpMk.ok (ok_callP (ls := [(false, [.sc _])]) hD rfl rfl ⟨_, _, Tryd.func13, rfl, by decide⟩ (VCD.to11 (fun w h => h.2) (ifmt X hXW hXp (by omega) hXf)) ⟨⟨[.hd 3], rfl, ⟨rfl, trivial⟩⟩, trivial⟩ rfl (gle rfl))) rfl rfl rfl (gle rfl) rfl rfl ?_
          refine SV.opY (OpL.ok (nb := 0) (ok_move (v := V.one (.hd 3)) (.inl rfl) rfl) rfl (gle rfl)) rfl rfl rfl (gle rfl) rfl rfl ?_
          refine SV.opY (OpMk.ok (ok_call (ls := [(false, [.sc _])]) rfl rfl ⟨_, _, Tryd.func14, rfl, by decide⟩ (vfruns_s X hXW hXp (by omega)) ⟨⟨[.hd 3], rfl, ⟨rfl, trivial⟩⟩, trivial⟩ rfl (gle rfl))) rfl rfl rfl (gle rfl) rfl rfl ?_
          refine SV.opY (OpL.ok (nb := 0) (ok_s2 (x := .tmp 53) (x' := .tmp 55) (VScal.one rfl) (VScal.one rfl) (fun ρ h1 h2 w => by go_simp; (try go_bits); with_reducible rfl) rfl) rfl (gle rfl)) rfl rfl rfl (gle rfl) rfl rfl ?_
          refine SV.op (OpL.ok (nb := 0) (ok_pickF (v := V.one (.sc _)) rfl rfl rfl) rfl (gle rfl)) rfl ?_
          refine SV.op (OpL.ok (nb := 0) (ok_move (v := V.one (.sc _)) (.inl rfl) rfl) rfl (gle rfl)) rfl ?_
          refine SV.split (d := 58) rfl (fun hg3 => ?_) (fun hg3 => ?_)
          · skip   -- g3.T
            (exfalso; first | (simp at hg3; done) | (simp at hg3; omega))
          · skip   -- g3.F
            refine SV.opY (OpL.ok (nb := 0) (ok_move (v := V.one (.hd 4)) (.inl rfl) rfl) rfl (gle rfl)) rfl rfl rfl (gle rfl) rfl rfl ?_
            refine SV.opY (OpMk.ok (ok_call (ls := [(false, [.sc _])]) rfl rfl ⟨_, _, Tryd.func15, rfl, by decide⟩ (iidx Z (by omega)) ⟨⟨[.hd 4], rfl, ⟨rfl, trivial⟩⟩, trivial⟩ rfl (gle rfl))) rfl rfl rfl (gle rfl) rfl rfl ?_
            refine SV.opY (OpL.ok (nb := 0) (ok_move (v := V.one (.hd 4)) (.inl rfl) rfl) rfl (gle rfl)) rfl rfl rfl (gle rfl) rfl rfl ?_
            refine SV.opY (OpMk.ok (ok_call (ls := [(false, [.sc _])]) rfl rfl ⟨_, _, Tryd.func16, rfl, by decide⟩ (vidx_s Z (by omega)) ⟨⟨[.hd 4], rfl, ⟨rfl, trivial⟩⟩, trivial⟩ rfl (gle rfl))) rfl rfl rfl (gle rfl) rfl rfl ?_
            refine SV.opY (OpL.ok (nb := 0) (ok_s2 (x := .tmp 60) (x' := .tmp 62) (VScal.one rfl) (VScal.one rfl) (fun ρ h1 h2 w => by go_simp; (try go_bits); with_reducible rfl) rfl) rfl (gle rfl)) rfl rfl rfl (gle rfl) rfl rfl ?_
            refine SV.op (OpL.ok (nb := 0) (ok_pickF (v := V.one (.sc _)) rfl rfl rfl) rfl (gle rfl)) rfl ?_
            refine SV.op (OpL.ok (nb := 0) (ok_move (v := V.one (.sc _)) (.inl rfl) rfl) rfl (gle rfl)) rfl ?_
            refine SV.split (d := 65) rfl (fun hg4 => ?_) (fun hg4 => ?_)
            · skip   -- g4.T
              (exfalso; first | (simp at hg4; done) | (simp at hg4; omega))
            · skip   -- g4.F
              refine SV.opY (OpL.ok (nb := 0) (ok_move (v := V.one (.hd 3)) (.inl rfl) rfl) rfl (gle rfl)) rfl rfl rfl (gle rfl) rfl rfl ?_
              refine SV.opY (OpMk.ok (ok_call (ls := [(false, [.hd 5])]) rfl rfl ⟨_, _, Tryd.func18, rfl, by decide⟩ (iflat X hXW hXp (by omega) hXf) ⟨⟨[.hd 3], rfl, ⟨rfl, trivial⟩⟩, trivial⟩ rfl (gle rfl))) rfl rfl rfl (gle rfl) rfl rfl ?_
              refine SV.opY (OpL.ok (nb := 0) (ok_move (v := V.one (.hd 3)) (.inl rfl) rfl) rfl (gle rfl)) rfl rfl rfl (gle rfl) rfl rfl ?_
              refine SV.opY (OpMk.ok (ok_call (ls := [(false, [.hd 6])]) rfl rfl ⟨_, _, Tryd.func19, rfl, by decide⟩ (vflat_s X (by omega) hXf) ⟨⟨[.hd 3], rfl, ⟨rfl, trivial⟩⟩, trivial⟩ rfl (gle rfl))) rfl rfl rfl (gle rfl) rfl rfl ?_
              refine SV.opY (OpMk.ok (ok_call (ls := [(false, [.sc _])]) rfl rfl ⟨_, _, Tryd.func17, rfl, by decide⟩ (vsame11 X.flatten (fun r hr => by obtain ⟨p, hp, hr2⟩ := List.mem_flatten.1 hr; exact hXW p hp r hr2) hXf) ⟨⟨[.hd 5], rfl, ⟨rfl, trivial⟩⟩, ⟨[.hd 6], rfl, ⟨rfl, trivial⟩⟩, trivial⟩ rfl (gle rfl))) rfl rfl rfl (gle rfl) rfl rfl ?_
              refine SV.opY (OpL.ok (nb := 0) (ok_s1 (x := .tmp 70) (VScal.one rfl) (fun ρ h1 w => by go_simp; (try go_bits); with_reducible rfl) rfl) rfl (gle rfl)) rfl rfl rfl (gle rfl) rfl rfl ?_
              refine SV.op (OpL.ok (nb := 0) (ok_pickF (v := V.one (.sc _)) rfl rfl rfl) rfl (gle rfl)) rfl ?_
              refine SV.nil ?_
              refine SV.tn ?_
              refine SV.cond rfl (fun hc1 => ?_) (fun hc1 => ?_)
              · skip   -- c1.T
                (exfalso; first | (simp at hc1; done) | (simp at hc1; omega))
              · skip   -- c1.F
                refine SV.skip ?_
                refine SV.tn ?_
                refine SV.seq' ?_
                refine SV.seq' ?_
                refine SV.region ?_
                refine SV.op (OpL.ok (nb := 0) (ok_move (v := V.one (.sc _)) (.inl rfl) rfl) rfl (gle rfl)) rfl ?_
                refine SV.op (OpL.ok (nb := 0) (ok_s1 (x := .tmp 73) (VScal.one rfl) (fun ρ h1 w => by go_simp; (try go_bits); with_reducible rfl) rfl) rfl (gle rfl)) rfl ?_
                refine SV.nil ?_
                refine SV.tn ?_
                refine SV.cond rfl (fun hc2 => ?_) (fun hc2 => ?_)
                · skip   -- c2.T
                  have hc : Runs.can l m = false := by simpa using hc2
                  have hge : Runs.build l m = [] := by unfold Runs.build; rw [if_neg (by rw [hc]; decide)]
                  refine SV.seq' ?_
                  refine SV.region ?_
                  refine SV.op (OpL.ok (nb := 0) (ok_move (v := V.one (.hd 1)) (.inl rfl) rfl) rfl (gle rfl)) rfl ?_
                  refine SV.op (OpL.ok (nb := 0) (ok_len (lf := .hd 1) rfl elt_impl_Run.und rfl rfl) rfl (gle rfl)) rfl ?_
                  refine SV.op (OpL.ok (nb := 0) (ok_s2 (x := .tmp 76) (x' := .const ((Value.int IntKind.i64 0))) (VScal.one rfl) (VScal.one rfl) (fun ρ h1 h2 w => by go_simp; (try go_bits); with_reducible rfl) rfl) rfl (gle rfl)) rfl ?_
                  refine SV.op (OpL.ok (nb := 0) (ok_move (v := V.one (.sc _)) (.inr rfl) rfl) rfl (gle rfl)) rfl ?_
                  refine SV.nil ?_
                  refine SV.tn ?_
                  refine SV.ret ?_
                  refine SV.tr ?_
                  apply SV.done (hf := Tryd.results3) (ht := rfl) (he := .inl rfl)
                  case hr => exact (ResAll.cons (ResOk.tmp (ag := false) (xs := [.sc _]) rfl) ResAll.nil')
                  case h2 => simp [two]
                  refine ⟨rfl, ⟨?_, trivial⟩, trivial⟩ <;> first | rfl | ((show some (T.lit (Value.bool _)) = some (T.lit (Value.bool _)); refine congrArg (fun z => some (T.lit (Value.bool z))) ?_; first | (rw [hge]; rfl) | (simp; omega) | (rw [decide_eq_true_iff]; have h1 := hone (by have h := of_decide_eq_false hg7; omega); omega)))
                · skip   -- c2.F
                  have hc : Runs.can l m = true := by simpa using hc2
                  obtain ⟨hperm, hrun, hcost, hone⟩ := Runs.build_facts hc
                  have hm : 8 ≤ m ∧ m ≤ 60 := by have h := hc; unfold Runs.can Runs.isMem at h; rw [Bool.and_eq_true, decide_eq_true_eq] at h; exact h.2
                  have hiv := ivalid (Runs.build l m) hbW hbp2 (by omega) (by omega)
                  rw [Runs.build_ok hc] at hiv
                  have hbg := vbags11 (Runs.build l m).flatten l (fun r hr => hW r (hperm.mem_iff.1 hr)) hW (by omega) (by omega)
                  rw [Runs.build_bag hc] at hbg
                  refine SV.skip ?_
                  refine SV.tn ?_
                  refine SV.seq' ?_
                  refine SV.seq' ?_
                  refine SV.region ?_
                  refine SV.op (OpL.ok (nb := 0) (ok_move (v := V.one (.sc _)) (.inr rfl) rfl) rfl (gle rfl)) rfl ?_
                  refine SV.nil ?_
                  refine SV.tn ?_
                  refine SV.block ?_
                  refine SV.loopF (X := Nat) (fun (σ : VS) t => (((((((VS.nil.new (σ.tree 0)).new (σ.tree 1)).put 2 (σ.tm 2)).put 3 (V.flat false [.hd 0])).put 4 (σ.tm 4)).put 5 (V.flat false [.hd 1])).put 11 (V.flat false [.sc (.int .i64 ((t : Int)))]))) (fun t => t ≤ (Runs.build l m).length) (fun t => (Runs.build l m).length - t) ?_ ?_
                  · skip
                    refine SV.again (fun i => [0, 1].getD i 0) 0 ((Nat.zero_le _)) (pins hE rfl rfl) (VS.le.mk' (le_put (le_put (le_put (le_put (le_put (le_new (le_new le_nil)) (V.le.keep (ag := false) (xs := [.sc _]) (ys := [.sc _]) rfl rfl ⟨rfl, trivial⟩)) (V.le.keep (ag := false) (xs := [.hd 0]) (ys := [.hd 0]) rfl rfl ⟨⟨rfl, (gle rfl), (gle rfl)⟩, trivial⟩)) (V.le.keep (ag := false) (xs := [.sc _]) (ys := [.sc _]) rfl rfl ⟨rfl, trivial⟩)) (V.le.keep (ag := false) (xs := [.hd 1]) (ys := [.hd 1]) rfl rfl ⟨⟨rfl, (gle rfl), (gle rfl)⟩, trivial⟩)) (V.le.keep (ag := false) (xs := [.sc _]) (ys := [.sc _]) rfl rfl ⟨(by first | rfl | (show Leaf.sc _ = Leaf.sc _; refine congrArg Leaf.sc ?_; first | rfl | go_num | (simp [cntAll]; done)) | (simp [cntAll]; done) | (simp; omega)), trivial⟩)) trivial ⟨.inr ⟨_, _, rfl, rfl, (gle rfl)⟩, ⟨.inr ⟨_, _, rfl, rfl, (gle rfl)⟩, trivial⟩⟩ (new_ob (new_ob nil_ob)) (fun i j hi hj e => inj_list (l := [0, 1]) (by decide) i j hi hj e))
                  · rintro t ht
                    refine SV.seq' ?_
                    refine SV.seq' ?_
                    refine SV.region ?_
                    refine SV.op (OpL.ok (nb := 0) (ok_move (v := V.one (.sc _)) (.inl rfl) rfl) rfl (gle rfl)) rfl ?_
                    refine SV.op (OpL.ok (nb := 0) (ok_s2 (v := .int .i64 ((t : Int) + 1)) (x := .tmp 78) (x' := .const ((Value.int IntKind.i64 1))) (VScal.one rfl) (VScal.one rfl) (fun ρ h1 h2 w => by go_simp; rw [IntWalk.i64_left, IntWalk.wrap64_in _ ⟨by omega, by omega⟩]) rfl) rfl (gle rfl)) rfl ?_
                    refine SV.op (OpL.ok (nb := 0) (ok_move (v := V.one (.hd 1)) (.inl rfl) rfl) rfl (gle rfl)) rfl ?_
                    refine SV.op (OpL.ok (nb := 0) (ok_len (lf := .hd 1) rfl elt_impl_Run.und rfl rfl) rfl (gle rfl)) rfl ?_
                    refine SV.op (OpL.ok (nb := 0) (ok_s2 (x := .tmp 79) (x' := .tmp 81) (VScal.one rfl) (VScal.one rfl) (fun ρ h1 h2 w => by go_simp; (try go_bits); with_reducible rfl) rfl) rfl (gle rfl)) rfl ?_
                    refine SV.nil ?_
                    refine SV.tn ?_
                    refine SV.cond rfl (fun hc3 => ?_) (fun hc3 => ?_)
                    · skip   -- c3.T
                      have htl : t + 1 < (Runs.build l m).length := by simp at hc3; omega
                      obtain ⟨p, hx⟩ : ∃ p, (Runs.build l m)[t]? = some p := ⟨_, List.getElem?_eq_getElem (by omega)⟩
                      have hcp := hcost t p htl hx
                      refine SV.skip ?_
                      refine SV.tn ?_
                      refine SV.seq' ?_
                      refine SV.block ?_
                      refine SV.seq' ?_
                      refine SV.region ?_
                      refine SV.op (OpL.ok (nb := 0) (ok_move (v := V.one (.hd 1)) (.inl rfl) rfl) rfl (gle rfl)) rfl ?_
                      refine SV.op (OpL.ok (nb := 0) (ok_move (v := V.one (.sc _)) (.inl rfl) rfl) rfl (gle rfl)) rfl ?_
                      refine SV.op (OpL.ok (nb := 0) (ok_index (n := 1) (lf := .hd 1) rfl elt_impl_Run.und sz_impl_Run rfl rfl rfl (map_at hx)) rfl (gle rfl)) rfl ?_
                      refine SV.op (OpL.ok (nb := 0) (ok_field_el (p := .ep 1 _ _ _) (off := 0) rfl rfl (cells_ep rfl (map_at hx) rfl rfl) fld_impl_Run_0) rfl (gle rfl)) rfl ?_
                      refine SV.op (ok_load_el (p := .ep 1 _ _ _) (ag := false) (m := 1) (ys := [.nd 1 _ _ (some _)]) rfl rfl (cells_ep rfl (map_at hx) rfl rfl) agg_s_impl_Row sz_s_impl_Row (fun _ => rfl) (gle rfl) rfl rfl (gle rfl)) rfl ?_
                      refine SV.op (OpMk.ok (ok_call (ls := [(false, [.sc _])]) rfl rfl ⟨_, _, Tryd.func20, rfl, by decide⟩ (vtotal_t p (hbW p (List.mem_of_getElem? hx)) (hbp2 p (List.mem_of_getElem? hx))) ⟨⟨[.nd 1 _ _ (some _)], rfl, ⟨rfl, trivial⟩⟩, trivial⟩ rfl (gle rfl))) rfl ?_
                      refine SV.op (OpL.ok (nb := 0) (ok_move (v := V.one (.sc _)) (.inl rfl) rfl) rfl (gle rfl)) rfl ?_
                      refine SV.op (OpL.ok (nb := 0) (ok_s2 (v := .int .i64 (m - 3)) (x := .tmp 91) (x' := .const ((Value.int IntKind.i64 3))) (VScal.one rfl) (VScal.one rfl) (fun ρ h1 h2 w => by go_simp; rw [IntWalk.i64_left, IntWalk.wrap64_in _ ⟨by omega, by omega⟩]) rfl) rfl (gle rfl)) rfl ?_
                      refine SV.op (OpL.ok (nb := 0) (ok_s2 (v := .int .i64 (m - 4)) (x := .tmp 92) (x' := .const ((Value.int IntKind.i64 1))) (VScal.one rfl) (VScal.one rfl) (fun ρ h1 h2 w => by go_simp; rw [IntWalk.i64_left, IntWalk.wrap64_in _ ⟨by omega, by omega⟩]; omega) rfl) rfl (gle rfl)) rfl ?_
                      refine SV.op (OpL.ok (nb := 0) (ok_s2 (x := .tmp 90) (x' := .tmp 93) (VScal.one rfl) (VScal.one rfl) (fun ρ h1 h2 w => by go_simp; (try go_bits); with_reducible rfl) rfl) rfl (gle rfl)) rfl ?_
                      refine SV.nil ?_
                      refine SV.tn ?_
                      refine SV.cond rfl (fun hc4 => ?_) (fun hc4 => ?_)
                      · skip   -- c4.T
                        (exfalso; simp at hc4; omega)
                      · skip   -- c4.F
                        refine SV.skip ?_
                        refine SV.bn ?_
                        refine SV.tn ?_
                        refine SV.region ?_
                        refine SV.op (OpL.ok (nb := 0) (ok_move (v := V.one (.sc _)) (.inl rfl) rfl) rfl (gle rfl)) rfl ?_
                        refine SV.op (OpL.ok (nb := 0) (ok_s2 (x := .tmp 83) (x' := .const ((Value.int IntKind.i64 1))) (VScal.one rfl) (VScal.one rfl) (fun ρ h1 h2 w => by go_simp; (try go_bits); with_reducible rfl) rfl) rfl (gle rfl)) rfl ?_
                        refine SV.op (OpL.ok (nb := 0) (ok_move (v := V.one (.sc _)) (.inr rfl) rfl) rfl (gle rfl)) rfl ?_
                        refine SV.nil ?_
                        refine SV.tn ?_
                        refine SV.again (fun i => [0, 1].getD i 0) (t + 1) (⟨by omega, by omega⟩) (pins hE rfl rfl) (VS.le.mk' (le_put (le_put (le_put (le_put (le_put (le_new (le_new le_nil)) (V.le.keep (ag := false) (xs := [.sc _]) (ys := [.sc _]) rfl rfl ⟨rfl, trivial⟩)) (V.le.keep (ag := false) (xs := [.hd 0]) (ys := [.hd 0]) rfl rfl ⟨⟨rfl, (gle rfl), (gle rfl)⟩, trivial⟩)) (V.le.keep (ag := false) (xs := [.sc _]) (ys := [.sc _]) rfl rfl ⟨rfl, trivial⟩)) (V.le.keep (ag := false) (xs := [.hd 1]) (ys := [.hd 1]) rfl rfl ⟨⟨rfl, (gle rfl), (gle rfl)⟩, trivial⟩)) (V.le.keep (ag := false) (xs := [.sc _]) (ys := [.sc _]) rfl rfl ⟨(by first | rfl | (show Leaf.sc _ = Leaf.sc _; refine congrArg Leaf.sc ?_; first | rfl | go_num | (simp [cntAll]; done)) | (simp [cntAll]; done) | (simp; omega)), trivial⟩)) trivial ⟨.inr ⟨_, _, rfl, rfl, (gle rfl)⟩, ⟨.inr ⟨_, _, rfl, rfl, (gle rfl)⟩, trivial⟩⟩ (new_ob (new_ob nil_ob)) (fun i j hi hj e => inj_list (l := [0, 1]) (by decide) i j hi hj e))
                    · skip   -- c3.F
                      refine SV.exit ?_
                      refine SV.te ?_
                      refine SV.te ?_
                      refine SV.bh ?_
                      refine SV.tn ?_
                      refine SV.seq' ?_
                      refine SV.region ?_
                      refine SV.op (OpL.ok (nb := 0) (ok_move (v := V.one (.hd 1)) (.inl rfl) rfl) rfl (gle rfl)) rfl ?_
                      refine SV.op (OpMk.ok (ok_call (ls := [(false, [.sc _])]) rfl rfl ⟨_, _, Tryd.func11, rfl, by decide⟩ (hiv) ⟨⟨[.hd 1], rfl, ⟨rfl, trivial⟩⟩, trivial⟩ rfl (gle rfl))) rfl ?_
                      refine SV.op (OpL.ok (nb := 0) (ok_move (v := V.one (.sc _)) (.inl rfl) rfl) rfl (gle rfl)) rfl ?_
                      refine SV.split (d := 97) rfl (fun hg5 => ?_) (fun hg5 => ?_)
                      · skip   -- g5.T
                        refine SV.opY (OpL.ok (nb := 0) (ok_move (v := V.one (.hd 1)) (.inl rfl) rfl) rfl (gle rfl)) rfl rfl rfl (gle rfl) rfl rfl ?_
                        refine SV.opY (OpMk.ok (ok_call (ls := [(false, [.hd 2])]) rfl rfl ⟨_, _, Tryd.func18, rfl, by decide⟩ (iflat (Runs.build l m) hbW hbp2 (by omega) (by omega)) ⟨⟨[.hd 1], rfl, ⟨rfl, trivial⟩⟩, trivial⟩ rfl (gle rfl))) rfl rfl rfl (gle rfl) rfl rfl ?_
                        refine SV.opY (OpL.ok (nb := 0) (ok_move (v := V.one (.hd 0)) (.inl rfl) rfl) rfl (gle rfl)) rfl rfl rfl (gle rfl) rfl rfl ?_
                        refine SV.opY (OpMk.ok (ok_call (ls := [(false, [.sc _])]) rfl rfl ⟨_, _, Tryd.func21, rfl, by decide⟩ (hbg) ⟨⟨[.hd 2], rfl, ⟨rfl, trivial⟩⟩, ⟨[.hd 0], rfl, ⟨rfl, trivial⟩⟩, trivial⟩ rfl (gle rfl))) rfl rfl rfl (gle rfl) rfl rfl ?_
                        refine SV.op (OpL.ok (nb := 0) (ok_pickT (v := V.one (.sc _)) rfl rfl rfl) rfl (gle rfl)) rfl ?_
                        refine SV.op (OpL.ok (nb := 0) (ok_move (v := V.one (.sc _)) (.inl rfl) rfl) rfl (gle rfl)) rfl ?_
                        refine SV.split (d := 103) rfl (fun hg6 => ?_) (fun hg6 => ?_)
                        · skip   -- g6.T
                          refine SV.opY (OpL.ok (nb := 0) (ok_move (v := V.one (.hd 0)) (.inl rfl) rfl) rfl (gle rfl)) rfl rfl rfl (gle rfl) rfl rfl ?_
                          refine SV.opY (OpMk.ok (ok_call (ls := [(false, [.sc _])]) rfl rfl ⟨_, _, Tryd.func20, rfl, by decide⟩ (vtotal_t l hW (by omega)) ⟨⟨[.hd 0], rfl, ⟨rfl, trivial⟩⟩, trivial⟩ rfl (gle rfl))) rfl rfl rfl (gle rfl) rfl rfl ?_
                          refine SV.opY (OpL.ok (nb := 0) (ok_move (v := V.one (.sc _)) (.inl rfl) rfl) rfl (gle rfl)) rfl rfl rfl (gle rfl) rfl rfl ?_
                          refine SV.opY (OpL.ok (nb := 0) (ok_s2 (x := .tmp 105) (x' := .tmp 106) (VScal.one rfl) (VScal.one rfl) (fun ρ h1 h2 w => by go_simp; (try go_bits); with_reducible rfl) rfl) rfl (gle rfl)) rfl rfl rfl (gle rfl) rfl rfl ?_
                          refine SV.opY (OpL.ok (nb := 0) (ok_move (v := V.one (.sc _)) (.inl rfl) rfl) rfl (gle rfl)) rfl rfl rfl (gle rfl) rfl rfl ?_
                          refine SV.split (d := 108) rfl (fun hg7 => ?_) (fun hg7 => ?_)
                          · skip   -- g7.T
                            refine SV.opN rfl rfl rfl (gle rfl) rfl rfl rfl (gle rfl) ?_
                            refine SV.opN rfl rfl rfl (gle rfl) rfl rfl rfl (gle rfl) ?_
                            refine SV.opN rfl rfl rfl (gle rfl) rfl rfl rfl (gle rfl) ?_
                            refine SV.opY (OpL.ok (nb := 0) (ok_pickT (v := V.one (.sc _)) rfl rfl rfl) rfl (gle rfl)) rfl rfl rfl (gle rfl) rfl rfl ?_
                            refine SV.op (OpL.ok (nb := 0) (ok_pickT (v := V.one (.sc _)) rfl rfl rfl) rfl (gle rfl)) rfl ?_
                            refine SV.op (OpL.ok (nb := 0) (ok_move (v := V.one (.sc _)) (.inr rfl) rfl) rfl (gle rfl)) rfl ?_
                            refine SV.nil ?_
                            refine SV.tn ?_
                            refine SV.ret ?_
                            apply SV.done (hf := Tryd.results3) (ht := rfl) (he := .inl rfl)
                            case hr => exact (ResAll.cons (ResOk.tmp (ag := false) (xs := [.sc _]) rfl) ResAll.nil')
                            case h2 => simp [two]
                            refine ⟨rfl, ⟨?_, trivial⟩, trivial⟩ <;> first | rfl | ((show some (T.lit (Value.bool _)) = some (T.lit (Value.bool _)); refine congrArg (fun z => some (T.lit (Value.bool z))) ?_; first | (rw [hge]; rfl) | (simp; omega) | (rw [decide_eq_true_iff]; have h1 := hone (by have h := of_decide_eq_false hg7; omega); omega)))
                          · skip   -- g7.F
                            refine SV.opY (OpL.ok (nb := 0) (ok_move (v := V.one (.hd 1)) (.inl rfl) rfl) rfl (gle rfl)) rfl rfl rfl (gle rfl) rfl rfl ?_
                            refine SV.opY (OpL.ok (nb := 0) (ok_len (lf := .hd 1) rfl elt_impl_Run.und rfl rfl) rfl (gle rfl)) rfl rfl rfl (gle rfl) rfl rfl ?_
                            refine SV.opY (OpL.ok (nb := 0) (ok_s2 (x := .tmp 110) (x' := .const ((Value.int IntKind.i64 1))) (VScal.one rfl) (VScal.one rfl) (fun ρ h1 h2 w => by go_simp; (try go_bits); with_reducible rfl) rfl) rfl (gle rfl)) rfl rfl rfl (gle rfl) rfl rfl ?_
                            refine SV.opY (OpL.ok (nb := 0) (ok_pickF (v := V.one (.sc _)) rfl rfl rfl) rfl (gle rfl)) rfl rfl rfl (gle rfl) rfl rfl ?_
                            refine SV.op (OpL.ok (nb := 0) (ok_pickT (v := V.one (.sc _)) rfl rfl rfl) rfl (gle rfl)) rfl ?_
                            refine SV.op (OpL.ok (nb := 0) (ok_move (v := V.one (.sc _)) (.inr rfl) rfl) rfl (gle rfl)) rfl ?_
                            refine SV.nil ?_
                            refine SV.tn ?_
                            refine SV.ret ?_
                            apply SV.done (hf := Tryd.results3) (ht := rfl) (he := .inl rfl)
                            case hr => exact (ResAll.cons (ResOk.tmp (ag := false) (xs := [.sc _]) rfl) ResAll.nil')
                            case h2 => simp [two]
                            refine ⟨rfl, ⟨?_, trivial⟩, trivial⟩ <;> first | rfl | ((show some (T.lit (Value.bool _)) = some (T.lit (Value.bool _)); refine congrArg (fun z => some (T.lit (Value.bool z))) ?_; first | (rw [hge]; rfl) | (simp; omega) | (rw [decide_eq_true_iff]; have h1 := hone (by have h := of_decide_eq_false hg7; omega); omega)))
                        · skip   -- g6.F
                          (exfalso; first | (simp at hg6; done) | (simp at hg6; omega))
                      · skip   -- g5.F
                        (exfalso; first | (simp at hg5; done) | (simp at hg5; omega))
end Go.Proofs.YtpnbnbhifpcelaaDoor
/- The program's isUpTo, by contract. -/
namespace Go.Proofs.YtpnbnbhifpcelaaDoor
open Go.RowKit
theorem iup (n b : Int) (w : World) : Calls Tryd.prog 63 #[.int .i64 n, .int .i64 b] w fun e w' => e = .returned (.bool (decide (0 ≤ n ∧ n ≤ b))) ∧ w = w' := by
  go_enter Tryd.func63, Tryd.ntmps63
  go_wp2
  all_goals go_ret
  all_goals simp_all
  all_goals omega
end Go.Proofs.YtpnbnbhifpcelaaDoor
/- The program's IsValidRow and RowCost, by contract. -/
namespace Go.Proofs.YtpnbnbhifpcelaaDoor
open Go.RowKit
theorem ivalid (r : R) (w : World) : Calls Tryd.prog 48 #[r.val] w fun e w' => e = .returned (.bool r.ok) ∧ Below w.heap.size w w' := by
  obtain ⟨k, v, d⟩ := r
  unfold R.val
  go_enter Tryd.func48, Tryd.ntmps48
  go_wp2_with fail
  refine (iup _ _ _).mono ?_
  rintro e w1 ⟨rfl, rfl⟩
  go_wp2_with fail
  case isTrue =>
    refine (iup _ _ _).mono ?_
    rintro e w1 ⟨rfl, rfl⟩
    go_wp2_with fail
    case isTrue =>
      refine (iup _ _ _).mono ?_
      rintro e w1 ⟨rfl, rfl⟩
      go_wp2_with fail
      all_goals go_ret
      all_goals refine ⟨?_, (Below.refl _ _).alloc (Nat.le_refl _) _⟩
      all_goals simp_all [R.ok]
    all_goals go_ret
    all_goals refine ⟨?_, (Below.refl _ _).alloc (Nat.le_refl _) _⟩
    all_goals simp_all [R.ok]
    all_goals omega
  all_goals go_ret
  all_goals refine ⟨?_, (Below.refl _ _).alloc (Nat.le_refl _) _⟩
  all_goals simp_all [R.ok]
  all_goals omega
theorem icost (r : R) (hr : r.wf) (w : World) : Calls Tryd.prog 50 #[r.val] w fun e w' => e = .returned (.int .i64 r.cost) ∧ Below w.heap.size w w' := by
  have hw := hr.2.2
  have H := Lib.hid (ivalid r)
  cases hok : r.ok with
  | true =>
    have hc : r.cost = 1 + r.width := by unfold R.cost; rw [hok]; rfl
    have hk := R.ok_iff.1 hok
    rw [hc]
    unfold R.val
    go_enter Tryd.func50, Tryd.ntmps50
    go_wp2_with fail
    refine (H.out _).mono ?_
    rintro e w1 ⟨rfl, b1⟩
    obtain ⟨⟨c0, c1, c2⟩, b2⟩ := box_row (r := r) b1
    rw [hok]
    simp only [Nat.zero_add] at c2
    go_wp2_with fail
    go_ret
    exact ⟨rfl, b2⟩
  | false =>
    have hc : r.cost = 0 := by unfold R.cost; rw [hok]; rfl
    rw [hc]
    unfold R.val
    go_enter Tryd.func50, Tryd.ntmps50
    go_wp2_with fail
    refine (H.out _).mono ?_
    rintro e w1 ⟨rfl, b1⟩
    obtain ⟨⟨c0, c1, c2⟩, b2⟩ := box_row (r := r) b1
    rw [hok]
    go_wp2_with fail
    go_ret
    exact ⟨rfl, b2⟩
end Go.Proofs.YtpnbnbhifpcelaaDoor
/- The program's AreValidRows and TotalCost, by contract. -/
namespace Go.Proofs.YtpnbnbhifpcelaaDoor
open Go.RowKit
set_option maxRecDepth 100000 in
theorem iare (a : Option Addr) (len cap : Nat) (L : List R) (w : World) (h : IsRows w a len L) (hlen : len ≤ 9223372036854775807) :
    Calls Tryd.prog 25 #[.slice a len cap] w fun e w' => e = .returned (.bool (okRows L)) ∧ Below w.heap.size w w' := by
  obtain ⟨hl, hwf, hc⟩ := h
  have HL := Lib.hid hl
  have HC := Lib.hid hc
  clear hl hwf hc
  by_cases h24 : (24 : Int) < len
  · have hno : okRows L = false := by unfold okRows; rw [HL.out, decide_eq_false (by omega), Bool.false_and]
    have HN := Lib.hid hno
    clear hno
    go_enter Tryd.func25, Tryd.ntmps25
    go_wp2_with fail
    go_ret
    exact ⟨by rw [HN.out]; rfl, Below.refl _ _⟩
  go_enter Tryd.func25, Tryd.ntmps25
  go_wp2_with fail
  go_loopw [10] (fun i wr => ∃ k : Nat, i = .int .i64 k ∧ k ≤ len ∧ Hid (allOk (L.take k) = true) ∧ Hid (Below w.heap.size w wr)) (fun i _ => len - (intOf i).toNat)
  case atStart => exact ⟨0, rfl, Nat.zero_le _, rfl, Below.refl _ _⟩
  case round =>
    obtain ⟨k, rfl, hk, hok, hb⟩ := hrel
    by_cases hlt : k < len
    · obtain ⟨b, o, rfl, hbl, hc⟩ : ∃ b o : Nat, a = some ⟨b, o, none⟩ ∧ b < w.heap.size ∧ ∀ t, t < len → RowAt w b (o + t * 3) (L.getD t R.zero) := by
        rcases HC.out with h0 | h0
        · omega
        · exact h0
      obtain ⟨r, hr⟩ : ∃ r, r = L.getD k R.zero := ⟨_, rfl⟩
      have hat : RowAt wr b (o + k * 3) r := by rw [hr]; exact (hc k hlt).below hb.out hbl
      obtain ⟨c0, c1, c2⟩ := hat
      have HR := Lib.hid hr
      clear hr hc
      go_wp2_with fail
      refine (ivalid r _).mono ?_
      rintro e w1 ⟨rfl, b1⟩
      have B1 := Lib.hid (hb.out.trans ((box_row (r := r) b1).2.mono hb.out.size))
      clear b1
      cases hv : r.ok with
      | true =>
        go_wp2_with fail
        go_roundw
        case rel => exact ⟨k + 1, by go_num, by omega, by show _ = _; rw [allOk_take L k (by rw [HL.out]; exact hlt), hok.out, ← HR.out, hv]; rfl, B1⟩
        case measure => simp [intOf]; omega
      | false =>
        have hno : okRows L = false := by unfold okRows; rw [allOk_bad L k (by rw [HL.out]; exact hlt) (by rw [← HR.out]; exact hv), Bool.and_false]
        go_wp2_with fail
        go_ret
        exact ⟨by rw [hno]; rfl, B1.out⟩
    · have hkl : k = len := by omega
      have hall : okRows L = true := by
        have : allOk L = true := by have := hok.out; rwa [hkl, ← HL.out, List.take_length] at this
        unfold okRows; rw [this, Bool.and_true, HL.out, decide_eq_true_eq]; omega
      clear hkl
      have HA := Lib.hid hall
      clear hall
      go_wp2_with fail
      go_ret
      exact ⟨by rw [HA.out]; rfl, hb.out⟩
set_option maxRecDepth 100000 in
theorem itotal (a : Option Addr) (len cap : Nat) (L : List R) (w : World) (h : IsRows w a len L) (hlen : len ≤ 1000000000000) :
    Calls Tryd.prog 49 #[.slice a len cap] w fun e w' => e = .returned (.int .i64 (total L)) ∧ Below w.heap.size w w' := by
  have HW := Lib.hid h.wf
  obtain ⟨hl, -, hc⟩ := h
  have HL := Lib.hid hl
  have HC := Lib.hid hc
  clear hl hc
  go_enter Tryd.func49, Tryd.ntmps49
  go_wp2_with fail
  go_loopw [3, 8] (fun n i wr => ∃ (k : Nat) (v : Int), n = .int .i64 v ∧ i = .int .i64 k ∧ k ≤ len ∧ 0 ≤ v ∧ v ≤ 4 * k ∧ Hid (total (L.take k) = v) ∧ Hid (Below w.heap.size w wr)) (fun _ i _ => len - (intOf i).toNat)
  case atStart => exact ⟨0, 0, rfl, rfl, Nat.zero_le _, by omega, by omega, rfl, Below.refl _ _⟩
  case round =>
    obtain ⟨k, v, rfl, rfl, hk, hv0, hv1, hsum, hb⟩ := hrel
    by_cases hlt : k < len
    · obtain ⟨b, o, rfl, hbl, hc⟩ : ∃ b o : Nat, a = some ⟨b, o, none⟩ ∧ b < w.heap.size ∧ ∀ t, t < len → RowAt w b (o + t * 3) (L.getD t R.zero) := by
        rcases HC.out with h0 | h0
        · omega
        · exact h0
      obtain ⟨r, hr⟩ : ∃ r, r = L.getD k R.zero := ⟨_, rfl⟩
      have hat : RowAt wr b (o + k * 3) r := by rw [hr]; exact (hc k hlt).below hb.out hbl
      have hrw : r.wf := by rw [hr]; exact HW.out k hlt
      obtain ⟨c0, c1, c2⟩ := hat
      have HR := Lib.hid hr
      have HRW := Lib.hid hrw
      clear hr hc hrw
      go_wp2_with fail
      refine (icost r HRW.out _).mono ?_
      rintro e w1 ⟨rfl, b1⟩
      have B1 := Lib.hid (hb.out.trans ((box_row (r := r) b1).2.mono hb.out.size))
      clear b1
      obtain ⟨x, hx⟩ : ∃ x, x = r.cost := ⟨_, rfl⟩
      have hx0 : 0 ≤ x ∧ x ≤ 4 := by rw [hx]; exact r.cost_range
      obtain ⟨hx0, hx4⟩ := hx0
      have HX := Lib.hid hx
      rw [← hx]
      clear hx
      go_wp2_with fail
      go_roundw
      case rel => exact ⟨k + 1, v + x, by go_num, by go_num, by omega, by omega, by omega, by show _ = _; rw [total_take L k (by rw [HL.out]; exact hlt), hsum.out, ← HR.out, HX.out], B1⟩
      case measure => simp [intOf]; omega
    · have hkl : k = len := by omega
      have hall : total L = v := by have := hsum.out; rwa [hkl, ← HL.out, List.take_length] at this
      clear hkl
      have HA := Lib.hid hall
      clear hall
      go_wp2_with fail
      go_ret
      exact ⟨by rw [HA.out]; rfl, hb.out⟩
end Go.Proofs.YtpnbnbhifpcelaaDoor
/- CompareRows: told by trees. -/
namespace Go.Proofs.YtpnbnbhifpcelaaDoor
open Go Go.RowKit V
set_option linter.unusedVariables false
theorem vcmp_i (a b : R) : VC Tryd.prog 42 [(true, tRow a), (true, tRow b)] false [(false, [.lit (.int .i64 (R.cmp a b))])] :=
  VC.plain (ins := [(true, [.int .i64 a.key, .int .i64 a.value, .int .i64 a.width]), (true, [.int .i64 b.key, .int .i64 b.value, .int .i64 b.width])]) (ag := false) (rs := [.int .i64 (R.cmp a b)]) (fun u hu => by rw [List.mem_singleton.1 hu]; rfl) fun w => icmp a b w
end Go.Proofs.YtpnbnbhifpcelaaDoor
/- Functions of rows, the program's: told by trees: told by trees. -/
namespace Go.Proofs.YtpnbnbhifpcelaaDoor
open Go Go.RowKit V
set_option linter.unusedVariables false
theorem vares_i (L : List R) (hL : ∀ r ∈ L, r.wf) (hl : L.length ≤ 1000000000) : VC Tryd.prog 25 [(false, [.seq 50 (L.map tRow)])] false [(false, [.lit (.bool (okRows L))])] := VC.rowsP (ag := false) (rs := [.bool (okRows L)]) rfl hL fun w a c h => iare a _ c L w h (by omega)
theorem vtotal_i (L : List R) (hL : ∀ r ∈ L, r.wf) (hl : L.length ≤ 1000000000) : VC Tryd.prog 49 [(false, [.seq 50 (L.map tRow)])] false [(false, [.lit (.int .i64 (total L))])] := VC.rowsP (ag := false) (rs := [.int .i64 (total L)]) rfl hL fun w a c h => itotal a _ c L w h (by omega)
theorem vasc_i (L : List R) (hL : ∀ r ∈ L, r.wf) (hl : L.length ≤ 1000000000) : VC Tryd.prog 37 [(false, [.seq 50 (L.map tRow)])] false [(false, [.lit (.bool (R.asc L))])] := VC.rowsP (ag := false) (rs := [.bool (R.asc L)]) rfl hL fun w a c h => iasc a _ c L w h (by omega)
theorem vcost_i (a : R) (ha : a.wf) : VC Tryd.prog 50 [(true, tRow a)] false [(false, [.lit (.int .i64 a.cost)])] :=
  VC.plain (ins := [(true, [.int .i64 a.key, .int .i64 a.value, .int .i64 a.width])]) (ag := false) (rs := [.int .i64 a.cost]) (oneM rfl) fun w => icost a ha w
set_option maxRecDepth 100000 in
set_option maxHeartbeats 2000000 in
theorem vismem_i (m : Int) : VC Tryd.prog 26 [(false, [.lit (.int .i64 (m))])] false [(false, [.lit (.bool (Runs.isMem m))])] := by
  refine VC.enter Tryd.func26 rfl Tryd.ntmps26 (gle rfl) fun E hE => ?_
  refine SV.seq' ?_
  refine SV.region ?_
  refine SV.op (OpL.ok (nb := 0) (ok_move (v := V.one (.sc _)) (.inr rfl) rfl) rfl (gle rfl)) rfl ?_
  refine SV.nil ?_
  refine SV.tn ?_
  refine SV.seq' ?_
  refine SV.region ?_
  refine SV.op (OpL.ok (nb := 0) (ok_move (v := V.one (.sc _)) (.inl rfl) rfl) rfl (gle rfl)) rfl ?_
  refine SV.op (OpL.ok (nb := 0) (ok_s2 (x := .tmp 3) (x' := .const ((Value.int IntKind.i64 8))) (VScal.one rfl) (VScal.one rfl) (fun ρ h1 h2 w => by go_simp; (try go_bits); with_reducible rfl) rfl) rfl (gle rfl)) rfl ?_
  refine SV.op (OpL.ok (nb := 0) (ok_move (v := V.one (.sc _)) (.inl rfl) rfl) rfl (gle rfl)) rfl ?_
  refine SV.split (d := 5) rfl (fun hg0 => ?_) (fun hg0 => ?_)
  · skip   -- g0.T
    refine SV.opY (OpL.ok (nb := 0) (ok_move (v := V.one (.sc _)) (.inl rfl) rfl) rfl (gle rfl)) rfl rfl rfl (gle rfl) rfl rfl ?_
    refine SV.opY (OpL.ok (nb := 0) (ok_s2 (x := .tmp 6) (x' := .const ((Value.int IntKind.i64 60))) (VScal.one rfl) (VScal.one rfl) (fun ρ h1 h2 w => by go_simp; (try go_bits); with_reducible rfl) rfl) rfl (gle rfl)) rfl rfl rfl (gle rfl) rfl rfl ?_
    refine SV.op (OpL.ok (nb := 0) (ok_pickT (v := V.one (.sc _)) rfl rfl rfl) rfl (gle rfl)) rfl ?_
    refine SV.op (OpL.ok (nb := 0) (ok_move (v := V.one (.sc _)) (.inr rfl) rfl) rfl (gle rfl)) rfl ?_
    refine SV.nil ?_
    refine SV.tn ?_
    refine SV.ret ?_
    apply SV.done (hf := Tryd.results26) (ht := rfl) (he := .inl rfl)
    case hr => exact (ResAll.cons (ResOk.tmp (ag := false) (xs := [.sc _]) rfl) ResAll.nil')
    case h2 => simp [two]
    refine ⟨rfl, ⟨?_, trivial⟩, trivial⟩ <;> (show some (T.lit (Value.bool _)) = some (T.lit (Value.bool _)); refine congrArg (fun z => some (T.lit (Value.bool z))) ?_; (unfold Runs.isMem; simp at hg0; simp; omega))
  · skip   -- g0.F
    refine SV.opN rfl rfl rfl (gle rfl) rfl rfl rfl (gle rfl) ?_
    refine SV.opN rfl rfl rfl (gle rfl) rfl rfl rfl (gle rfl) ?_
    refine SV.op (OpL.ok (nb := 0) (ok_pickF (v := V.one (.sc _)) rfl rfl rfl) rfl (gle rfl)) rfl ?_
    refine SV.op (OpL.ok (nb := 0) (ok_move (v := V.one (.sc _)) (.inr rfl) rfl) rfl (gle rfl)) rfl ?_
    refine SV.nil ?_
    refine SV.tn ?_
    refine SV.ret ?_
    apply SV.done (hf := Tryd.results26) (ht := rfl) (he := .inl rfl)
    case hr => exact (ResAll.cons (ResOk.tmp (ag := false) (xs := [.sc _]) rfl) ResAll.nil')
    case h2 => simp [two]
    refine ⟨rfl, ⟨?_, trivial⟩, trivial⟩ <;> (show some (T.lit (Value.bool _)) = some (T.lit (Value.bool _)); refine congrArg (fun z => some (T.lit (Value.bool z))) ?_; (unfold Runs.isMem; simp at hg0; simp; omega))
end Go.Proofs.YtpnbnbhifpcelaaDoor
/- The program's first least row: told by trees. -/
namespace Go.Proofs.YtpnbnbhifpcelaaDoor
open Go Go.RowKit V
set_option linter.unusedVariables false
set_option maxRecDepth 100000 in
set_option maxHeartbeats 2000000 in
theorem vidx_i (l : List R) (hL : l.length ≤ 1000000000) : VC Tryd.prog 15 [(false, [.seq 50 ((l).map tRow)])] false [(false, [.lit (.int .i64 (Runs.idxMin l))])] := by
  refine VC.enter Tryd.func15 rfl Tryd.ntmps15 (gle rfl) fun E hE => ?_
  refine SV.seq' ?_
  refine SV.region ?_
  refine SV.op (OpL.ok (nb := 0) (ok_move (v := V.one (.sc _)) (.inr rfl) rfl) rfl (gle rfl)) rfl ?_
  refine SV.nil ?_
  refine SV.tn ?_
  refine SV.seq' ?_
  refine SV.region ?_
  refine SV.op (OpL.ok (nb := 0) (ok_move (v := V.one (.sc _)) (.inr rfl) rfl) rfl (gle rfl)) rfl ?_
  refine SV.nil ?_
  refine SV.tn ?_
  refine SV.seq' ?_
  refine SV.seq' ?_
  refine SV.region ?_
  refine SV.op (OpL.ok (nb := 0) (ok_move (v := V.one (.ro _)) (.inl rfl) rfl) rfl (gle rfl)) rfl ?_
  refine SV.op (OpL.ok (nb := 0) (ok_len (lf := .ro _) rfl elt_impl_Row.und rfl rfl) rfl (gle rfl)) rfl ?_
  refine SV.op (OpL.ok (nb := 0) (ok_move (v := V.one (.sc _)) (.inl rfl) rfl) rfl (gle rfl)) rfl ?_
  refine SV.nil ?_
  refine SV.tn ?_
  refine SV.block ?_
  refine SV.loopF (X := Nat) (fun (σ : VS) t => ((((((VS.nil.put 0 (σ.tm 0)).put 2 (σ.tm 2)).put 3 (V.flat false [.sc (.int .i64 (idxI l t))])).put 6 (σ.tm 6)).put 7 (σ.tm 7)).put 8 (V.flat false [.sc (.int .i64 ((t : Int)))]))) (fun t => t ≤ l.length) (fun t => l.length - t) ?_ ?_
  · skip
    refine SV.again (fun i => [].getD i 0) 0 ((by first | exact Nat.zero_le _ | (refine ⟨Nat.zero_le _, ?_⟩; simp; done) | (simp; done) | omega)) (pins hE rfl rfl) (VS.le.mk' (le_put (le_put (le_put (le_put (le_put (le_put le_nil (V.le.keep (ag := false) (xs := [.ro _]) (ys := [.ro _]) rfl rfl ⟨rfl, trivial⟩)) (V.le.keep (ag := false) (xs := [.sc _]) (ys := [.sc _]) rfl rfl ⟨rfl, trivial⟩)) (V.le.keep (ag := false) (xs := [.sc _]) (ys := [.sc _]) rfl rfl ⟨(by first | rfl | (show Leaf.sc _ = Leaf.sc _; refine congrArg Leaf.sc ?_; first | rfl | go_num | (first | rw [hn] | rfl; first | done | rfl | go_num | (simp; done) | (simp; omega)) | (simp [cntAll]; done)) | (simp [cntAll]; done) | (simp; omega)), trivial⟩)) (V.le.keep (ag := false) (xs := [.ro _]) (ys := [.ro _]) rfl rfl ⟨rfl, trivial⟩)) (V.le.keep (ag := false) (xs := [.sc _]) (ys := [.sc _]) rfl rfl ⟨rfl, trivial⟩)) (V.le.keep (ag := false) (xs := [.sc _]) (ys := [.sc _]) rfl rfl ⟨(by first | rfl | (show Leaf.sc _ = Leaf.sc _; refine congrArg Leaf.sc ?_; first | rfl | go_num | (first | rw [hn] | rfl; first | done | rfl | go_num | (simp; done) | (simp; omega)) | (simp [cntAll]; done)) | (simp [cntAll]; done) | (simp; omega)), trivial⟩)) trivial trivial nil_ob (fun i j hi hj e => absurd hi (Nat.not_lt_zero i)))
  · rintro t ht
    refine SV.seq' ?_
    refine SV.region ?_
    refine SV.op (OpL.ok (nb := 0) (ok_s2 (x := .tmp 8) (x' := .tmp 7) (VScal.one rfl) (VScal.one rfl) (fun ρ h1 h2 w => by go_simp; (try go_bits); with_reducible rfl) rfl) rfl (gle rfl)) rfl ?_
    refine SV.nil ?_
    refine SV.tn ?_
    refine SV.seq' ?_
    refine SV.cond rfl (fun hc0 => ?_) (fun hc0 => ?_)
    · skip   -- c0.T
      have htl : t < l.length := by simpa using hc0
      refine SV.skip ?_
      refine SV.tn ?_
      refine SV.seq' ?_
      refine SV.block ?_
      refine SV.seq' ?_
      obtain rfl | ⟨u, rfl⟩ : t = 0 ∨ ∃ u, t = u + 1 := by cases t with | zero => exact .inl rfl | succ u => exact .inr ⟨u, rfl⟩
      · skip
        obtain ⟨c, hx⟩ : ∃ c, l[0]? = some c := ⟨_, List.getElem?_eq_getElem htl⟩
        have hn : idxI l (0 + 1) = ((0 : Nat) : Int) := by show ((Runs.minAt l 1 : Nat) : Int) = _; rw [Runs.minAt_one]
        refine SV.region ?_
        refine SV.op (OpL.ok (nb := 0) (ok_move (v := V.one (.sc _)) (.inl rfl) rfl) rfl (gle rfl)) rfl ?_
        refine SV.op (OpL.ok (nb := 0) (ok_index (n := 3) (lf := .ro _) rfl elt_impl_Row.und sz_impl_Row rfl rfl rfl (map_at hx)) rfl (gle rfl)) rfl ?_
        refine SV.op (OpL.ok (nb := 0) (ok_load_rp (ag := true) (m := 3) (ys := [.sc _, .sc _, .sc _]) rfl rfl agg_impl_Row sz_impl_Row (fun h => by cases h) (gle rfl) rfl) rfl (gle rfl)) rfl ?_
        refine SV.op (OpMk.ok (ok_alloc (kk := 0) (xs := [.sc _, .sc _, .sc _]) rfl rfl zero_impl_Row ⟨rfl, rfl, rfl, rfl, rfl, rfl, trivial⟩ rfl (gle rfl))) rfl ?_
        refine SV.op (OpL.ok (nb := 1) (ok_move (v := V.one (.sc _)) (.inr rfl) rfl) rfl (gle rfl)) rfl ?_
        refine SV.op (ok_store_bp (b := 0) (i := 0) (m := 3) (ag := true) (zs := [.sc _, .sc _, .sc _]) (ys := [.sc _, .sc _, .sc _]) rfl rfl rfl rfl sz_impl_Row (fun h => by cases h) rfl (gle rfl) rfl rfl rfl) rfl ?_
        refine SV.nil ?_
        refine SV.tn ?_
        refine SV.seq' ?_
        refine SV.draw [.q 0, .q 1, .q 2, .q 3, .q 4, .q 5, .q 6, .q 7, .m 8, .q 9, .q 10] [] (by kernel_rfl) (by kernel_rfl) ?_
        refine DW.q rfl (ok_move (v := V.one (.sc _)) (.inl rfl) rfl) rfl rfl (gle rfl) (fun _ _ _ _ h => h) ?_
        refine DW.q rfl (ok_s2 (x := .tmp 13) (x' := .const ((Value.int IntKind.i64 0))) (VScal.one rfl) (VScal.one rfl) (fun ρ h1 h2 w => by go_simp; (try go_bits); with_reducible rfl) rfl) rfl rfl (gle rfl) (fun _ _ _ _ h => h) ?_
        refine DW.q rfl (ok_move (v := V.one (.sc _)) (.inl rfl) rfl) rfl rfl (gle rfl) (fun _ _ _ _ h => h) ?_
        refine DW.split (d := 15) rfl (fun hg0 => ?_) (fun hg0 => ?_)
        · skip   -- g0.T
          refine DW.qN (V' := V.one .dead) rfl rfl rfl rfl (gle rfl) rfl rfl rfl (gle rfl) (fun _ _ _ _ h => h) ?_
          refine DW.qN (V' := V.one .dead) rfl rfl rfl rfl (gle rfl) rfl rfl rfl (gle rfl) (fun _ _ _ _ h => h) ?_
          refine DW.qN (V' := V.one .dead) rfl rfl rfl rfl (gle rfl) rfl rfl rfl (gle rfl) (fun _ _ _ _ h => h) ?_
          refine DW.qN (V' := V.one .dead) rfl rfl rfl rfl (gle rfl) rfl rfl rfl (gle rfl) (fun _ _ _ _ h => h) ?_
          refine DW.qN (V' := V.one .dead) rfl rfl rfl rfl (gle rfl) rfl rfl rfl (gle rfl) (fun _ _ _ _ h => h) ?_
          refine DW.mN rfl rfl rfl rfl (gle rfl) rfl rfl rfl (gle rfl) ?_
          refine DW.qN (V' := V.one .dead) rfl rfl rfl rfl (gle rfl) rfl rfl rfl (gle rfl) (fun _ _ _ _ h => h) ?_
          refine DW.q rfl (ok_pickT (v := V.one (.sc _)) rfl rfl rfl) rfl rfl (gle rfl) (fun _ _ _ _ h => h) ?_
          refine DW.stores ?_
          refine SV.zend ?_
          refine SV.tn ?_
          refine SV.cond rfl (fun hc1 => ?_) (fun hc1 => ?_)
          · skip   -- c1.T
            refine SV.region ?_
            refine SV.op (OpL.ok (nb := 1) (ok_move (v := V.one (.sc _)) (.inl rfl) rfl) rfl (gle rfl)) rfl ?_
            refine SV.op (OpL.ok (nb := 1) (ok_move (v := V.one (.sc _)) (.inr rfl) rfl) rfl (gle rfl)) rfl ?_
            refine SV.nil ?_
            refine SV.bn ?_
            refine SV.tn ?_
            refine SV.region ?_
            refine SV.op (OpL.ok (nb := 1) (ok_s2 (x := .tmp 8) (x' := .const ((Value.int IntKind.i64 1))) (VScal.one rfl) (VScal.one rfl) (fun ρ h1 h2 w => by go_simp; (try go_bits); with_reducible rfl) rfl) rfl (gle rfl)) rfl ?_
            refine SV.op (OpL.ok (nb := 1) (ok_move (v := V.one (.sc _)) (.inl rfl) rfl) rfl (gle rfl)) rfl ?_
            refine SV.nil ?_
            refine SV.tn ?_
            refine SV.again (fun i => [].getD i 0) (0 + 1) (⟨by omega, by omega⟩) (pins hE rfl rfl) (VS.le.mk' (le_put (le_put (le_put (le_put (le_put (le_put le_nil (V.le.keep (ag := false) (xs := [.ro _]) (ys := [.ro _]) rfl rfl ⟨rfl, trivial⟩)) (V.le.keep (ag := false) (xs := [.sc _]) (ys := [.sc _]) rfl rfl ⟨rfl, trivial⟩)) (V.le.keep (ag := false) (xs := [.sc _]) (ys := [.sc _]) rfl rfl ⟨(by first | rfl | (show Leaf.sc _ = Leaf.sc _; refine congrArg Leaf.sc ?_; first | rfl | go_num | (first | rw [hn] | rfl; first | done | rfl | go_num | (simp; done) | (simp; omega)) | (simp [cntAll]; done)) | (simp [cntAll]; done) | (simp; omega)), trivial⟩)) (V.le.keep (ag := false) (xs := [.ro _]) (ys := [.ro _]) rfl rfl ⟨rfl, trivial⟩)) (V.le.keep (ag := false) (xs := [.sc _]) (ys := [.sc _]) rfl rfl ⟨rfl, trivial⟩)) (V.le.keep (ag := false) (xs := [.sc _]) (ys := [.sc _]) rfl rfl ⟨(by first | rfl | (show Leaf.sc _ = Leaf.sc _; refine congrArg Leaf.sc ?_; first | rfl | go_num | (first | rw [hn] | rfl; first | done | rfl | go_num | (simp; done) | (simp; omega)) | (simp [cntAll]; done)) | (simp [cntAll]; done) | (simp; omega)), trivial⟩)) trivial trivial nil_ob (fun i j hi hj e => absurd hi (Nat.not_lt_zero i)))
          · skip   -- c1.F
            cases hc1
        · skip   -- g0.F
          (exfalso; first | (have hc' : ((Runs.minAt l (u + 1) : Nat) : Int) < 0 := of_decide_eq_true hg0; omega) | exact of_decide_eq_false hg0 (by show (-1 : Int) < 0; decide))
      · skip
        have hml : Runs.minAt l (u + 1) < u + 1 := Runs.minAt_lt (Nat.succ_pos u)
        obtain ⟨c, hx⟩ : ∃ c, l[u + 1]? = some c := ⟨_, List.getElem?_eq_getElem htl⟩
        obtain ⟨d, hy⟩ : ∃ d, l[Runs.minAt l (u + 1)]? = some d := ⟨_, List.getElem?_eq_getElem (by omega)⟩
        have hst := Runs.minAt_step hx hy
        refine SV.region ?_
        refine SV.op (OpL.ok (nb := 0) (ok_move (v := V.one (.sc _)) (.inl rfl) rfl) rfl (gle rfl)) rfl ?_
        refine SV.op (OpL.ok (nb := 0) (ok_index (n := 3) (lf := .ro _) rfl elt_impl_Row.und sz_impl_Row rfl rfl rfl (map_at hx)) rfl (gle rfl)) rfl ?_
        refine SV.op (OpL.ok (nb := 0) (ok_load_rp (ag := true) (m := 3) (ys := [.sc _, .sc _, .sc _]) rfl rfl agg_impl_Row sz_impl_Row (fun h => by cases h) (gle rfl) rfl) rfl (gle rfl)) rfl ?_
        refine SV.op (OpMk.ok (ok_alloc (kk := 0) (xs := [.sc _, .sc _, .sc _]) rfl rfl zero_impl_Row ⟨rfl, rfl, rfl, rfl, rfl, rfl, trivial⟩ rfl (gle rfl))) rfl ?_
        refine SV.op (OpL.ok (nb := 1) (ok_move (v := V.one (.sc _)) (.inr rfl) rfl) rfl (gle rfl)) rfl ?_
        refine SV.op (ok_store_bp (b := 0) (i := 0) (m := 3) (ag := true) (zs := [.sc _, .sc _, .sc _]) (ys := [.sc _, .sc _, .sc _]) rfl rfl rfl rfl sz_impl_Row (fun h => by cases h) rfl (gle rfl) rfl rfl rfl) rfl ?_
        refine SV.nil ?_
        refine SV.tn ?_
        refine SV.seq' ?_
        refine SV.draw [.q 0, .q 1, .q 2, .q 3, .q 4, .q 5, .q 6, .q 7, .m 8, .q 9, .q 10] [] (by kernel_rfl) (by kernel_rfl) ?_
        refine DW.q rfl (ok_move (v := V.one (.sc _)) (.inl rfl) rfl) rfl rfl (gle rfl) (fun _ _ _ _ h => h) ?_
        refine DW.q rfl (ok_s2 (x := .tmp 13) (x' := .const ((Value.int IntKind.i64 0))) (VScal.one rfl) (VScal.one rfl) (fun ρ h1 h2 w => by go_simp; (try go_bits); with_reducible rfl) rfl) rfl rfl (gle rfl) (fun _ _ _ _ h => h) ?_
        refine DW.q rfl (ok_move (v := V.one (.sc _)) (.inl rfl) rfl) rfl rfl (gle rfl) (fun _ _ _ _ h => h) ?_
        refine DW.split (d := 15) rfl (fun hg1 => ?_) (fun hg1 => ?_)
        · skip   -- g1.T
          (exfalso; first | (have hc' : ((Runs.minAt l (u + 1) : Nat) : Int) < 0 := of_decide_eq_true hg1; omega) | exact of_decide_eq_false hg1 (by show (-1 : Int) < 0; decide))
        · skip   -- g1.F
          refine DW.qY rfl (ok_load_bp (b := 0) (i := 0) (ag := true) (m := 3) (ys := [.sc _, .sc _, .sc _]) rfl rfl rfl agg_impl_Row sz_impl_Row (fun h => by cases h) rfl rfl (gle rfl)) rfl rfl rfl (gle rfl) rfl rfl rfl (gle rfl) (fun _ _ _ _ h => h) ?_
          refine DW.qY rfl (ok_move (v := V.one (.ro _)) (.inl rfl) rfl) rfl rfl rfl (gle rfl) rfl rfl rfl (gle rfl) (fun _ _ _ _ h => h) ?_
          refine DW.qY rfl (ok_move (v := V.one (.sc _)) (.inl rfl) rfl) rfl rfl rfl (gle rfl) rfl rfl rfl (gle rfl) (fun _ _ _ _ h => h) ?_
          refine DW.qY rfl (ok_index (n := 3) (lf := .ro _) rfl elt_impl_Row.und sz_impl_Row rfl rfl rfl (map_at hy)) rfl rfl rfl (gle rfl) rfl rfl rfl (gle rfl) (fun _ _ _ _ h => h) ?_
          refine DW.qY rfl (ok_load_rp (ag := true) (m := 3) (ys := [.sc _, .sc _, .sc _]) rfl rfl agg_impl_Row sz_impl_Row (fun h => by cases h) (gle rfl) rfl) rfl rfl rfl (gle rfl) rfl rfl rfl (gle rfl) (fun _ _ _ _ h => h) ?_
          refine DW.m' [] rfl (ok_call (ls := [(false, [.sc _])]) rfl rfl ⟨_, _, Tryd.func42, rfl, by decide⟩ (vcmp_i c d) ⟨⟨[.sc _, .sc _, .sc _], rfl, ⟨rfl, rfl, rfl, trivial⟩⟩, ⟨[.sc _, .sc _, .sc _], rfl, ⟨rfl, rfl, rfl, trivial⟩⟩, trivial⟩ rfl (gle rfl)) (fun hr => wantedY hr rfl rfl rfl (gle rfl) rfl rfl) (gle rfl) (gle rfl) (.inl rfl) (fun j hj => by cases hj) ?_
          refine DW.qY rfl (ok_s2 (x := .tmp 21) (x' := .const ((Value.int IntKind.i64 0))) (VScal.one rfl) (VScal.one rfl) (fun ρ h1 h2 w => by go_simp; (try go_bits); with_reducible rfl) rfl) rfl rfl rfl (gle rfl) rfl rfl rfl (gle rfl) (fun _ _ _ _ h => h) ?_
          refine DW.q rfl (ok_pickF (v := V.one (.sc _)) rfl rfl rfl) rfl rfl (gle rfl) (fun _ _ _ _ h => h) ?_
          refine DW.stores ?_
          refine SV.zend ?_
          refine SV.tn ?_
          refine SV.cond rfl (fun hc2 => ?_) (fun hc2 => ?_)
          · skip   -- c2.T
            have hn : idxI l (u + 1 + 1) = ((u + 1 : Nat) : Int) := by show ((Runs.minAt l (u + 1 + 1) : Nat) : Int) = _; rw [hst, if_pos (by simpa using hc2)]
            refine SV.region ?_
            refine SV.op (OpL.ok (nb := 1) (ok_move (v := V.one (.sc _)) (.inl rfl) rfl) rfl (gle rfl)) rfl ?_
            refine SV.op (OpL.ok (nb := 1) (ok_move (v := V.one (.sc _)) (.inr rfl) rfl) rfl (gle rfl)) rfl ?_
            refine SV.nil ?_
            refine SV.bn ?_
            refine SV.tn ?_
            refine SV.region ?_
            refine SV.op (OpL.ok (nb := 1) (ok_s2 (x := .tmp 8) (x' := .const ((Value.int IntKind.i64 1))) (VScal.one rfl) (VScal.one rfl) (fun ρ h1 h2 w => by go_simp; (try go_bits); with_reducible rfl) rfl) rfl (gle rfl)) rfl ?_
            refine SV.op (OpL.ok (nb := 1) (ok_move (v := V.one (.sc _)) (.inl rfl) rfl) rfl (gle rfl)) rfl ?_
            refine SV.nil ?_
            refine SV.tn ?_
            refine SV.again (fun i => [].getD i 0) (u + 1 + 1) (⟨by omega, by omega⟩) (pins hE rfl rfl) (VS.le.mk' (le_put (le_put (le_put (le_put (le_put (le_put le_nil (V.le.keep (ag := false) (xs := [.ro _]) (ys := [.ro _]) rfl rfl ⟨rfl, trivial⟩)) (V.le.keep (ag := false) (xs := [.sc _]) (ys := [.sc _]) rfl rfl ⟨rfl, trivial⟩)) (V.le.keep (ag := false) (xs := [.sc _]) (ys := [.sc _]) rfl rfl ⟨(by first | rfl | (show Leaf.sc _ = Leaf.sc _; refine congrArg Leaf.sc ?_; first | rfl | go_num | (first | rw [hn] | rfl; first | done | rfl | go_num | (simp; done) | (simp; omega)) | (simp [cntAll]; done)) | (simp [cntAll]; done) | (simp; omega)), trivial⟩)) (V.le.keep (ag := false) (xs := [.ro _]) (ys := [.ro _]) rfl rfl ⟨rfl, trivial⟩)) (V.le.keep (ag := false) (xs := [.sc _]) (ys := [.sc _]) rfl rfl ⟨rfl, trivial⟩)) (V.le.keep (ag := false) (xs := [.sc _]) (ys := [.sc _]) rfl rfl ⟨(by first | rfl | (show Leaf.sc _ = Leaf.sc _; refine congrArg Leaf.sc ?_; first | rfl | go_num | (first | rw [hn] | rfl; first | done | rfl | go_num | (simp; done) | (simp; omega)) | (simp [cntAll]; done)) | (simp [cntAll]; done) | (simp; omega)), trivial⟩)) trivial trivial nil_ob (fun i j hi hj e => absurd hi (Nat.not_lt_zero i)))
          · skip   -- c2.F
            have hn : idxI l (u + 1 + 1) = idxI l (u + 1) := by show ((Runs.minAt l (u + 1 + 1) : Nat) : Int) = ((Runs.minAt l (u + 1) : Nat) : Int); rw [hst, if_neg (by simpa using hc2)]
            refine SV.skip ?_
            refine SV.bn ?_
            refine SV.tn ?_
            refine SV.region ?_
            refine SV.op (OpL.ok (nb := 1) (ok_s2 (x := .tmp 8) (x' := .const ((Value.int IntKind.i64 1))) (VScal.one rfl) (VScal.one rfl) (fun ρ h1 h2 w => by go_simp; (try go_bits); with_reducible rfl) rfl) rfl (gle rfl)) rfl ?_
            refine SV.op (OpL.ok (nb := 1) (ok_move (v := V.one (.sc _)) (.inl rfl) rfl) rfl (gle rfl)) rfl ?_
            refine SV.nil ?_
            refine SV.tn ?_
            refine SV.again (fun i => [].getD i 0) (u + 1 + 1) (⟨by omega, by omega⟩) (pins hE rfl rfl) (VS.le.mk' (le_put (le_put (le_put (le_put (le_put (le_put le_nil (V.le.keep (ag := false) (xs := [.ro _]) (ys := [.ro _]) rfl rfl ⟨rfl, trivial⟩)) (V.le.keep (ag := false) (xs := [.sc _]) (ys := [.sc _]) rfl rfl ⟨rfl, trivial⟩)) (V.le.keep (ag := false) (xs := [.sc _]) (ys := [.sc _]) rfl rfl ⟨(by first | rfl | (show Leaf.sc _ = Leaf.sc _; refine congrArg Leaf.sc ?_; first | rfl | go_num | (first | rw [hn] | rfl; first | done | rfl | go_num | (simp; done) | (simp; omega)) | (simp [cntAll]; done)) | (simp [cntAll]; done) | (simp; omega)), trivial⟩)) (V.le.keep (ag := false) (xs := [.ro _]) (ys := [.ro _]) rfl rfl ⟨rfl, trivial⟩)) (V.le.keep (ag := false) (xs := [.sc _]) (ys := [.sc _]) rfl rfl ⟨rfl, trivial⟩)) (V.le.keep (ag := false) (xs := [.sc _]) (ys := [.sc _]) rfl rfl ⟨(by first | rfl | (show Leaf.sc _ = Leaf.sc _; refine congrArg Leaf.sc ?_; first | rfl | go_num | (first | rw [hn] | rfl; first | done | rfl | go_num | (simp; done) | (simp; omega)) | (simp [cntAll]; done)) | (simp [cntAll]; done) | (simp; omega)), trivial⟩)) trivial trivial nil_ob (fun i j hi hj e => absurd hi (Nat.not_lt_zero i)))
    · skip   -- c0.F
      have hte : t = l.length := by simp at hc0; omega
      refine SV.exit ?_
      refine SV.te ?_
      refine SV.te ?_
      refine SV.bh ?_
      refine SV.tn ?_
      refine SV.seq' ?_
      refine SV.region ?_
      refine SV.op (OpL.ok (nb := 0) (ok_move (v := V.one (.sc _)) (.inl rfl) rfl) rfl (gle rfl)) rfl ?_
      refine SV.op (OpL.ok (nb := 0) (ok_move (v := V.one (.sc _)) (.inr rfl) rfl) rfl (gle rfl)) rfl ?_
      refine SV.nil ?_
      refine SV.tn ?_
      refine SV.ret ?_
      apply SV.done (hf := Tryd.results15) (ht := rfl) (he := .inl rfl)
      case hr => exact (ResAll.cons (ResOk.tmp (ag := false) (xs := [.sc _]) rfl) ResAll.nil')
      case h2 => simp [two]
      refine ⟨rfl, ⟨?_, trivial⟩, trivial⟩ <;> (show some (T.lit (Value.int .i64 _)) = some (T.lit (Value.int .i64 _)); refine congrArg (fun z => some (T.lit (Value.int .i64 z))) ?_; rw [hte, idxI_end])
end Go.Proofs.YtpnbnbhifpcelaaDoor
/- Rows that lie in memory, as cells; a slice of rows told by trees lies so. -/
namespace Go.Proofs.YtpnbnbhifpcelaaDoor
open Go Go.RowKit V
set_option linter.unusedVariables false
def RoIn (w : World) (a : Option Addr) (L : List R) : Prop := ∀ (t : Nat) (c : R), L[t]? = some c → ∃ b o : Nat, a = some ⟨b, o, none⟩ ∧ b < w.heap.size ∧
  w.cell? ⟨b, o + t * 3, none⟩ = some (.int .i64 c.key) ∧ w.cell? ⟨b, o + t * 3 + 1, none⟩ = some (.int .i64 c.value) ∧ w.cell? ⟨b, o + t * 3 + 2, none⟩ = some (.int .i64 c.width)
theorem RoIn.keep {w w' : World} {a : Option Addr} {L : List R} (h : RoIn w a L) (hb : Below w.heap.size w w') : RoIn w' a L := fun t c ht => by
  obtain ⟨b, o, h1, h2, h3, h4, h5⟩ := h t c ht
  exact ⟨b, o, h1, Nat.lt_of_lt_of_le h2 hb.size, (hb.cell h2).trans h3, (hb.cell h2).trans h4, (hb.cell h2).trans h5⟩
end Go.Proofs.YtpnbnbhifpcelaaDoor
/- Rows in a row of the call's own, by what stands at each index; such a row as a tree, and back. -/
namespace Go.Proofs.YtpnbnbhifpcelaaDoor
open Go Go.RowKit V
set_option linter.unusedVariables false
theorem rowIs_setCellsR {b : Nat} {t : TypeId} {n : Nat} : ∀ (vs : List Value) (o : Nat) (w : World) (f : Nat → Value), w.rowIs b t n f → (w.setCells b o vs).rowIs b t n (fun j => if o ≤ j ∧ j < o + vs.length then vs.getD (j - o) undef else f j)
  | [], o, w, f, h => h.congr fun i _ => by rw [if_neg (fun e => by simp at e; omega)]
  | v :: r, o, w, f, h => by
    have ih := rowIs_setCellsR r (o + 1) _ _ (h.set o v)
    refine ih.congr fun j hj => ?_
    by_cases h1 : o + 1 ≤ j ∧ j < o + 1 + r.length
    · have h2 : o ≤ j ∧ j < o + (v :: r).length := by simp; omega
      rw [if_pos h1, if_pos h2, show j - o = (j - (o + 1)) + 1 by omega]
      rfl
    · rw [if_neg h1]
      by_cases h3 : j = o
      · subst h3
        have h2 : j ≤ j ∧ j < j + (v :: r).length := by simp
        rw [if_pos rfl, if_pos h2, Nat.sub_self]
        rfl
      · have h2 : ¬ (o ≤ j ∧ j < o + (v :: r).length) := by simp; omega
        rw [if_neg h3, if_neg h2]
def RoF (f : Nat → Value) (L : List R) : Prop := ∀ (t : Nat) (c : R), L[t]? = some c → f (t * 3) = .int .i64 c.key ∧ f (t * 3 + 1) = .int .i64 c.value ∧ f (t * 3 + 2) = .int .i64 c.width
theorem thirdR (j : Nat) : j = j / 3 * 3 ∨ j = j / 3 * 3 + 1 ∨ j = j / 3 * 3 + 2 := by omega
theorem RoF.int {f : Nat → Value} {L : List R} (h : RoF f L) {j : Nat} (hj : j < L.length * 3) : ∃ x, f j = .int .i64 x := by
  have hq : j / 3 < L.length := by omega
  obtain ⟨h0, h1, h2⟩ := h (j / 3) L[j / 3] (List.getElem?_eq_getElem hq)
  rcases thirdR j with e | e | e
  · exact ⟨_, by rw [e]; exact h0⟩
  · exact ⟨_, by rw [e]; exact h1⟩
  · exact ⟨_, by rw [e]; exact h2⟩
theorem RoF.one {f : Nat → Value} {L : List R} (h : RoF f L) {j : Nat} (hj : j < L.length * 3) : (f j).oneCell' = true := by
  obtain ⟨x, hx⟩ := h.int hj
  rw [hx]; rfl
theorem RoF.congr {f g : Nat → Value} {L : List R} (h : RoF f L) (e : ∀ j, j < L.length * 3 → g j = f j) : RoF g L := fun t c ht => by
  have hl := V.get_lt ht
  obtain ⟨h0, h1, h2⟩ := h t c ht
  exact ⟨(e _ (by omega)).trans h0, (e _ (by omega)).trans h1, (e _ (by omega)).trans h2⟩
theorem own_rowR {w : World} {L : List R} {v : Value} {F : Nat → Prop} (h : Own w 0 (.seq 50 (L.map tRow)) v F) :
    (v = .slice none 0 0 ∧ L = []) ∨ ∃ (g q cap N : Nat) (f : Nat → Value), v = .slice (some ⟨g, q, none⟩) L.length cap ∧ F g ∧ L.length ≤ cap ∧ cap ≤ maxLen ∧ q + cap * 3 ≤ N ∧ w.rowIs g 50 N f ∧ RoF (fun j => f (q + j)) L := by
  cases h with
  | seq n hp hz hn xs hown Gs hr hone hF hG hne hd =>
    have h3 : n = 3 := hz.eq sz_impl_Row
    subst h3
    obtain ⟨hxl, ⟨rfl, h0⟩ | ⟨g, q, cap, cur, rfl, -, hh, hc, hm, hs, ht⟩⟩ := hown
    · refine .inl ⟨rfl, ?_⟩
      rw [List.length_map] at h0
      exact List.eq_nil_of_length_eq_zero h0
    · rw [List.length_map] at hc ht hxl
      refine .inr ⟨g, q, cap, cur.size, fun i => cur.getD i undef, by rw [List.length_map], hF g rfl, hc, hm, hs, ⟨cur, hh, rfl, fun i hi => by simp [Array.getD, hi]⟩, fun t c htc => ?_⟩
      have htl := V.get_lt htc
      have key : ∀ (j : Nat) (u : Value), j < 3 → (tRow c)[j]? = some (.lit u) → cur.getD (q + (t * 3 + j)) undef = u := fun j u hj hu => by
        have hlt : t * 3 + j < xs.length := by omega
        have h1 := hr t (tRow c) j (.lit u) xs[t * 3 + j] (by rw [List.getElem?_map, htc]; rfl) hu (List.getElem?_eq_getElem hlt)
        have h2 : xs[t * 3 + j] = u := by cases h1; rfl
        have h3 : xs[t * 3 + j]? = some u := by rw [List.getElem?_eq_getElem hlt, h2]
        rw [← ht, List.getElem?_take, if_pos (by omega), List.getElem?_drop] at h3
        have h4 : q + (t * 3 + j) < cur.size := by omega
        rw [Array.getElem?_toList, Array.getElem?_eq_getElem h4] at h3
        simp [Array.getD, h4, Option.some.inj h3]
      exact ⟨key 0 _ (by omega) rfl, key 1 _ (by omega) rfl, key 2 _ (by omega) rfl⟩
theorem row_ownR {w : World} {L : List R} {g q cap N : Nat} {f : Nat → Value} {F : Nat → Prop} (hF : F g) (hc : L.length ≤ cap) (hm : cap ≤ maxLen) (hN : q + cap * 3 ≤ N) (hrow : w.rowIs g 50 N f) (hf : RoF (fun j => f (q + j)) L) : Own w 0 (.seq 50 (L.map tRow)) (.slice (some ⟨g, q, none⟩) L.length cap) F := by
  obtain ⟨cur, hh, hs, hcell⟩ := hrow
  have htl : (cur.toList.drop q).take (L.length * 3) = (List.range (L.length * 3)).map fun j => f (q + j) := by
    apply List.ext_getElem?
    intro j
    rw [List.getElem?_take, List.getElem?_drop]
    by_cases hj : j < L.length * 3
    · rw [if_pos hj, Array.getElem?_toList, hcell (q + j) (by omega), List.getElem?_map, List.getElem?_range hj]; rfl
    · rw [if_neg hj, List.getElem?_eq_none (by simp; omega)]
  refine .seq 3 (by decide) sz_impl_Row (fun e he => by obtain ⟨x, -, rfl⟩ := List.mem_map.1 he; rfl) ((List.range (L.length * 3)).map fun j => f (q + j)) ⟨by simp, .inr ⟨g, q, cap, cur, by rw [List.length_map], Nat.zero_le _, hh, by rw [List.length_map]; exact hc, hm, by rw [hs]; exact hN, by rw [List.length_map]; exact htl⟩⟩ (fun _ _ => False) (fun k e j t u h1 h2 h3 => ?_) (fun u hu => ?_) (fun b hb => by cases hb; exact hF) (fun q b hb => hb.elim) (fun q b hb => hb.elim) fun q q' b hb => hb.elim
  · rw [List.getElem?_map] at h1
    obtain ⟨c, hc', rfl⟩ := Option.map_eq_some_iff.1 h1
    have hk := V.get_lt hc'
    have hj : j < 3 := by simpa [tRow] using V.get_lt h2
    rw [List.getElem?_map, List.getElem?_range (by omega)] at h3
    have hu : f (q + (k * 3 + j)) = u := Option.some.inj h3
    obtain ⟨e0, e1, e2⟩ := hf k c hc'
    dsimp only at e0 e1 e2
    match j, hj with
    | 0, _ => cases h2; rw [← hu, show k * 3 + 0 = k * 3 from rfl, e0]; exact .lit rfl
    | 1, _ => cases h2; rw [← hu, e1]; exact .lit rfl
    | 2, _ => cases h2; rw [← hu, e2]; exact .lit rfl
  · obtain ⟨j, hj, rfl⟩ := List.mem_map.1 hu
    exact hf.one (f := fun j => f (q + j)) (List.mem_range.1 hj)
end Go.Proofs.YtpnbnbhifpcelaaDoor
/- The library's slices.Delete of one row, by contract: the row is the call's own. -/
namespace Go.Proofs.YtpnbnbhifpcelaaDoor
open Go Go.RowKit V
set_option linter.unusedVariables false
def zeroRo : List Value := [.int .i64 0, .int .i64 0, .int .i64 0]
theorem run_clear_rowR (w : World) (ty : TypeId) (g o c : Nat) (h : ∀ j, j < 3 → (w.cell? ⟨g, o + j, none⟩).isSome = true) (hf : ∀ j, w.frozen? ⟨g, j, none⟩ = false) :
    (Builtin.clear_ #[24] ty #[.slice (some ⟨g, o, none⟩) 1 c]).run Tryd.prog w = .ok (.tuple #[]) (w.setCells g o zeroRo) := by
  have hz : ∀ w, (zeroValue 50).run Tryd.prog w = .ok (.agg #[.int .i64 0, .int .i64 0, .int .i64 0]) w := fun w => by kernel_rfl
  have hzc : (Builtin.zeroCells (Value.agg #[.int .i64 0, .int .i64 0, .int .i64 0]).cells 1).toList = [.int .i64 0, .int .i64 0, .int .i64 0] := by kernel_rfl
  have hst := run_storeCells_cells (P := Tryd.prog) g o [.int .i64 0, .int .i64 0, .int .i64 0] 0 w (fun j hj => by simpa using h j (by simpa using hj)) (fun j hj => hf _) (fun v hv => by
    simp only [List.mem_cons, List.not_mem_nil, or_false] at hv
    rcases hv with rfl | rfl | rfl <;> rfl)
  simp only [Nat.add_zero] at hst
  simp [Builtin.clear_, run_underlying Tryd.underlying24, hz, hzc, hst]
  rfl
theorem grown_cellsR {w : World} {g : Nat} : ∀ (vs : List Value) (o : Nat) (w' : World), w.grownBy w' (some g) → w.grownBy (w'.setCells g o vs) (some g)
  | [], _, _, h => h
  | v :: r, o, w', h => grown_cellsR r (o + 1) _ ⟨h.os, h.tape, h.output, by simpa [World.setCell] using h.size, fun z hz hn => (Below.heap_setCell w' ⟨g, o, none⟩ v z (fun e => hn (by rw [show z = g from e]))).trans (h.block z hz hn)⟩
set_option maxRecDepth 100000 in
set_option maxHeartbeats 2000000 in
theorem idel0R (g q cap m k N : Nat) (f : Nat → Value) (w : World) (hk : k ≤ m) (hc : m + 1 ≤ cap) (hm : cap ≤ maxLen) (hN : q + cap * 3 ≤ N) (hrow : w.rowIs g 50 N f) (h1 : ∀ j, j < (m + 1) * 3 → (f (q + j)).oneCell' = true) :
    Calls Tryd.prog 51 #[.slice (some ⟨g, q, none⟩) (m + 1) cap, .int .i64 k, .int .i64 ((k : Int) + 1)] w fun e w' =>
      e = .returned (.slice (some ⟨g, q, none⟩) m cap) ∧ w.grownBy w' (some g) ∧ ∃ f', w'.rowIs g 50 N f' ∧ ∀ j, j < m * 3 → f' (q + j) = if j < k * 3 then f (q + j) else f (q + j + 3) := by
  unfold maxLen at hm
  have HR := Lib.hid hrow
  have H1 := Lib.hid h1
  have b1 : (0 : Int) ≤ (k : Int) := by omega
  have b2 : (k : Int) ≤ ((k : Int) + 1) := by omega
  have b3 : ((k : Int) + 1) ≤ ((m + 1 : Nat) : Int) := by omega
  have b4 : ((m + 1 : Nat) : Int) ≤ (cap : Int) := by omega
  have b5 : (k : Int) ≤ (cap : Int) := by omega
  have b6 : (0 : Int) ≤ (k : Int) + 1 := by omega
  have t1 : ((k : Int) + 1).toNat = k + 1 := by omega
  obtain ⟨I0, hI, hI3⟩ := sz_impl_Row
  obtain ⟨news, hnews⟩ : ∃ news, news = (List.range ((m + 1 - (k + 1)) * 3)).map fun j => f (q + (k + 1) * 3 + j) := ⟨_, rfl⟩
  have hnl : news.length = (m + 1 - (k + 1)) * 3 := by rw [hnews]; simp
  have hn1 : ∀ u ∈ news, u.oneCell' = true := fun u hu => by
    rw [hnews] at hu
    obtain ⟨j, hj, rfl⟩ := List.mem_map.1 hu
    have := List.mem_range.1 hj
    rw [Nat.add_assoc]; exact h1 _ (by omega)
  have hnc : ∀ j u, news[j]? = some u → w.cell? ⟨g, q + (k + 1) * 3 + j, none⟩ = some u := fun j u hj => by
    have hjl := V.get_lt hj
    rw [hnews, List.getElem?_map, List.getElem?_range (by omega)] at hj
    rw [← Option.some.inj hj]
    exact hrow.cell (by omega)
  have hsp : ∀ j, j < news.length → (w.cell? ⟨g, q + k * 3 + j, none⟩).isSome = true ∧ w.frozen? ⟨g, q + k * 3 + j, none⟩ = false := fun j hj => ⟨by rw [hrow.cell (by omega)]; rfl, hrow.frozen _⟩
  have HN := Lib.hid hnews
  have HL := Lib.hid hnl
  have H2 := Lib.hid hn1
  have HC : Hid (∀ j u, news[j]? = some u → w.cell? ((if cap = k + 1 then (⟨g, q, none⟩ : Addr) else ⟨g, q + (k + 1) * 3, none⟩).add j) = some u) := Lib.hid fun j u hj => by
    have hjl := V.get_lt hj
    have hne : ¬ cap = k + 1 := by omega
    rw [if_neg hne, Addr.add_lit]
    exact hnc j u hj
  have H4 := Lib.hid hsp
  clear hrow h1 hnews hnl hn1 hnc hsp
  go_enter Tryd.func51, Tryd.ntmps51
  go_wp2_with fail
  go_region_law (refine step_append_room rfl _ _ 24 rfl 50 I0 3 Tryd.underlying24 hI hI3 g q k cap (by simp [Act.eval, Act.put]) (if cap = k + 1 then ⟨g, q, none⟩ else ⟨g, q + (k + 1) * 3, none⟩) (m + 1 - (k + 1)) (cap - (k + 1)) news (by simp [Act.eval, Act.put]; split <;> rfl) HL.out HC.out H2.out (by omega) H4.out ?_)
  obtain ⟨W1, hW1⟩ : ∃ W, W = w.drew.setCells g (q + k * 3) news := ⟨_, rfl⟩
  rw [← hW1]
  have r1 := rowIs_setCellsR news (q + k * 3) w.drew f HR.out.drew
  have g1 : w.grownBy W1 (some g) := by rw [hW1]; exact grown_cellsR news _ _ ⟨rfl, rfl, rfl, Nat.le_refl _, fun _ _ _ => rfl⟩
  rw [← hW1] at r1
  have hcl : ∀ ty c', (Builtin.clear_ #[24] ty #[.slice (some ⟨g, q + m * 3, none⟩) 1 c']).run Tryd.prog W1 = .ok (.tuple #[]) (W1.setCells g (q + m * 3) zeroRo) := fun ty c' => run_clear_rowR W1 ty g (q + m * 3) c' (fun j hj => by rw [r1.cell (by omega)]; rfl) fun j => r1.frozen j
  have R1 := Lib.hid r1
  have G1 := Lib.hid g1
  have c1 : ¬ cap = m := by omega
  have c2 : (0 : Int) ≤ (m : Int) := by omega
  have c3 : (m : Int) ≤ (m : Int) + 1 := by omega
  have c4 : (m : Int) + 1 ≤ (cap : Int) := by omega
  have c5 : (m : Int) ≤ (cap : Int) := by omega
  clear r1 g1 hW1
  have fin : ∀ j, j < m * 3 → (if q + m * 3 ≤ q + j ∧ q + j < q + m * 3 + zeroRo.length then zeroRo.getD (q + j - (q + m * 3)) undef else if q + k * 3 ≤ q + j ∧ q + j < q + k * 3 + news.length then news.getD (q + j - (q + k * 3)) undef else f (q + j)) = if j < k * 3 then f (q + j) else f (q + j + 3) := fun j hj => by
    have hz : ¬ (q + m * 3 ≤ q + j ∧ q + j < q + m * 3 + zeroRo.length) := by omega
    rw [if_neg hz]
    by_cases hjk : j < k * 3
    · rw [if_neg (by omega), if_pos hjk]
    · have hin : q + k * 3 ≤ q + j ∧ q + j < q + k * 3 + news.length := by have := HL.out; omega
      rw [if_pos hin, if_neg hjk, HN.out, List.getD_eq_getElem?_getD, List.getElem?_map, List.getElem?_range (by omega)]
      show f (q + (k + 1) * 3 + (q + j - (q + k * 3))) = f (q + j + 3)
      congr 1
      omega
  have FIN := Lib.hid fin
  clear fin
  go_wp2_with (simp only [hcl])
  all_goals try rw [← ‹cap = k + 1›]
  all_goals go_ret
  all_goals refine ⟨rfl, grown_cellsR _ _ _ G1.out, _, rowIs_setCellsR zeroRo (q + m * 3) W1 _ R1.out, fun j hj => FIN.out j hj⟩
theorem gives_rowR {w w' : World} {lv : Nat → Value} {F : Nat → Nat → Prop} {n : Nat} {hF : ∀ i b, i < n → F i b → b < w.heap.size} {g q g0 i0 cap N : Nat} {f : Nat → Value} {L : List R} (h0 : i0 < n ∧ F i0 g0) (hgr : w.grownBy w' (some g0)) (hg : g = g0 ∨ w.heap.size ≤ g) (hN : q + cap * 3 ≤ N) (hrow : w'.rowIs g 50 N f) (hf : RoF (fun j => f (q + j)) L) (hc : L.length ≤ cap) (hm : cap ≤ maxLen) :
    V.Gives (Env.lend w lv F n hF) false [(false, [.seq 50 (L.map tRow)])] (.returned (.slice (some ⟨g, q, none⟩) L.length cap)) w' := by
  refine ⟨[[.slice (some ⟨g, q, none⟩) L.length cap]], fun c j b => c = 0 ∧ j = 0 ∧ b = g, rfl, rfl, fun c ag ts us hc' hu => ?_, fun c j c' j' b e1 e2 => ?_, fun c j b hb => ?_, ⟨hgr.os, hgr.tape, hgr.output, hgr.size, fun b hb => hgr.block b hb.1 fun e => hb.2 ⟨i0, h0.1, by rw [Option.some.inj e]; exact h0.2⟩⟩⟩
  · cases c with
    | zero =>
      cases hc'; cases hu
      refine ⟨rfl, fun j t u hj hu => ?_⟩
      cases j with
      | zero => cases hj; cases hu; exact row_ownR ⟨rfl, rfl, rfl⟩ hc hm hN hrow hf
      | succ j => simp at hj
    | succ c => simp at hc'
  · exact ⟨e1.1.trans e2.1.symm, e1.2.1.trans e2.2.1.symm⟩
  · obtain ⟨-, -, rfl⟩ := hb
    refine ⟨?_, hrow.lt⟩
    rcases hg with rfl | hg
    · exact .inr ⟨i0, h0.1, h0.2⟩
    · exact .inl hg
theorem vx_args1R {E : Env} {ns : List Int} {vs : List Value} (hv : ArgsM E ((false, [AC.ln 0]) :: ns.map fun x => (false, [AC.rd (.lit (.int .i64 x))])) vs) : vs = E.lv 0 :: ns.map fun x => Value.int .i64 x := by
  obtain ⟨hl, ha⟩ := hv
  cases vs with
  | nil => simp at hl
  | cons v us =>
    obtain ⟨ws, e1, e2, e3⟩ := ha 0 false _ v rfl rfl
    match ws, e2 with
    | [x], _ =>
      have hx : x = E.lv 0 := (e3 0 (.ln 0) x rfl rfl).2
      congr 1
      · rw [e1, ← hx]; rfl
      · apply List.ext_getElem?
        intro j
        have hlu : us.length = ns.length := by simpa using hl
        rcases Nat.lt_or_ge j ns.length with hj | hj
        · have hj' : j < us.length := by omega
          obtain ⟨ws, f1, f2, f3⟩ := ha (j + 1) false [.rd (.lit (.int .i64 ns[j]))] us[j] (by simp [hj]) (by simp [hj'])
          match ws, f2 with
          | [y], _ =>
            have f4 : Inn _ _ (.lit (.int .i64 ns[j])) y := f3 0 (.rd (.lit (.int .i64 ns[j]))) y rfl rfl
            rw [List.getElem?_eq_getElem hj', f1, inn_lit f4, List.getElem?_map, List.getElem?_eq_getElem hj]
            rfl
        · rw [List.getElem?_eq_none (by omega), List.getElem?_eq_none (by simpa using hj)]
theorem erase_getR {L : List R} {k t : Nat} {c : R} (h : (L.eraseIdx k)[t]? = some c) : L[if t < k then t else t + 1]? = some c := by
  rw [List.getElem?_eraseIdx] at h
  split <;> rename_i hk <;> simp [hk] at h <;> exact h
theorem vdelrow (L : List R) (k : Nat) (hk : k < L.length) : VX Tryd.prog 51 [(false, [.ln 0]), (false, [.rd (.lit (.int .i64 (k : Int)))]), (false, [.rd (.lit (.int .i64 ((k : Int) + 1)))])] [.seq 50 (L.map tRow)] false [(false, [.seq 50 ((L.eraseIdx k).map tRow)])] := fun w lv F hF vs h1 h2 hv => by
  have hvs := vx_args1R (ns := [(k : Int), (k : Int) + 1]) hv
  rcases own_rowR (h1 0 _ rfl).1 with ⟨-, h0⟩ | ⟨g, q, cap, N, f, hl, hFg, hc, hm, hN, hrow, hf⟩
  · subst h0; simp at hk
  · obtain ⟨m, hmL⟩ : ∃ m, L.length = m + 1 := ⟨L.length - 1, by omega⟩
    have hcall := idel0R g q cap m k N f w (by omega) (by omega) hm hN hrow (fun j hj => hf.one (f := fun j => f (q + j)) (by omega))
    have he : (L.eraseIdx k).length = m := by rw [List.length_eraseIdx_of_lt hk]; omega
    have hvs2 : vs = [.slice (some ⟨g, q, none⟩) (m + 1) cap, .int .i64 (k : Int), .int .i64 ((k : Int) + 1)] := by
      rw [hvs]
      show lv 0 :: _ = _
      rw [hl, hmL]; rfl
    rw [hvs2]
    refine hcall.mono fun e w' ⟨h3, h4, f', h5, h6⟩ => ?_
    rw [h3, ← he]
    refine gives_rowR (i0 := 0) (g0 := g) ⟨Nat.one_pos, hFg⟩ h4 (.inl rfl) hN h5 (fun t c ht => ?_) (by omega) hm
    have htl := V.get_lt ht
    rw [he] at htl
    have h7 := hf _ c (erase_getR ht)
    dsimp only at h7 ⊢
    rw [h6 _ (by omega), h6 _ (by omega), h6 _ (by omega)]
    by_cases hkt : t < k
    · rw [if_pos hkt] at h7
      rw [if_pos (by omega), if_pos (by omega), if_pos (by omega)]
      exact h7
    · rw [if_neg hkt] at h7
      rw [if_neg (by omega), if_neg (by omega), if_neg (by omega)]
      rw [show q + t * 3 + 3 = q + (t + 1) * 3 by omega, show q + (t * 3 + 1) + 3 = q + ((t + 1) * 3 + 1) by omega, show q + (t * 3 + 2) + 3 = q + ((t + 1) * 3 + 2) by omega]
      exact h7
end Go.Proofs.YtpnbnbhifpcelaaDoor
/- States told by trees: functions that are handed the address of a box of their caller's, with slices of its own in it; their contracts, beginnings, answers and calls. -/
namespace Go.Proofs.YtpnbnbhifpcelaaDoor.V
open Go Go.RowKit
set_option linter.unusedVariables false
def Env.bx (w : World) (c : Nat) (F : Nat → Prop) (hc : c < w.heap.size) (hF : ∀ b, F b → b < w.heap.size) : Env := ⟨w, fun b => b = c ∨ F b, fun b h => h.elim (fun e => e ▸ hc) (hF b), fun _ => undef, 0, some c⟩
def Env.bx0 (w : World) (c : Nat) (F : Nat → Prop) (hc : c < w.heap.size) (hF : ∀ b, F b → b < w.heap.size) : Env := ⟨w, fun b => b = c ∨ F b, fun b h => h.elim (fun e => e ▸ hc) (hF b), fun _ => undef, 0, none⟩
def GivesH (E : Env) (c : Nat) (ty : TypeId) (ls : List T) (tup : Bool) (rs : List (Bool × List T)) (e : Ending) (w' : World) : Prop :=
  ∃ (us : List Value) (uss : List (List Value)) (F : Nat → Nat → Nat → Prop), w'.heap[c]? = some (.cells us.toArray ty (0, 0)) ∧ uss.length = rs.length ∧ e = .returned (vval tup (List.zipWith (fun r us => cval r.1 us) rs uss)) ∧
    (∀ (k : Nat) (ag : Bool) (ts : List T) (vs : List Value), ((false, ls) :: rs)[k]? = some (ag, ts) → (us :: uss)[k]? = some vs → vs.length = ts.length ∧ ∀ (j : Nat) (t : T) (u : Value), ts[j]? = some t → vs[j]? = some u → Own w' 0 t u (F k j)) ∧
    (∀ c1 j c2 j' b, F c1 j b → F c2 j' b → c1 = c2 ∧ j = j') ∧ (∀ c1 j b, F c1 j b → (E.B ≤ b ∨ E.ln b) ∧ b < w'.heap.size ∧ b ≠ c) ∧ Same E E.w0 w'
def VH (P : Program) (f : FuncId) (ty : TypeId) (ls : List T) (ins : List (Bool × List T)) (ls' : List T) (tup : Bool) (rs : List (Bool × List T)) : Prop :=
  ∀ (w : World) (c : Nat) (us : List Value) (F : Nat → Nat → Prop) (hc : c < w.heap.size) (hF : ∀ b, (∃ j, F j b) → b < w.heap.size) (vs : List Value),
    w.heap[c]? = some (.cells us.toArray ty (0, 0)) → us.length = ls.length → (∀ (j : Nat) (t : T) (u : Value), ls[j]? = some t → us[j]? = some u → Own w 0 t u (F j)) → (∀ i j b, F i b → F j b → i = j) → (∀ j b, F j b → b ≠ c) →
    ArgsIn (Env.bx w c (fun b => ∃ j, F j b) hc hF) w ins vs →
    Calls P f (Value.pointer (some ⟨c, 0, none⟩) :: vs).toArray w (GivesH (Env.bx w c (fun b => ∃ j, F j b) hc hF) c ty ls' tup rs)
variable {P : Program} {E : Env} {N : Nat} {σ σ' : VS} {o : Oper} {a : Act} {w : World} {G : Ghost}
theorem VH.enter {f : FuncId} {fn : Func} {c0 : Go.Code} {n : Nat} {ty : TypeId} {ls ls' : List T} {ins rs : List (Bool × List T)} {tup : Bool} (hf : P.funcs[f]? = some fn) (hb : fn.body = some c0) (hn : fn.ntmps = n) (hl : ins.length + 1 ≤ n)
    (h : ∀ (E : Env) (c : Nat), E.nl = 0 → E.pin = some c → SV E n ((ansS ⟨fun s => (V.one (.bp 0 0) :: ins.map fun p => V.flat p.1 (p.2.map argLeaf)).getD s (V.one .dead), [(ty, ls.map fun _ => .dead)], fun _ => none, 0⟩ ls).setb 0 ty (ansL 0 ls).1) (c0.wp P (bodyPost P fn (GivesH E c ty ls' tup rs)))) : VH P f ty ls ins ls' tup rs := fun w c us F hc hF vs hbox hus hown hdj hne hv => by
  refine calls_of_wp hf hb ?_
  have hv' : ArgsIn (Env.bx0 w c (fun b => ∃ j, F j b) hc hF) w ((false, [.any]) :: ins) (Value.pointer (some ⟨c, 0, none⟩) :: vs) := ⟨by simp [hv.1], fun c' ag ts v h1 h2 => by
    cases c' with
    | zero =>
      cases h1; cases h2
      refine ⟨[Value.pointer (some ⟨c, 0, none⟩)], rfl, rfl, fun j t u h3 h4 => ?_⟩
      match j, h3, h4 with
      | 0, h3, h4 => cases h3; cases h4; exact .any rfl
    | succ c' =>
      obtain ⟨us, e1, e2, e3⟩ := hv.2 c' ag ts v (by simpa using h1) (by simpa using h2)
      exact ⟨us, e1, e2, fun j t u h3 h4 => e3 j t u h3 h4⟩⟩
  obtain ⟨G0, h0'⟩ := init_rel (E := (Env.bx0 w c (fun b => ∃ j, F j b) hc hF)) (n := n) ⟨rfl, rfl⟩ hv' (by have := hv.1; simp; omega)
  have hone : ∀ (j : Nat) (u : Value), us[j]? = some u → u.oneCell' = true := fun j u hu => by
    have hj : j < ls.length := by rw [← hus]; exact get_lt hu
    exact (hown j ls[j] u (List.getElem?_eq_getElem hj) hu).one
  have base : Rel (Env.bx w c (fun b => ∃ j, F j b) hc hF) n ⟨fun s => (V.one (.bp 0 0) :: ins.map fun p => V.flat p.1 (p.2.map argLeaf)).getD s (V.one .dead), [(ty, ls.map fun _ => .dead)], fun _ => none, 0⟩ { tmps := (Value.pointer (some ⟨c, 0, none⟩) :: vs).toArray ++ Array.replicate (n - (Value.pointer (some ⟨c, 0, none⟩) :: vs).length) undef, defers := [] } w ⟨fun _ => c, fun _ => undef, fun _ _ => False⟩ := by
    refine ⟨Same.refl _ _, rfl, h0'.nsz, fun s => ?_, fun b ty' xs hb => ?_, fun b b' hb hb' _ => (by simp at hb hb'; omega), fun b i hb hi => absurd rfl hi, fun i v t hi => (by cases hi), fun i j b hi => absurd rfl hi, fun i b hi => absurd rfl hi, ⟨Nat.le_refl _, fun i hi => absurd hi (Nat.not_lt_zero i), fun c' hc' => ⟨by simp, Option.some.inj hc'⟩⟩⟩
    · cases s with
      | zero =>
        have e0 : ((Value.pointer (some ⟨c, 0, none⟩) :: vs).toArray ++ Array.replicate (n - (Value.pointer (some ⟨c, 0, none⟩) :: vs).length) undef).getD 0 undef = Value.pointer (some ⟨c, 0, none⟩) := by
          simp only [Array.getD_eq_getD_getElem?]
          rw [Array.getElem?_append_left (by simp)]
          simp
        show VHolds _ _ _ _ (V.one (.bp 0 0)) _
        rw [e0]
        exact vone.2 ⟨⟨by simp, rfl⟩, .inr rfl⟩
      | succ s =>
        refine (h0'.tmps (s + 1)).step fun x u hx => ?_
        obtain ⟨h1, h2⟩ := hx
        refine ⟨?_, h2⟩
        cases x with
        | dead => trivial
        | sc v => exact h1
        | nl ty => exact h1
        | ro t => exact h1
        | rp es => exact h1
        | hd i => exact absurd h1.1 (Nat.not_lt_zero i)
        | nd i ver t loc => exact absurd h1.1 (Nat.not_lt_zero i)
        | np i ver es => exact absurd h1.1 (Nat.not_lt_zero i)
        | ep i k n o => exact absurd h1.1 (Nat.not_lt_zero i)
        | bp b o => exact absurd h1.1 (Nat.not_lt_zero b)
    · have hb0 : b = 0 := by have := get_lt hb; simpa using this
      subst hb0
      cases hb
      refine ⟨.inr (.inl rfl), us, hbox, by simp [hus], fun j x u hj hu => ⟨?_, hone j u hu⟩⟩
      rw [List.getElem?_map] at hj
      obtain ⟨_, -, rfl⟩ := Option.map_eq_some_iff.1 hj
      exact ⟨trivial, .inl rfl⟩
  obtain ⟨G1, k1, k2, k3, k4, k5, k6, k7, k8, k9, k10, k11⟩ := Rel.addAll ls us F base hus hown (fun j b hb => ⟨⟨fun i hi => absurd rfl hi, fun c' hc' e => hne j b hb e.symm⟩, .inr (.inr ⟨j, hb⟩), hF b ⟨j, hb⟩⟩) hdj
  have k := k1.setbox (b := 0) (ty := ty) (xs := ls.map fun _ => .dead) (xs' := (ansL 0 ls).1) (us' := us) (w' := w) (by rw [k2]; rfl) (Same.refl _ _) (fun _ _ => rfl) (by rw [k10]; exact hbox) (hus.trans k7.symm) fun j x u hx hu => ⟨k8 j x u hx hu, hone j u hu⟩
  have h1 := h (Env.bx w c (fun b => ∃ j, F j b) hc hF) c rfl rfl _ _ _ k
  rw [hn]
  simpa using h1
theorem Rel.apart (h : Rel E N σ a w G) {b : Nat} {x x' : Leaf} (k1 : x.foot G b) (k2 : x'.foot G b) (k3 : ∃ t, σ.out x = some t) (k4 : ∃ t, σ.out x' = some t) : ¬ two x x' := fun k5 => by
  cases x with
  | hd i =>
    cases x' with
    | hd i' =>
      by_cases hii : i = i'
      · exact k5 i rfl (by rw [hii])
      · obtain ⟨t, k3⟩ := k3
        obtain ⟨t', k4⟩ := k4
        obtain ⟨p, e1, -⟩ := Option.map_eq_some_iff.1 k3
        obtain ⟨p', e2, -⟩ := Option.map_eq_some_iff.1 k4
        exact h.disj i i' b (by rw [e1]; simp) (by rw [e2]; simp) hii k1 k2
    | _ => exact k2
  | _ => exact k1
theorem Rel.foots (h : Rel E N σ a w G) {b : Nat} {x : Leaf} (k1 : x.foot G b) (k2 : ∃ t, σ.out x = some t) : ∃ i, x = .hd i ∧ σ.ob i ≠ none ∧ G.ft i b := by
  cases x with
  | hd i =>
    obtain ⟨t, k2⟩ := k2
    obtain ⟨p, e1, -⟩ := Option.map_eq_some_iff.1 k2
    exact ⟨i, rfl, by rw [e1]; simp, k1⟩
  | _ => exact k1.elim
theorem foot_inj (h : Rel E N σ a w G) {ys : List Leaf} (ho : ∀ x ∈ ys, ∃ t, σ.out x = some t) (h2 : ys.Pairwise two) {i j b : Nat} (hi : ∃ y, ys[i]? = some y ∧ y.foot G b) (hj : ∃ y, ys[j]? = some y ∧ y.foot G b) : i = j := by
  obtain ⟨x, x1, x2⟩ := hi
  obtain ⟨y, y1, y2⟩ := hj
  have hil := get_lt x1
  have hjl := get_lt y1
  have ex : ys[i] = x := by rw [List.getElem?_eq_getElem hil] at x1; exact Option.some.inj x1
  have ey : ys[j] = y := by rw [List.getElem?_eq_getElem hjl] at y1; exact Option.some.inj y1
  rcases Nat.lt_trichotomy i j with hij | hij | hij
  · have := (List.pairwise_iff_getElem.1 h2) i j hil hjl hij
    rw [ex, ey] at this
    exact absurd this (h.apart x2 y2 (ho _ (get_mem x1)) (ho _ (get_mem y1)))
  · exact hij
  · have := (List.pairwise_iff_getElem.1 h2) j i hjl hil hij
    rw [ex, ey] at this
    exact absurd this (h.apart y2 x2 (ho _ (get_mem y1)) (ho _ (get_mem x1)))
theorem SV.doneH {fn : Func} {rvs : List ResultVar} {ps : List (Bool × List Leaf)} {tup : Bool} {ls : List T} {qs : List (Bool × List T)} {c : Nat} {ty : TypeId} {xs : List Leaf} (hpin : E.pin = some c) (hbx : σ.bs[0]? = some (ty, xs)) (hf : fn.results = rvs.toArray) (hr : ResAll P σ rvs ps) (hx : σ.outs xs ls) (ho : σ.outss ps qs) (ht : (!(Nat.beq qs.length 1)) = tup) (h2 : (xs :: ps.map (·.2)).flatten.Pairwise two) {e : Exit} (he : e = .ret ∨ e = .normal) : SV E N σ (bodyPost P fn (GivesH E c ty ls tup qs) e) := fun a w G h => by
  obtain ⟨uss, h3, h4, h5⟩ := h.resAll hr
  obtain ⟨h6, h7⟩ := outss_get ho
  have hrun := results_run hf h4
  have hlen : (List.zipWith (fun (p : Bool × List Leaf) us => cval p.1 us) ps uss).length = qs.length := by simp [h3, h6]
  have hzip : List.zipWith (fun (p : Bool × List Leaf) us => cval p.1 us) ps uss = List.zipWith (fun (q : Bool × List T) us => cval q.1 us) qs uss := by
    apply List.ext_getElem?
    intro c
    rw [List.getElem?_zipWith, List.getElem?_zipWith]
    cases hq : qs[c]? with
    | none =>
      have : ps[c]? = none := by rw [List.getElem?_eq_none_iff] at hq ⊢; omega
      rw [this]
    | some q =>
      obtain ⟨ag, ts⟩ := q
      obtain ⟨xs, hp, -⟩ := h7 c ag ts hq
      rw [hp]
      cases uss[c]? <;> rfl
  rw [hlen, ht, hzip] at hrun
  obtain ⟨hB, us0, b1, b2, b3⟩ := h.boxes 0 _ _ hbx
  obtain ⟨hb0, hβ⟩ := h.lent.2.2 c hpin
  obtain ⟨ps', hps⟩ : ∃ ps', ps' = (false, xs) :: ps := ⟨_, rfl⟩
  have hag : ∀ (k : Nat) (ag : Bool) (ts : List T), ((false, ls) :: qs)[k]? = some (ag, ts) → ∃ ys, ps'[k]? = some (ag, ys) ∧ σ.outs ys ts := fun k ag ts hk => by
    rw [hps]
    cases k with
    | zero => cases hk; exact ⟨xs, rfl, hx⟩
    | succ k => exact h7 k ag ts (by simpa using hk)
  have hl' : ps'.length = ((false, ls) :: qs).length := by rw [hps]; simp [h6]
  have h5' : ∀ (k : Nat) (ag : Bool) (ys : List Leaf) (us : List Value), ps'[k]? = some (ag, ys) → (us0 :: uss)[k]? = some us → us.length = ys.length ∧ ∀ (j : Nat) (x : Leaf) (u : Value), ys[j]? = some x → us[j]? = some u → Holds G σ E w x u := fun k ag ys us hk hu => by
    rw [hps] at hk
    cases k with
    | zero => cases hk; cases hu; exact ⟨b2, fun j x u h1 h2 => (b3 j x u h1 h2).1⟩
    | succ k => exact h5 k ag ys us (by simpa using hk) (by simpa using hu)
  have h2' : (ps'.flatMap (·.2)).Pairwise two := by rw [hps, List.flatMap_cons]; rw [List.flatten_cons] at h2; rw [List.flatMap_def]; exact h2
  have hout : ∀ {c j : Nat} {ag : Bool} {xs : List Leaf} {x : Leaf}, ps'[c]? = some (ag, xs) → xs[j]? = some x → ∃ t, σ.out x = some t := fun {c j ag xs x} k1 k2 => by
    have hc : c < ((false, ls) :: qs).length := by rw [← hl']; exact get_lt k1
    obtain ⟨xs', k3, k4⟩ := hag c ((false, ls) :: qs)[c].1 ((false, ls) :: qs)[c].2 (by rw [List.getElem?_eq_getElem hc])
    rw [k1] at k3
    cases k3
    obtain ⟨k5, k6⟩ := outs_get k4
    have hj : j < ((false, ls) :: qs)[c].2.length := by rw [← k5]; exact get_lt k2
    obtain ⟨y, k7, k8⟩ := k6 j ((false, ls) :: qs)[c].2[j] (List.getElem?_eq_getElem hj)
    rw [k2] at k7
    cases k7
    exact ⟨_, k8⟩
  have hpost : a.defers = [] ∧ ∃ v, (results fn a.tmps).run P w = .ok v w ∧ GivesH E c ty ls tup qs (.returned v) w := by
    refine ⟨h.dfr, _, hrun, us0, uss, (fun k j b => ∃ ag xs x, ps'[k]? = some (ag, xs) ∧ xs[j]? = some x ∧ x.foot G b), by rw [← hβ]; exact b1, h3.trans h6, rfl, fun k ag ts us hq hu => ?_, ?_, ?_, h.below⟩
    · obtain ⟨xs, hp, hx⟩ := hag k ag ts hq
      obtain ⟨h8, h9⟩ := outs_get hx
      obtain ⟨h10, h11⟩ := h5' k ag xs us hp hu
      refine ⟨h10.trans h8, fun j t u hj hu' => ?_⟩
      obtain ⟨x, hx1, hx2⟩ := h9 j t hj
      exact (h.out (h11 j x u hx1 hu') hx2).mono fun b hb => ⟨ag, xs, x, hp, hx1, hb⟩
    · rintro c j c' j' b ⟨ag, xs, x, h8, h9, h10⟩ ⟨ag', xs', x', h8', h9', h10'⟩
      rw [List.pairwise_flatMap] at h2'
      have o1 := hout h8 h9
      have o2 := hout h8' h9'
      have hc1 := get_lt h8
      have hc2 := get_lt h8'
      have g1 : ps'[c] = (ag, xs) := by rw [List.getElem?_eq_getElem hc1] at h8; exact Option.some.inj h8
      have g2 : ps'[c'] = (ag', xs') := by rw [List.getElem?_eq_getElem hc2] at h8'; exact Option.some.inj h8'
      have m1 := get_mem h9
      have m2 := get_mem h9'
      rcases Nat.lt_trichotomy c c' with hcc | hcc | hcc
      · have := (List.pairwise_iff_getElem.1 h2'.2) c c' hc1 hc2 hcc x (by rw [g1]; exact m1) x' (by rw [g2]; exact m2)
        exact absurd this (h.apart h10 h10' o1 o2)
      · subst hcc
        rw [h8] at h8'
        cases h8'
        refine ⟨rfl, foot_inj h (fun y hy => ?_) (h2'.1 _ (get_mem h8)) ⟨x, h9, h10⟩ ⟨x', h9', h10'⟩⟩
        obtain ⟨q, hq⟩ := List.getElem?_of_mem hy
        exact hout h8 hq
      · have := (List.pairwise_iff_getElem.1 h2'.2) c' c hc2 hc1 hcc x' (by rw [g2]; exact m2) x (by rw [g1]; exact m1)
        exact absurd this (h.apart h10' h10 o2 o1)
    · rintro c' j b ⟨ag, xs, x, h8, h9, h10⟩
      obtain ⟨i, -, hi, hf⟩ := h.foots h10 (hout h8 h9)
      refine ⟨(h.ftlt i b hi hf).1, (h.ftlt i b hi hf).2, fun e => ?_⟩
      subst e
      rw [← hβ] at hf
      exact h.boxft 0 i hb0 hi hf
  rcases he with rfl | rfl <;> exact hpost
theorem Rel.lose (h : Rel E N σ a w G) {b : Nat} {ty : TypeId} {ys : List Leaf} {us' : List Value} {w' : World} (hb : σ.bs[b]? = some (ty, ys)) (ho : ∀ x ∈ ys, ∃ t, σ.out x = some t) (hbel : Same E w w') (hblk : ∀ k, k < w.heap.size → k ≠ G.β b → ¬ (∃ x ∈ ys, x.foot G k) → w'.heap[k]? = w.heap[k]?) (hnew : w'.heap[G.β b]? = some (.cells us'.toArray ty (0, 0)))
    (hl : us'.length = ys.length) (h1 : ∀ (j : Nat) (u : Value), us'[j]? = some u → u.oneCell' = true) : Rel E N ((σ.kills ys).setb b ty (ys.map fun _ => .dead)) a w' G := by
  have hbl := get_lt hb
  obtain ⟨σ1, hσ⟩ : ∃ σ1, σ1 = (σ.kills ys).setb b ty (ys.map fun _ => .dead) := ⟨_, rfl⟩
  have hlive : ∀ (i : Nat) (v : Nat × T), σ1.ob i = some v → σ.ob i = some v ∧ ys.any (isHd i) = false := fun i v hv => by
    have h1 : (bif ys.any (isHd i) then none else σ.ob i) = some v := by rw [hσ] at hv; exact hv
    cases hc : ys.any (isHd i) with
    | true => rw [hc] at h1; cases h1
    | false => rw [hc] at h1; exact ⟨h1, rfl⟩
  have hliv : ∀ i, σ1.ob i ≠ none → σ.ob i ≠ none := fun i hi => by
    obtain ⟨v, hv⟩ := Option.ne_none_iff_exists'.1 hi
    rw [(hlive i v hv).1]; simp
  have hfar : ∀ (i : Nat) (v : Nat × T) (k : Nat), σ1.ob i = some v → G.ft i k → k < w.heap.size ∧ k ≠ G.β b ∧ ¬ ∃ x ∈ ys, x.foot G k := fun i v k hv hk => by
    obtain ⟨e1, e2⟩ := hlive i v hv
    have hi : σ.ob i ≠ none := by rw [e1]; simp
    refine ⟨(h.ftlt i k hi hk).2, fun e => h.boxft b i hbl hi (by rw [← e]; exact hk), fun ⟨x, hx, hf⟩ => ?_⟩
    obtain ⟨j, rfl, hj, hjk⟩ := h.foots hf (ho x hx)
    by_cases hij : i = j
    · subst hij
      have : ys.any (isHd i) = true := List.any_eq_true.2 ⟨_, hx, Nat.beq_refl i⟩
      rw [e2] at this; cases this
    · exact h.disj i j k hi hj hij hk hjk
  have hbs : σ1.bs = σ.bs.set b (ty, ys.map fun _ => .dead) := by rw [hσ]; rfl
  have hbn : σ1.bs.length = σ.bs.length := by rw [hbs]; simp
  have hnx : σ1.nx = σ.nx := by rw [hσ]; rfl
  have htm : σ1.tm = σ.tm := by rw [hσ]; rfl
  have s : Step E σ σ1 w w' G G := ⟨hbel.size, fun k hk => hbel.block k hk, by rw [hnx]; exact Nat.le_refl _, by rw [hbn]; exact Nat.le_refl _, fun _ _ => rfl, fun _ _ => rfl,
    fun i v' t' hi hv => ⟨v', t', (hlive i _ hv).1, Nat.le_refl _, fun _ => ⟨rfl, fun k hk => (hfar i _ k hv hk).1, fun k hk => ⟨hk, by obtain ⟨q1, q2, q3⟩ := hfar i _ k hv hk; exact hblk k q1 q2 q3⟩⟩⟩⟩
  rw [← hσ]
  refine ⟨h.below.trans hbel, h.dfr, h.nsz, fun k => by rw [htm]; exact (h.tmps k).step fun x u hx => h.leaf s hx, fun c ty' zs hc => ?_, fun c c' q1 q2 => h.inj c c' (by rw [← hbn]; exact q1) (by rw [← hbn]; exact q2), fun c i q1 q2 => h.boxft c i (by rw [← hbn]; exact q1) (hliv i q2), fun i v t hi => ?_, fun i j k q1 q2 => h.disj i j k (hliv i q1) (hliv j q2), fun i k q1 hk => ⟨(h.ftlt i k (hliv i q1) hk).1, Nat.lt_of_lt_of_le (h.ftlt i k (hliv i q1) hk).2 hbel.size⟩, ⟨by rw [hnx]; exact h.lent.1, h.lent.2.1, fun c hc => ⟨by rw [hbn]; exact (h.lent.2.2 c hc).1, (h.lent.2.2 c hc).2⟩⟩⟩
  · rw [hbs] at hc
    by_cases hcb : b = c
    · subst hcb
      have he : (ty, ys.map fun _ => Leaf.dead) = (ty', zs) := by simpa [hbl] using hc
      injection he with e1 e2
      subst e1 e2
      obtain ⟨q1, -⟩ := h.boxes b ty ys hb
      refine ⟨q1, us', hnew, by simp [hl], fun j x u hx hu => ⟨?_, h1 j u hu⟩⟩
      rw [List.getElem?_map] at hx
      obtain ⟨_, -, rfl⟩ := Option.map_eq_some_iff.1 hx
      exact ⟨trivial, .inl rfl⟩
    · have hc' : σ.bs[c]? = some (ty', zs) := by rw [← hc]; exact (List.getElem?_set_ne hcb).symm
      obtain ⟨q1, us, q2, q3, q4⟩ := h.boxes c ty' zs hc'
      refine ⟨q1, us, (hblk _ (lt_of_block q2) (fun e => hcb (h.inj c b (get_lt hc') hbl e).symm) fun ⟨x, hx, hf⟩ => ?_).trans q2, q3, fun j x u hx hu => ⟨h.leaf s (q4 j x u hx hu).1, (q4 j x u hx hu).2⟩⟩
      obtain ⟨i, rfl, hi, hik⟩ := h.foots hf (ho x hx)
      exact h.boxft c i (get_lt hc') hi hik
  · obtain ⟨q1, q2, q3⟩ := h.objs i v t (hlive i _ hi).1
    exact ⟨by rw [hnx]; exact q1, q2.frame fun k hk => by obtain ⟨e1, e2, e3⟩ := hfar i _ k hi hk; exact hblk k e1 e2 e3, q3⟩
def VS.argH : List Leaf → List T → Prop
  | [], [] => True
  | x :: xs, t :: ts => ((∃ u, t = .lit u ∧ x = .sc u) ∨ x = .ro t) ∧ VS.argH xs ts
  | _, _ => False
theorem argH_get : ∀ {xs : List Leaf} {ts : List T}, VS.argH xs ts → xs.length = ts.length ∧ ∀ (j : Nat) (t : T), ts[j]? = some t → ∃ x, xs[j]? = some x ∧ ((∃ u, t = .lit u ∧ x = .sc u) ∨ x = .ro t)
  | [], [], _ => ⟨rfl, fun j t h => by simp at h⟩
  | x :: xs, t :: ts, h => by
    obtain ⟨h1, h2⟩ := argH_get h.2
    refine ⟨by simp [h1], fun j s hj => ?_⟩
    cases j with
    | zero => cases hj; exact ⟨x, rfl, h.1⟩
    | succ j => exact h2 j s (by simpa using hj)
def VS.argsH (σ : VS) : List Operand → List (Bool × List T) → Prop
  | [], [] => True
  | x :: xs, q :: qs => (∃ ls, σ.ev x = V.flat q.1 ls ∧ VS.argH ls q.2) ∧ σ.argsH xs qs
  | _, _ => False
theorem Rel.argsH (h : Rel E N σ a w G) {E' : Env} (hold : ∀ b, E.old b → E'.old b) : ∀ {xs : List Operand} {qs : List (Bool × List T)}, σ.argsH xs qs → ArgsIn E' w qs (xs.map a.eval)
  | [], [], _ => ⟨rfl, fun c ag ts v hc => by simp at hc⟩
  | x :: xs, q :: qs, hq => by
    obtain ⟨⟨ls, h1, h2⟩, h3⟩ := hq
    obtain ⟨h4, h5⟩ := h.argsH hold h3
    refine ⟨by simpa using h4, fun c ag ts v hc hv' => ?_⟩
    cases c with
    | zero =>
      cases hc
      cases hv'
      have h6 := h.ev x
      rw [h1, vflat] at h6
      obtain ⟨us, h7, h8, h9⟩ := h6
      obtain ⟨h10, h11⟩ := argH_get h2
      refine ⟨us, h7, h8.trans h10, fun j t u hj hu => ?_⟩
      obtain ⟨y, h12, h13⟩ := h11 j t hj
      have h14 := h9 j y u h12 hu
      rcases h13 with ⟨z, rfl, rfl⟩ | rfl
      · rcases h14.2 with h15 | h15
        · cases h15
        · have h16 : u = z := h14.1
          rw [h16] at h15 ⊢
          exact .lit h15
      · have h16 : Inn E.old w t u := h14.1
        exact h16.frame (Nat.le_refl _) fun b hb _ => ⟨hold b hb, rfl⟩
    | succ c => exact h5 c ag ts v (by simpa using hc) (by simpa using hv')
theorem ansS_bsH : ∀ (ts : List T) (σ : VS), (ansS σ ts).bs = σ.bs
  | [], σ => rfl
  | .any :: ts, σ => ansS_bsH ts σ
  | .lit v :: ts, σ => ansS_bsH ts σ
  | .seq ty es :: ts, σ => ansS_bsH ts (σ.new (.seq ty es))
theorem ansSs_bsH : ∀ (qs : List (Bool × List T)) (σ : VS), (ansSs σ qs).bs = σ.bs
  | [], σ => rfl
  | (ag, ts) :: qs, σ => (ansSs_bsH qs (ansS σ ts)).trans (ansS_bsH ts σ)
theorem ok_callH {d b : Nat} {f : FuncId} {x0 : Operand} {xs : List Operand} {ats : Array TypeId} {ty : TypeId} {ls ls' : List T} {ins rs : List (Bool × List T)} {tup : Bool} {ys L0 : List Leaf} {L : List (Bool × List Leaf)} (hk : ansLs σ.nx ((false, ls') :: rs) = (false, L0) :: L) (ho : o.op = .call { callee := .value (.func f), args := (x0 :: xs).toArray, argTypes := ats }) (hb : ∃ fn c, P.funcs[f]? = some fn ∧ fn.body = some c ∧ fn.name ≠ "runtime.NumGoroutine")
    (hc : VH P f ty ls ins ls' tup rs) (hx0 : σ.ev x0 = V.one (.bp b 0)) (hbx : σ.bs[b]? = some (ty, ys)) (hys : σ.outs ys ls) (h2 : ys.Pairwise two) (hls : ls'.length = ys.length) (hx : σ.argsH xs ins) (hd : o.dst = some d) (hdN : d < N) :
    OpOk P E N σ o (((ansSs ((σ.kills ys).setb b ty (ys.map fun _ => .dead)) ((false, ls') :: rs)).setb b ty L0).put d ⟨tup, L⟩) :=
  fun a w G K Q h k => by
    obtain ⟨fn, c, h1, hb2, h2'⟩ := hb
    have hbl := get_lt hbx
    obtain ⟨hB, us0, b1, b2, b3⟩ := h.boxes b _ _ hbx
    obtain ⟨hy1, hy2⟩ := outs_get hys
    have hout : ∀ x ∈ ys, ∃ t, σ.out x = some t := fun x hx => by
      obtain ⟨j, hj⟩ := List.getElem?_of_mem hx
      have hjl : j < ls.length := by rw [← hy1]; exact get_lt hj
      obtain ⟨y, e1, e2⟩ := hy2 j ls[j] (List.getElem?_eq_getElem hjl)
      rw [hj] at e1
      cases e1
      exact ⟨_, e2⟩
    obtain ⟨F, hF⟩ : ∃ F : Nat → Nat → Prop, F = fun j k => ∃ y, ys[j]? = some y ∧ y.foot G k := ⟨_, rfl⟩
    have hFi : ∀ j k, F j k → ∃ i, Leaf.hd i ∈ ys ∧ σ.ob i ≠ none ∧ G.ft i k := fun j k hk => by
      rw [hF] at hk
      obtain ⟨y, e1, e2⟩ := hk
      obtain ⟨i, rfl, hi, hf⟩ := h.foots e2 (hout y (get_mem e1))
      exact ⟨i, get_mem e1, hi, hf⟩
    have hcl : G.β b < w.heap.size := lt_of_block b1
    have hFl : ∀ k, (∃ j, F j k) → k < w.heap.size := fun k ⟨j, hk⟩ => by
      obtain ⟨i, -, hi, hf⟩ := hFi j k hk
      exact (h.ftlt i k hi hf).2
    have hFb : ∀ j k, F j k → k ≠ G.β b := fun j k hk e => by
      obtain ⟨i, -, hi, hf⟩ := hFi j k hk
      exact h.boxft b i hbl hi (by rw [← e]; exact hf)
    have hnot : ∀ k, E.old k → k ≠ G.β b ∧ ¬ ∃ j, F j k := fun k hk => ⟨fun e => by
      subst e
      exact hB.elim (fun h1 => by have := hk.1; omega) hk.2, fun ⟨j, hj⟩ => by
      obtain ⟨i, -, hi, hf⟩ := hFi j k hj
      exact (h.ftlt i k hi hf).1.elim (fun h1 => by have := hk.1; omega) hk.2⟩
    have hcall := hc w (G.β b) us0 F hcl hFl (xs.map a.eval) b1 (b2.trans hy1) (fun j t u hj hu => by
      obtain ⟨y, e1, e2⟩ := hy2 j t hj
      rw [hF]
      exact (h.out (b3 j y u e1 hu).1 e2).mono fun k hk => ⟨y, e1, hk⟩) (fun i j k hi hj => by rw [hF] at hi hj; exact foot_inj h hout h2 hi hj) hFb (h.argsH (E' := Env.bx w (G.β b) (fun k => ∃ j, F j k) hcl hFl) (fun k hk => ⟨Nat.lt_of_lt_of_le hk.1 h.low, fun e => Or.elim e (hnot k hk).1 (hnot k hk).2⟩) hx)
    have hx0v : a.eval x0 = .pointer (some ⟨G.β b, 0, none⟩) := by
      have := h.ev x0
      rw [hx0, vone] at this
      exact this.1.2
    have hev : (x0 :: xs).map a.eval = Value.pointer (some ⟨G.β b, 0, none⟩) :: xs.map a.eval := by rw [List.map_cons, hx0v]
    have hrun : (execOp a.eval o).run P w = .ok (.enter f ((x0 :: xs).map a.eval).toArray) w := by
      simp [execOp, ho, resolve, Act.eval, Deferred.ofValue, invoke, callFunc, h1, hb2, h2', Result.andThen]
    unfold Oper.wp
    rw [hrun, hev]
    refine hcall.mono fun e w' ⟨us', uss, F', g0, g1, g2, g3, g4, g5, g6⟩ => ?_
    subst g2
    have hsame : Same E w w' := ⟨g6.os, g6.tape, g6.output, g6.size, fun k hk => g6.block k ⟨Nat.lt_of_lt_of_le hk.1 h.low, fun e => e.elim (hnot k hk).1 (hnot k hk).2⟩⟩
    obtain ⟨g7, g8⟩ := g3 0 false ls' us' rfl rfl
    have hone : ∀ (j : Nat) (u : Value), us'[j]? = some u → u.oneCell' = true := fun j u hu => by
      have hj : j < ls'.length := by rw [← g7]; exact get_lt hu
      exact (g8 j ls'[j] u (List.getElem?_eq_getElem hj) hu).one
    have k0 := h.lose (us' := us') (w' := w') hbx hout hsame (fun k hk hkb hkF => g6.block k ⟨hk, fun e => e.elim hkb fun ⟨j, hj⟩ => by
      rw [hF] at hj
      obtain ⟨y, e1, e2⟩ := hj
      exact hkF ⟨y, get_mem e1, e2⟩⟩) g0 (g7.trans hls) hone
    obtain ⟨σ1, hσ⟩ : ∃ σ1, σ1 = (σ.kills ys).setb b ty (ys.map fun _ => .dead) := ⟨_, rfl⟩
    rw [← hσ] at k0 k
    have hlive : ∀ i, σ1.ob i ≠ none → σ.ob i ≠ none ∧ ¬ Leaf.hd i ∈ ys := fun i hi => by
      have h1 : (bif ys.any (isHd i) then none else σ.ob i) ≠ none := by rw [hσ] at hi; exact hi
      cases hc : ys.any (isHd i) with
      | true => rw [hc] at h1; exact absurd rfl h1
      | false =>
        rw [hc] at h1
        refine ⟨h1, fun hm => ?_⟩
        have : ys.any (isHd i) = true := List.any_eq_true.2 ⟨_, hm, Nat.beq_refl i⟩
        rw [hc] at this; cases this
    have hbn : σ1.bs.length = σ.bs.length := by rw [hσ]; show (σ.bs.set b _).length = _; simp
    have hnx : σ1.nx = σ.nx := by rw [hσ]; rfl
    obtain ⟨G', k1, k2, k3, k4, k5, k6, k7, k8⟩ := k0.addAlls ((false, ls') :: rs) (us' :: uss) F' (by simp [g1]) g3 (fun q j k hk => by
      obtain ⟨e1, e2, e3⟩ := g5 q j k hk
      rcases e1 with e1 | e1 | ⟨j', hj'⟩
      · have e1' : w.heap.size ≤ k := e1
        exact ⟨⟨fun i hi hf => (h.fresh e1').1 i (hlive i hi).1 hf, fun c' hc' => (h.fresh e1').2 c' (by rw [← hbn]; exact hc')⟩, .inl (Nat.le_trans h.low e1'), e2⟩
      · exact absurd e1 e3
      · obtain ⟨i, hm, hi, hf⟩ := hFi j' k hj'
        refine ⟨⟨fun i' hi' hf' => ?_, fun c' hc' e => ?_⟩, (h.ftlt i k hi hf).1, e2⟩
        · obtain ⟨q1, q2⟩ := hlive i' hi'
          by_cases hii : i' = i
          · subst hii; exact q2 hm
          · exact h.disj i' i k q1 hi hii hf' hf
        · exact h.boxft c' i (by rw [← hbn]; exact hc') hi (by rw [e]; exact hf)) g4
    rw [hnx, hk] at k3 k4
    have k3' : L.length = rs.length := by simpa using k3
    obtain ⟨m1, -, m3⟩ := k4 0 false L0 us' rfl rfl
    have hbs1 : (ansSs σ1 ((false, ls') :: rs)).bs[b]? = some (ty, ys.map fun _ => .dead) := by
      rw [ansSs_bsH, hσ]
      show (σ.bs.set b _)[b]? = _
      rw [List.getElem?_set_self hbl]
    have r1 := k1.setbox (xs' := L0) (us' := us') (w' := w') hbs1 (Same.refl _ _) (fun _ _ => rfl) (by rw [k7]; exact g0) m1 fun j x u hx hu => ⟨m3 j x u hx hu, hone j u hu⟩
    rw [hd]
    have hup : ∀ x u, Holds G' (ansSs σ1 ((false, ls') :: rs)) E w' x u → Holds G' ((ansSs σ1 ((false, ls') :: rs)).setb b ty L0) E w' x u := fun x u hx => by
      refine ⟨?_, hx.2⟩
      have hx1 := hx.1
      cases x with
      | bp b' o' => exact ⟨by show b' < ((ansSs σ1 ((false, ls') :: rs)).bs.set b (ty, L0)).length; rw [List.length_set]; exact hx1.1, hx1.2⟩
      | _ => exact hx1
    refine k _ _ _ (r1.put hdN ⟨uss, g1.trans k3'.symm, ?_, fun q ag zs us hq hu => ?_⟩)
    · congr 1
      apply List.ext_getElem?
      intro q
      rw [List.getElem?_zipWith, List.getElem?_zipWith]
      cases hq : L[q]? with
      | none =>
        have : rs[q]? = none := by rw [List.getElem?_eq_none_iff] at hq ⊢; omega
        rw [this]
      | some p =>
        obtain ⟨ag, xs'⟩ := p
        have hcl : q < uss.length := by have := get_lt hq; omega
        obtain ⟨-, ⟨ts, hts⟩, -⟩ := k4 (q + 1) ag xs' uss[q] (by simpa using hq) (by simp [hcl])
        have hts' : rs[q]? = some (ag, ts) := by simpa using hts
        rw [hts', List.getElem?_eq_getElem hcl]
    · obtain ⟨e1, -, e3⟩ := k4 (q + 1) ag zs us (by simpa using hq) (by simpa using hu)
      exact ⟨e1, fun j x u hj hu' => hup x u (e3 j x u hj hu')⟩
theorem ok_nilcheckB {nb : Nat} {x : Operand} {b q : Nat} (ho : o.op = .nilCheck x) (hx : σ.ev x = V.one (.bp b q)) : OpL P E N nb σ o (V.one (.bp b q)) :=
  fun a w G h => ⟨a.eval x, fun v' _ => by
    have h0 := h.ev x
    rw [hx, vone] at h0
    obtain ⟨⟨-, h1⟩, -⟩ := h0
    simp [execOp, ho, h1], by rw [← hx]; exact h.ev x⟩
end Go.Proofs.YtpnbnbhifpcelaaDoor.V
/- The program's selection: rows read and written, a run's end: told by trees. -/
namespace Go.Proofs.YtpnbnbhifpcelaaDoor
open Go Go.RowKit V
set_option linter.unusedVariables false
set_option maxRecDepth 100000 in
set_option maxHeartbeats 2000000 in
theorem vroom_i (X Y Z : List R) (r : R) (m : Int) (hX : ∀ q ∈ X, q.wf) (hY : ∀ q ∈ Y, q.wf) (hxl : X.length ≤ 24) (hyl : Y.length ≤ 24) (hr : r.wf) : VH Tryd.prog 27 47 [.seq 50 ((X).map tRow), .seq 50 ((Y).map tRow), .seq 50 ((Z).map tRow)] [(true, tRow r), (false, [.lit (.int .i64 (m))])] [.seq 50 ((X).map tRow), .seq 50 ((Y).map tRow), .seq 50 ((Z).map tRow)] false [(false, [.lit (.bool (decide (total X + total Y + r.cost ≤ m)))])] := by
  refine VH.enter Tryd.func27 rfl Tryd.ntmps27 (gle rfl) fun E c hE hpin => ?_
  have t1 := total_range X
  have t2 := total_range Y
  have t3 := R.cost_range r
  refine SV.seq' ?_
  refine SV.region ?_
  refine SV.op (OpMk.ok (ok_box (kk := 1) (ag := true) (xs := [.sc _, .sc _, .sc _]) rfl rfl rfl (fun h => by cases h) rfl rfl (gle rfl))) rfl ?_
  refine SV.op (OpL.ok (nb := 2) (ok_move (v := V.one (.sc _)) (.inr rfl) rfl) rfl (gle rfl)) rfl ?_
  refine SV.nil ?_
  refine SV.tn ?_
  refine SV.seq' ?_
  refine SV.draw [.q 0, .q 1, .q 2, .q 3, .q 5, .q 6, .q 7, .q 8, .q 11, .q 14, .m 4, .m 9, .q 10, .m 12, .q 13, .q 15, .q 16] [] (by kernel_rfl) (by kernel_rfl) ?_
  refine DW.q rfl (ok_move (v := V.one (.bp 0 0)) (.inl rfl) rfl) rfl rfl (gle rfl) (fun _ _ _ _ h => h) ?_
  refine DW.q rfl (ok_nilcheckB rfl rfl) rfl rfl (gle rfl) (fun _ _ _ _ h => h) ?_
  refine DW.q rfl (ok_field_bp (b := 0) (o' := 0) (off := 0) rfl rfl fld_impl_selection_0) rfl rfl (gle rfl) (fun _ _ _ _ h => h) ?_
  refine DW.q rfl (ok_load_bp (b := 0) (i := 0) (ag := false) (m := 1) (ys := [.hd 0]) rfl rfl rfl agg_s_impl_Row sz_s_impl_Row (fun _ => rfl) rfl rfl (gle rfl)) rfl rfl (gle rfl) (fun _ _ _ _ h => h) ?_
  refine DW.q rfl (ok_move (v := V.one (.bp 0 0)) (.inl rfl) rfl) rfl rfl (gle rfl) (fun _ _ _ _ h => h) ?_
  refine DW.q rfl (ok_nilcheckB rfl rfl) rfl rfl (gle rfl) (fun _ _ _ _ h => h) ?_
  refine DW.q rfl (ok_field_bp (b := 0) (o' := 0) (off := 1) rfl rfl fld_impl_selection_1) rfl rfl (gle rfl) (fun _ _ _ _ h => h) ?_
  refine DW.q rfl (ok_load_bp (b := 0) (i := 1) (ag := false) (m := 1) (ys := [.hd 1]) rfl rfl rfl agg_s_impl_Row sz_s_impl_Row (fun _ => rfl) rfl rfl (gle rfl)) rfl rfl (gle rfl) (fun _ _ _ _ h => h) ?_
  refine DW.q rfl (ok_load_bp (b := 1) (i := 0) (ag := true) (m := 3) (ys := [.sc _, .sc _, .sc _]) rfl rfl rfl agg_impl_Row sz_impl_Row (fun h => by cases h) rfl rfl (gle rfl)) rfl rfl (gle rfl) (fun _ _ _ _ h => h) ?_
  refine DW.q rfl (ok_move (v := V.one (.sc _)) (.inl rfl) rfl) rfl rfl (gle rfl) (fun _ _ _ _ h => h) ?_
  refine DW.m [] rfl (ok_call (ls := [(false, [.sc _])]) rfl rfl ⟨_, _, Tryd.func49, rfl, by decide⟩ (vtotal_i X hX (by omega)) ⟨⟨[.hd 0], rfl, ⟨rfl, trivial⟩⟩, trivial⟩ rfl (gle rfl)) rfl (gle rfl) (gle rfl) (.inl rfl) (fun j hj => by cases hj) ?_
  refine DW.m [] rfl (ok_call (ls := [(false, [.sc _])]) rfl rfl ⟨_, _, Tryd.func49, rfl, by decide⟩ (vtotal_i Y hY (by omega)) ⟨⟨[.hd 1], rfl, ⟨rfl, trivial⟩⟩, trivial⟩ rfl (gle rfl)) rfl (gle rfl) (gle rfl) (.inl rfl) (fun j hj => by cases hj) ?_
  refine DW.q rfl (ok_s2 (v := .int .i64 (total X + total Y)) (x := .tmp 11) (x' := .tmp 16) (VScal.one rfl) (VScal.one rfl) (fun ρ h1 h2 w => by go_simp; rw [IntWalk.i64_left, IntWalk.wrap64_in _ ⟨by omega, by omega⟩] <;> first | rfl | omega | (congr 1; omega)) rfl) rfl rfl (gle rfl) (fun _ _ _ _ h => h) ?_
  refine DW.m [] rfl (ok_call (ls := [(false, [.sc _])]) rfl rfl ⟨_, _, Tryd.func50, rfl, by decide⟩ (vcost_i r hr) ⟨⟨[.sc _, .sc _, .sc _], rfl, ⟨rfl, rfl, rfl, trivial⟩⟩, trivial⟩ rfl (gle rfl)) rfl (gle rfl) (gle rfl) (.inl rfl) (fun j hj => by cases hj) ?_
  refine DW.q rfl (ok_s2 (v := .int .i64 (total X + total Y + r.cost)) (x := .tmp 17) (x' := .tmp 19) (VScal.one rfl) (VScal.one rfl) (fun ρ h1 h2 w => by go_simp; rw [IntWalk.i64_left, IntWalk.wrap64_in _ ⟨by omega, by omega⟩] <;> first | rfl | omega | (congr 1; omega)) rfl) rfl rfl (gle rfl) (fun _ _ _ _ h => h) ?_
  refine DW.q rfl (ok_s2 (x := .tmp 20) (x' := .tmp 21) (VScal.one rfl) (VScal.one rfl) (fun ρ h1 h2 w => by go_simp; (try go_bits); with_reducible rfl) rfl) rfl rfl (gle rfl) (fun _ _ _ _ h => h) ?_
  refine DW.q rfl (ok_move (v := V.one (.sc _)) (.inr rfl) rfl) rfl rfl (gle rfl) (fun _ _ _ _ h => h) ?_
  refine DW.stores ?_
  refine SV.zend ?_
  refine SV.tn ?_
  refine SV.ret ?_
  apply SV.doneH (hpin := hpin) (hbx := rfl) (hf := Tryd.results27) (ht := rfl) (he := .inl rfl)
  case hr => exact (ResAll.cons (ResOk.tmp (ag := false) (xs := [.sc _]) rfl) ResAll.nil')
  case h2 => simp [two, ansL]
  case hx => refine ⟨?_, ?_, ?_, trivial⟩ <;> rfl
  refine ⟨rfl, ⟨?_, trivial⟩, trivial⟩ <;> rfl
theorem Runs_later_nil {Z : List R} {r : R} (h : Z.length = 0) : Runs.later Z r = false := later_nil h
set_option maxRecDepth 100000 in
set_option maxHeartbeats 2000000 in
theorem vread_i (X Y Z : List R) (r : R) (hxl : X.length ≤ 24) (hyl : Y.length ≤ 24) (hzl : Z.length ≤ 24) : VH Tryd.prog 28 47 [.seq 50 ((X).map tRow), .seq 50 ((Y).map tRow), .seq 50 ((Z).map tRow)] [(true, tRow r)] [.seq 50 ((if Runs.later Z r = true then X else X ++ [r]).map tRow), .seq 50 ((if Runs.later Z r = true then Y ++ [r] else Y).map tRow), .seq 50 ((Z).map tRow)] true [] := by
  refine VH.enter Tryd.func28 rfl Tryd.ntmps28 (gle rfl) fun E c hE hpin => ?_
  refine SV.seq' ?_
  refine SV.region ?_
  refine SV.op (OpMk.ok (ok_box (kk := 1) (ag := true) (xs := [.sc _, .sc _, .sc _]) rfl rfl rfl (fun h => by cases h) rfl rfl (gle rfl))) rfl ?_
  refine SV.nil ?_
  refine SV.tn ?_
  refine SV.seq' ?_
  refine SV.draw [.q 0, .q 1, .q 2, .q 3, .q 4, .q 5, .q 6, .q 7, .q 8, .q 9, .q 10, .q 11, .q 12, .q 13, .q 14, .q 15, .q 16, .q 17, .q 18, .q 19, .m 20, .q 21, .q 22] [] (by kernel_rfl) (by kernel_rfl) ?_
  refine DW.q rfl (ok_move (v := V.one (.bp 0 0)) (.inl rfl) rfl) rfl rfl (gle rfl) (fun _ _ _ _ h => h) ?_
  refine DW.q rfl (ok_nilcheckB rfl rfl) rfl rfl (gle rfl) (fun _ _ _ _ h => h) ?_
  refine DW.q rfl (ok_field_bp (b := 0) (o' := 0) (off := 2) rfl rfl fld_impl_selection_2) rfl rfl (gle rfl) (fun _ _ _ _ h => h) ?_
  refine DW.q rfl (ok_load_bp (b := 0) (i := 2) (ag := false) (m := 1) (ys := [.hd 2]) rfl rfl rfl agg_s_impl_Row sz_s_impl_Row (fun _ => rfl) rfl rfl (gle rfl)) rfl rfl (gle rfl) (fun _ _ _ _ h => h) ?_
  refine DW.q rfl (ok_len (lf := .hd 2) rfl elt_impl_Row.und rfl rfl) rfl rfl (gle rfl) (fun _ _ _ _ h => h) ?_
  refine DW.q rfl (ok_s2 (x := .tmp 8) (x' := .const ((Value.int IntKind.i64 0))) (VScal.one rfl) (VScal.one rfl) (fun ρ h1 h2 w => by go_simp; (try go_bits); with_reducible rfl) rfl) rfl rfl (gle rfl) (fun _ _ _ _ h => h) ?_
  refine DW.q rfl (ok_move (v := V.one (.sc _)) (.inl rfl) rfl) rfl rfl (gle rfl) (fun _ _ _ _ h => h) ?_
  refine DW.split (d := 10) rfl (fun hg0 => ?_) (fun hg0 => ?_)
  · skip   -- g0.T
    have hcl : 0 < Z.length := by rcases Nat.eq_zero_or_pos Z.length with h | h; (exfalso; simp [h] at hg0); (exact h)
    obtain ⟨d, hdd⟩ : ∃ d, Z[Z.length - 1]? = some d := ⟨_, List.getElem?_eq_getElem (by omega)⟩
    refine DW.qY rfl (ok_load_bp (b := 1) (i := 0) (ag := true) (m := 3) (ys := [.sc _, .sc _, .sc _]) rfl rfl rfl agg_impl_Row sz_impl_Row (fun h => by cases h) rfl rfl (gle rfl)) rfl rfl rfl (gle rfl) rfl rfl rfl (gle rfl) (fun _ _ _ _ h => h) ?_
    refine DW.qY rfl (ok_move (v := V.one (.bp 0 0)) (.inl rfl) rfl) rfl rfl rfl (gle rfl) rfl rfl rfl (gle rfl) (fun _ _ _ _ h => h) ?_
    refine DW.qY rfl (ok_nilcheckB rfl rfl) rfl rfl rfl (gle rfl) rfl rfl rfl (gle rfl) (fun _ _ _ _ h => h) ?_
    refine DW.qY rfl (ok_field_bp (b := 0) (o' := 0) (off := 2) rfl rfl fld_impl_selection_2) rfl rfl rfl (gle rfl) rfl rfl rfl (gle rfl) (fun _ _ _ _ h => h) ?_
    refine DW.qY rfl (ok_load_bp (b := 0) (i := 2) (ag := false) (m := 1) (ys := [.hd 2]) rfl rfl rfl agg_s_impl_Row sz_s_impl_Row (fun _ => rfl) rfl rfl (gle rfl)) rfl rfl rfl (gle rfl) rfl rfl rfl (gle rfl) (fun _ _ _ _ h => h) ?_
    refine DW.qY rfl (ok_move (v := V.one (.bp 0 0)) (.inl rfl) rfl) rfl rfl rfl (gle rfl) rfl rfl rfl (gle rfl) (fun _ _ _ _ h => h) ?_
    refine DW.qY rfl (ok_nilcheckB rfl rfl) rfl rfl rfl (gle rfl) rfl rfl rfl (gle rfl) (fun _ _ _ _ h => h) ?_
    refine DW.qY rfl (ok_field_bp (b := 0) (o' := 0) (off := 2) rfl rfl fld_impl_selection_2) rfl rfl rfl (gle rfl) rfl rfl rfl (gle rfl) (fun _ _ _ _ h => h) ?_
    refine DW.qY rfl (ok_load_bp (b := 0) (i := 2) (ag := false) (m := 1) (ys := [.hd 2]) rfl rfl rfl agg_s_impl_Row sz_s_impl_Row (fun _ => rfl) rfl rfl (gle rfl)) rfl rfl rfl (gle rfl) rfl rfl rfl (gle rfl) (fun _ _ _ _ h => h) ?_
    refine DW.qY rfl (ok_len (lf := .hd 2) rfl elt_impl_Row.und rfl rfl) rfl rfl rfl (gle rfl) rfl rfl rfl (gle rfl) (fun _ _ _ _ h => h) ?_
    refine DW.qY rfl (ok_s2 (v := .int .i64 ((Z.length - 1 : Nat) : Int)) (x := .tmp 20) (x' := .const ((Value.int IntKind.i64 1))) (VScal.one rfl) (VScal.one rfl) (fun ρ h1 h2 w => by go_simp; (try simp only [List.length_map]); first | (rw [IntWalk.i64_left, IntWalk.wrap64_in _ ⟨by omega, by omega⟩]; first | rfl | omega | (congr 1; omega)) | (congr 1; omega)) rfl) rfl rfl rfl (gle rfl) rfl rfl rfl (gle rfl) (fun _ _ _ _ h => h) ?_
    refine DW.qY rfl (ok_index (n := 3) (lf := .hd 2) rfl elt_impl_Row.und sz_impl_Row rfl rfl rfl (map_at hdd)) rfl rfl rfl (gle rfl) rfl rfl rfl (gle rfl) (fun _ _ _ _ h => h) ?_
    refine DW.el' (ag := true) (m := 3) (ys := [.sc _, .sc _, .sc _]) rfl rfl rfl (cells_ep rfl (map_at hdd) rfl rfl) agg_impl_Row sz_impl_Row (fun h => by cases h) (gle rfl) rfl (fun hr => wantedY hr rfl rfl rfl (gle rfl) rfl rfl) rfl (gle rfl) (fun _ _ _ _ h => h) ?_
    refine DW.m' [] rfl (ok_call (ls := [(false, [.sc _])]) rfl rfl ⟨_, _, Tryd.func42, rfl, by decide⟩ (vcmp_i r d) ⟨⟨[.sc _, .sc _, .sc _], rfl, ⟨rfl, rfl, rfl, trivial⟩⟩, ⟨[.sc _, .sc _, .sc _], rfl, ⟨rfl, rfl, rfl, trivial⟩⟩, trivial⟩ rfl (gle rfl)) (fun hr => wantedY hr rfl rfl rfl (gle rfl) rfl rfl) (gle rfl) (gle rfl) (.inl rfl) (fun j hj => by cases hj) ?_
    refine DW.qY rfl (ok_s2 (x := .tmp 24) (x' := .const ((Value.int IntKind.i64 0))) (VScal.one rfl) (VScal.one rfl) (fun ρ h1 h2 w => by go_simp; (try go_bits); with_reducible rfl) rfl) rfl rfl rfl (gle rfl) rfl rfl rfl (gle rfl) (fun _ _ _ _ h => h) ?_
    refine DW.q rfl (ok_pickT (v := V.one (.sc _)) rfl rfl rfl) rfl rfl (gle rfl) (fun _ _ _ _ h => h) ?_
    refine DW.stores ?_
    refine SV.zend ?_
    refine SV.tn ?_
    refine SV.cond rfl (fun hc0 => ?_) (fun hc0 => ?_)
    · skip   -- c0.T
      have hlt : Runs.later Z r = true := by rw [later_at hdd]; simpa using hc0
      refine SV.draw [.q 0, .q 1, .q 2, .q 3, .q 4, .q 5, .m 6, .m 7, .q 8, .q 9] [10] (by kernel_rfl) (by kernel_rfl) ?_
      refine DW.q rfl (ok_move (v := V.one (.bp 0 0)) (.inl rfl) rfl) rfl rfl (gle rfl) (fun _ _ _ _ h => h) ?_
      refine DW.q rfl (ok_move (v := V.one (.bp 0 0)) (.inl rfl) rfl) rfl rfl (gle rfl) (fun _ _ _ _ h => h) ?_
      refine DW.q rfl (ok_nilcheckB rfl rfl) rfl rfl (gle rfl) (fun _ _ _ _ h => h) ?_
      refine DW.q rfl (ok_field_bp (b := 0) (o' := 0) (off := 1) rfl rfl fld_impl_selection_1) rfl rfl (gle rfl) (fun _ _ _ _ h => h) ?_
      refine DW.q rfl (ok_load_bp (b := 0) (i := 1) (ag := false) (m := 1) (ys := [.hd 1]) rfl rfl rfl agg_s_impl_Row sz_s_impl_Row (fun _ => rfl) rfl rfl (gle rfl)) rfl rfl (gle rfl) (fun _ _ _ _ h => h) ?_
      refine DW.q rfl (ok_load_bp (b := 1) (i := 0) (ag := true) (m := 3) (ys := [.sc _, .sc _, .sc _]) rfl rfl rfl agg_impl_Row sz_impl_Row (fun h => by cases h) rfl rfl (gle rfl)) rfl rfl (gle rfl) (fun _ _ _ _ h => h) ?_
      refine DW.m [3] rfl (ok_lit1 (kk := 3) elt_impl_Row (ag := true) (xs := [.sc _, .sc _, .sc _]) rfl rfl rfl rfl (fun h => by cases h) (outs_c rfl (outs_c rfl (outs_c rfl outs_n))) (by simp [two]) rfl (gle rfl)) rfl (gle rfl) (gle rfl) (.inl rfl) (fun j hj => by
          simp only [List.mem_cons, List.not_mem_nil, or_false] at hj
          rcases hj with rfl
          · exact .inr ⟨(gle rfl), (gle rfl), .inl rfl⟩) ?_
      refine DW.m [3] rfl (ok_append (kk := 4) elt_impl_Row (ls := .hd 1) (lx := .hd 3) rfl rfl rfl rfl rfl rfl (by intro i h1 h2; first | (cases h1; done) | (cases h1; cases h2)) (by first | omega | (simp only [List.length_map]; omega) | (simp; done) | (simp; omega)) rfl (gle rfl)) rfl (gle rfl) (gle rfl) (.inr ⟨1, rfl, .inr ⟨(gle rfl), rfl⟩⟩) (fun j hj => by
          simp only [List.mem_cons, List.not_mem_nil, or_false] at hj
          rcases hj with rfl
          · exact .inl (by decide)) ?_
      refine DW.q rfl (ok_nilcheckB rfl rfl) rfl rfl (gle rfl) (fun _ _ _ _ h => h) ?_
      refine DW.q rfl (ok_field_bp (b := 0) (o' := 0) (off := 1) rfl rfl fld_impl_selection_1) rfl rfl (gle rfl) (fun _ _ _ _ h => h) ?_
      refine DW.stores ?_
      refine SV.z rfl (ok_store_bp (b := 0) (i := 1) (m := 1) (ag := false) (zs := [.hd 4]) (ys := [.hd 0, .hd 4, .hd 2]) rfl rfl rfl rfl sz_s_impl_Row (fun _ => rfl) rfl (gle rfl) rfl rfl rfl) rfl ?_
      refine SV.zend ?_
      apply SV.doneH (hpin := hpin) (hbx := rfl) (hf := Tryd.results28) (ht := rfl) (he := .inr rfl)
      case hr => exact ResAll.nil'
      case h2 => simp [two, ansL]
      case hx => refine ⟨?_, ?_, ?_, trivial⟩ <;> (show some (T.seq _ _) = some (T.seq _ _); refine congrArg (fun z => some (T.seq _ z)) ?_; first | done | rfl | (rw [hlt]; first | done | rfl | (simp [tRow]; done)) | (simp [hlt, tRow]; done))
      exact trivial
    · skip   -- c0.F
      have hlt : Runs.later Z r = false := by rw [later_at hdd]; simpa using hc0
      refine SV.draw [.q 0, .q 1, .q 2, .q 3, .q 4, .q 5, .m 6, .m 7, .q 8, .q 9] [10] (by kernel_rfl) (by kernel_rfl) ?_
      refine DW.q rfl (ok_move (v := V.one (.bp 0 0)) (.inl rfl) rfl) rfl rfl (gle rfl) (fun _ _ _ _ h => h) ?_
      refine DW.q rfl (ok_move (v := V.one (.bp 0 0)) (.inl rfl) rfl) rfl rfl (gle rfl) (fun _ _ _ _ h => h) ?_
      refine DW.q rfl (ok_nilcheckB rfl rfl) rfl rfl (gle rfl) (fun _ _ _ _ h => h) ?_
      refine DW.q rfl (ok_field_bp (b := 0) (o' := 0) (off := 0) rfl rfl fld_impl_selection_0) rfl rfl (gle rfl) (fun _ _ _ _ h => h) ?_
      refine DW.q rfl (ok_load_bp (b := 0) (i := 0) (ag := false) (m := 1) (ys := [.hd 0]) rfl rfl rfl agg_s_impl_Row sz_s_impl_Row (fun _ => rfl) rfl rfl (gle rfl)) rfl rfl (gle rfl) (fun _ _ _ _ h => h) ?_
      refine DW.q rfl (ok_load_bp (b := 1) (i := 0) (ag := true) (m := 3) (ys := [.sc _, .sc _, .sc _]) rfl rfl rfl agg_impl_Row sz_impl_Row (fun h => by cases h) rfl rfl (gle rfl)) rfl rfl (gle rfl) (fun _ _ _ _ h => h) ?_
      refine DW.m [3] rfl (ok_lit1 (kk := 3) elt_impl_Row (ag := true) (xs := [.sc _, .sc _, .sc _]) rfl rfl rfl rfl (fun h => by cases h) (outs_c rfl (outs_c rfl (outs_c rfl outs_n))) (by simp [two]) rfl (gle rfl)) rfl (gle rfl) (gle rfl) (.inl rfl) (fun j hj => by
          simp only [List.mem_cons, List.not_mem_nil, or_false] at hj
          rcases hj with rfl
          · exact .inr ⟨(gle rfl), (gle rfl), .inl rfl⟩) ?_
      refine DW.m [3] rfl (ok_append (kk := 4) elt_impl_Row (ls := .hd 0) (lx := .hd 3) rfl rfl rfl rfl rfl rfl (by intro i h1 h2; first | (cases h1; done) | (cases h1; cases h2)) (by first | omega | (simp only [List.length_map]; omega) | (simp; done) | (simp; omega)) rfl (gle rfl)) rfl (gle rfl) (gle rfl) (.inr ⟨0, rfl, .inr ⟨(gle rfl), rfl⟩⟩) (fun j hj => by
          simp only [List.mem_cons, List.not_mem_nil, or_false] at hj
          rcases hj with rfl
          · exact .inl (by decide)) ?_
      refine DW.q rfl (ok_nilcheckB rfl rfl) rfl rfl (gle rfl) (fun _ _ _ _ h => h) ?_
      refine DW.q rfl (ok_field_bp (b := 0) (o' := 0) (off := 0) rfl rfl fld_impl_selection_0) rfl rfl (gle rfl) (fun _ _ _ _ h => h) ?_
      refine DW.stores ?_
      refine SV.z rfl (ok_store_bp (b := 0) (i := 0) (m := 1) (ag := false) (zs := [.hd 4]) (ys := [.hd 4, .hd 1, .hd 2]) rfl rfl rfl rfl sz_s_impl_Row (fun _ => rfl) rfl (gle rfl) rfl rfl rfl) rfl ?_
      refine SV.zend ?_
      apply SV.doneH (hpin := hpin) (hbx := rfl) (hf := Tryd.results28) (ht := rfl) (he := .inr rfl)
      case hr => exact ResAll.nil'
      case h2 => simp [two, ansL]
      case hx => refine ⟨?_, ?_, ?_, trivial⟩ <;> (show some (T.seq _ _) = some (T.seq _ _); refine congrArg (fun z => some (T.seq _ z)) ?_; first | done | rfl | (rw [hlt]; first | done | rfl | (simp [tRow]; done)) | (simp [hlt, tRow]; done))
      exact trivial
  · skip   -- g0.F
    have hlt : Runs.later Z r = false := Runs_later_nil (by first | (simpa using hg0) | (simp at hg0; omega) | (simp at hg0; rw [hg0]; rfl))
    refine DW.qN (V' := V.one .dead) rfl rfl rfl rfl (gle rfl) rfl rfl rfl (gle rfl) (fun _ _ _ _ h => h) ?_
    refine DW.qN (V' := V.one .dead) rfl rfl rfl rfl (gle rfl) rfl rfl rfl (gle rfl) (fun _ _ _ _ h => h) ?_
    refine DW.qN (V' := V.one .dead) rfl rfl rfl rfl (gle rfl) rfl rfl rfl (gle rfl) (fun _ _ _ _ h => h) ?_
    refine DW.qN (V' := V.one .dead) rfl rfl rfl rfl (gle rfl) rfl rfl rfl (gle rfl) (fun _ _ _ _ h => h) ?_
    refine DW.qN (V' := V.one .dead) rfl rfl rfl rfl (gle rfl) rfl rfl rfl (gle rfl) (fun _ _ _ _ h => h) ?_
    refine DW.qN (V' := V.one .dead) rfl rfl rfl rfl (gle rfl) rfl rfl rfl (gle rfl) (fun _ _ _ _ h => h) ?_
    refine DW.qN (V' := V.one .dead) rfl rfl rfl rfl (gle rfl) rfl rfl rfl (gle rfl) (fun _ _ _ _ h => h) ?_
    refine DW.qN (V' := V.one .dead) rfl rfl rfl rfl (gle rfl) rfl rfl rfl (gle rfl) (fun _ _ _ _ h => h) ?_
    refine DW.qN (V' := V.one .dead) rfl rfl rfl rfl (gle rfl) rfl rfl rfl (gle rfl) (fun _ _ _ _ h => h) ?_
    refine DW.qN (V' := V.one .dead) rfl rfl rfl rfl (gle rfl) rfl rfl rfl (gle rfl) (fun _ _ _ _ h => h) ?_
    refine DW.qN (V' := V.one .dead) rfl rfl rfl rfl (gle rfl) rfl rfl rfl (gle rfl) (fun _ _ _ _ h => h) ?_
    refine DW.qN (V' := V.one .dead) rfl rfl rfl rfl (gle rfl) rfl rfl rfl (gle rfl) (fun _ _ _ _ h => h) ?_
    refine DW.qN (V' := V.one .dead) rfl rfl rfl rfl (gle rfl) rfl rfl rfl (gle rfl) (fun _ _ _ _ h => h) ?_
    refine DW.mN rfl rfl rfl rfl (gle rfl) rfl rfl rfl (gle rfl) ?_
    refine DW.qN (V' := V.one .dead) rfl rfl rfl rfl (gle rfl) rfl rfl rfl (gle rfl) (fun _ _ _ _ h => h) ?_
    refine DW.q rfl (ok_pickF (v := V.one (.sc _)) rfl rfl rfl) rfl rfl (gle rfl) (fun _ _ _ _ h => h) ?_
    refine DW.stores ?_
    refine SV.zend ?_
    refine SV.tn ?_
    refine SV.cond rfl (fun hc1 => ?_) (fun hc1 => ?_)
    · skip   -- c1.T
      cases hc1
    · skip   -- c1.F
      refine SV.draw [.q 0, .q 1, .q 2, .q 3, .q 4, .q 5, .m 6, .m 7, .q 8, .q 9] [10] (by kernel_rfl) (by kernel_rfl) ?_
      refine DW.q rfl (ok_move (v := V.one (.bp 0 0)) (.inl rfl) rfl) rfl rfl (gle rfl) (fun _ _ _ _ h => h) ?_
      refine DW.q rfl (ok_move (v := V.one (.bp 0 0)) (.inl rfl) rfl) rfl rfl (gle rfl) (fun _ _ _ _ h => h) ?_
      refine DW.q rfl (ok_nilcheckB rfl rfl) rfl rfl (gle rfl) (fun _ _ _ _ h => h) ?_
      refine DW.q rfl (ok_field_bp (b := 0) (o' := 0) (off := 0) rfl rfl fld_impl_selection_0) rfl rfl (gle rfl) (fun _ _ _ _ h => h) ?_
      refine DW.q rfl (ok_load_bp (b := 0) (i := 0) (ag := false) (m := 1) (ys := [.hd 0]) rfl rfl rfl agg_s_impl_Row sz_s_impl_Row (fun _ => rfl) rfl rfl (gle rfl)) rfl rfl (gle rfl) (fun _ _ _ _ h => h) ?_
      refine DW.q rfl (ok_load_bp (b := 1) (i := 0) (ag := true) (m := 3) (ys := [.sc _, .sc _, .sc _]) rfl rfl rfl agg_impl_Row sz_impl_Row (fun h => by cases h) rfl rfl (gle rfl)) rfl rfl (gle rfl) (fun _ _ _ _ h => h) ?_
      refine DW.m [3] rfl (ok_lit1 (kk := 3) elt_impl_Row (ag := true) (xs := [.sc _, .sc _, .sc _]) rfl rfl rfl rfl (fun h => by cases h) (outs_c rfl (outs_c rfl (outs_c rfl outs_n))) (by simp [two]) rfl (gle rfl)) rfl (gle rfl) (gle rfl) (.inl rfl) (fun j hj => by
          simp only [List.mem_cons, List.not_mem_nil, or_false] at hj
          rcases hj with rfl
          · exact .inr ⟨(gle rfl), (gle rfl), .inl rfl⟩) ?_
      refine DW.m [3] rfl (ok_append (kk := 4) elt_impl_Row (ls := .hd 0) (lx := .hd 3) rfl rfl rfl rfl rfl rfl (by intro i h1 h2; first | (cases h1; done) | (cases h1; cases h2)) (by first | omega | (simp only [List.length_map]; omega) | (simp; done) | (simp; omega)) rfl (gle rfl)) rfl (gle rfl) (gle rfl) (.inr ⟨0, rfl, .inr ⟨(gle rfl), rfl⟩⟩) (fun j hj => by
          simp only [List.mem_cons, List.not_mem_nil, or_false] at hj
          rcases hj with rfl
          · exact .inl (by decide)) ?_
      refine DW.q rfl (ok_nilcheckB rfl rfl) rfl rfl (gle rfl) (fun _ _ _ _ h => h) ?_
      refine DW.q rfl (ok_field_bp (b := 0) (o' := 0) (off := 0) rfl rfl fld_impl_selection_0) rfl rfl (gle rfl) (fun _ _ _ _ h => h) ?_
      refine DW.stores ?_
      refine SV.z rfl (ok_store_bp (b := 0) (i := 0) (m := 1) (ag := false) (zs := [.hd 4]) (ys := [.hd 4, .hd 1, .hd 2]) rfl rfl rfl rfl sz_s_impl_Row (fun _ => rfl) rfl (gle rfl) rfl rfl rfl) rfl ?_
      refine SV.zend ?_
      apply SV.doneH (hpin := hpin) (hbx := rfl) (hf := Tryd.results28) (ht := rfl) (he := .inr rfl)
      case hr => exact ResAll.nil'
      case h2 => simp [two, ansL]
      case hx => refine ⟨?_, ?_, ?_, trivial⟩ <;> (show some (T.seq _ _) = some (T.seq _ _); refine congrArg (fun z => some (T.seq _ z)) ?_; first | done | rfl | (rw [hlt]; first | done | rfl | (simp [tRow]; done)) | (simp [hlt, tRow]; done))
      exact trivial
set_option maxRecDepth 100000 in
set_option maxHeartbeats 2000000 in
theorem vwrite_i (X Y Z : List R) (k : Nat) (e : R) (hki : Runs.idxMin X = (k : Int)) (he : X[k]? = some e) (hxl : X.length ≤ 24) (hzl : Z.length ≤ 24) : VH Tryd.prog 30 47 [.seq 50 ((X).map tRow), .seq 50 ((Y).map tRow), .seq 50 ((Z).map tRow)] [] [.seq 50 ((X.eraseIdx k).map tRow), .seq 50 ((Y).map tRow), .seq 50 ((Z ++ [e]).map tRow)] false [(true, tRow e)] := by
  refine VH.enter Tryd.func30 rfl Tryd.ntmps30 (gle rfl) fun E c hE hpin => ?_
  have hk : k < X.length := Runs.getlt he
  have hvi := vidx_i X (by omega)
  rw [hki] at hvi
  refine SV.seq' ?_
  refine SV.region ?_
  refine SV.op (OpMk.ok (ok_alloc (kk := 1) (xs := [.sc _, .sc _, .sc _]) rfl rfl zero_impl_Row ⟨rfl, rfl, rfl, rfl, rfl, rfl, trivial⟩ rfl (gle rfl))) rfl ?_
  refine SV.nil ?_
  refine SV.tn ?_
  refine SV.seq' ?_
  refine SV.region ?_
  refine SV.op (OpL.ok (nb := 2) (ok_move (v := V.one (.bp 0 0)) (.inl rfl) rfl) rfl (gle rfl)) rfl ?_
  refine SV.op (OpL.ok (nb := 2) (ok_nilcheckB rfl rfl) rfl (gle rfl)) rfl ?_
  refine SV.op (OpL.ok (nb := 2) (ok_field_bp (b := 0) (o' := 0) (off := 0) rfl rfl fld_impl_selection_0) rfl (gle rfl)) rfl ?_
  refine SV.op (OpL.ok (nb := 2) (ok_load_bp (b := 0) (i := 0) (ag := false) (m := 1) (ys := [.hd 0]) rfl rfl rfl agg_s_impl_Row sz_s_impl_Row (fun _ => rfl) rfl rfl (gle rfl)) rfl (gle rfl)) rfl ?_
  refine SV.op (OpMk.ok (ok_call (ls := [(false, [.sc _])]) rfl rfl ⟨_, _, Tryd.func15, rfl, by decide⟩ (hvi) ⟨⟨[.hd 0], rfl, ⟨rfl, trivial⟩⟩, trivial⟩ rfl (gle rfl))) rfl ?_
  refine SV.op (OpL.ok (nb := 2) (ok_move (v := V.one (.sc _)) (.inr rfl) rfl) rfl (gle rfl)) rfl ?_
  refine SV.nil ?_
  refine SV.tn ?_
  refine SV.seq' ?_
  refine SV.region ?_
  refine SV.op (OpL.ok (nb := 2) (ok_move (v := V.one (.bp 0 0)) (.inl rfl) rfl) rfl (gle rfl)) rfl ?_
  refine SV.op (OpL.ok (nb := 2) (ok_nilcheckB rfl rfl) rfl (gle rfl)) rfl ?_
  refine SV.op (OpL.ok (nb := 2) (ok_field_bp (b := 0) (o' := 0) (off := 0) rfl rfl fld_impl_selection_0) rfl (gle rfl)) rfl ?_
  refine SV.op (OpL.ok (nb := 2) (ok_load_bp (b := 0) (i := 0) (ag := false) (m := 1) (ys := [.hd 0]) rfl rfl rfl agg_s_impl_Row sz_s_impl_Row (fun _ => rfl) rfl rfl (gle rfl)) rfl (gle rfl)) rfl ?_
  refine SV.op (OpL.ok (nb := 2) (ok_move (v := V.one (.sc _)) (.inl rfl) rfl) rfl (gle rfl)) rfl ?_
  refine SV.op (OpL.ok (nb := 2) (ok_index (n := 3) (lf := .hd 0) rfl elt_impl_Row.und sz_impl_Row rfl rfl rfl (map_at he)) rfl (gle rfl)) rfl ?_
  refine SV.op (ok_load_el (p := .ep 0 _ _ _) (ag := true) (m := 3) (ys := [.sc _, .sc _, .sc _]) rfl rfl (cells_ep rfl (map_at he) rfl rfl) agg_impl_Row sz_impl_Row (fun h => by cases h) (gle rfl) rfl rfl (gle rfl)) rfl ?_
  refine SV.op (OpMk.ok (ok_alloc (kk := 2) (xs := [.sc _, .sc _, .sc _]) rfl rfl zero_impl_Row ⟨rfl, rfl, rfl, rfl, rfl, rfl, trivial⟩ rfl (gle rfl))) rfl ?_
  refine SV.op (ok_store_bp (b := 2) (i := 0) (m := 3) (ag := true) (zs := [.sc _, .sc _, .sc _]) (ys := [.sc _, .sc _, .sc _]) rfl rfl rfl rfl sz_impl_Row (fun h => by cases h) rfl (gle rfl) rfl rfl rfl) rfl ?_
  refine SV.nil ?_
  refine SV.tn ?_
  refine SV.seq' ?_
  refine SV.draw [.q 0, .q 1, .q 2, .q 3, .q 4, .q 5, .m 6, .m 7, .q 8, .q 9] [10] (by kernel_rfl) (by kernel_rfl) ?_
  refine DW.q rfl (ok_move (v := V.one (.bp 0 0)) (.inl rfl) rfl) rfl rfl (gle rfl) (fun _ _ _ _ h => h) ?_
  refine DW.q rfl (ok_move (v := V.one (.bp 0 0)) (.inl rfl) rfl) rfl rfl (gle rfl) (fun _ _ _ _ h => h) ?_
  refine DW.q rfl (ok_nilcheckB rfl rfl) rfl rfl (gle rfl) (fun _ _ _ _ h => h) ?_
  refine DW.q rfl (ok_field_bp (b := 0) (o' := 0) (off := 2) rfl rfl fld_impl_selection_2) rfl rfl (gle rfl) (fun _ _ _ _ h => h) ?_
  refine DW.q rfl (ok_load_bp (b := 0) (i := 2) (ag := false) (m := 1) (ys := [.hd 2]) rfl rfl rfl agg_s_impl_Row sz_s_impl_Row (fun _ => rfl) rfl rfl (gle rfl)) rfl rfl (gle rfl) (fun _ _ _ _ h => h) ?_
  refine DW.q rfl (ok_load_bp (b := 2) (i := 0) (ag := true) (m := 3) (ys := [.sc _, .sc _, .sc _]) rfl rfl rfl agg_impl_Row sz_impl_Row (fun h => by cases h) rfl rfl (gle rfl)) rfl rfl (gle rfl) (fun _ _ _ _ h => h) ?_
  refine DW.m [3] rfl (ok_lit1 (kk := 3) elt_impl_Row (ag := true) (xs := [.sc _, .sc _, .sc _]) rfl rfl rfl rfl (fun h => by cases h) (outs_c rfl (outs_c rfl (outs_c rfl outs_n))) (by simp [two]) rfl (gle rfl)) rfl (gle rfl) (gle rfl) (.inl rfl) (fun j hj => by
      simp only [List.mem_cons, List.not_mem_nil, or_false] at hj
      rcases hj with rfl
      · exact .inr ⟨(gle rfl), (gle rfl), .inl rfl⟩) ?_
  refine DW.m [3] rfl (ok_append (kk := 4) elt_impl_Row (ls := .hd 2) (lx := .hd 3) rfl rfl rfl rfl rfl rfl (by intro i h1 h2; first | (cases h1; done) | (cases h1; cases h2)) (by first | omega | (simp only [List.length_map]; omega) | (simp; done) | (simp; omega)) rfl (gle rfl)) rfl (gle rfl) (gle rfl) (.inr ⟨2, rfl, .inr ⟨(gle rfl), rfl⟩⟩) (fun j hj => by
      simp only [List.mem_cons, List.not_mem_nil, or_false] at hj
      rcases hj with rfl
      · exact .inl (by decide)) ?_
  refine DW.q rfl (ok_nilcheckB rfl rfl) rfl rfl (gle rfl) (fun _ _ _ _ h => h) ?_
  refine DW.q rfl (ok_field_bp (b := 0) (o' := 0) (off := 2) rfl rfl fld_impl_selection_2) rfl rfl (gle rfl) (fun _ _ _ _ h => h) ?_
  refine DW.stores ?_
  refine SV.z rfl (ok_store_bp (b := 0) (i := 2) (m := 1) (ag := false) (zs := [.hd 4]) (ys := [.hd 0, .hd 1, .hd 4]) rfl rfl rfl rfl sz_s_impl_Row (fun _ => rfl) rfl (gle rfl) rfl rfl rfl) rfl ?_
  refine SV.zend ?_
  refine SV.tn ?_
  refine SV.seq' ?_
  refine SV.region ?_
  refine SV.op (OpL.ok (nb := 3) (ok_move (v := V.one (.bp 0 0)) (.inl rfl) rfl) rfl (gle rfl)) rfl ?_
  refine SV.op (OpL.ok (nb := 3) (ok_move (v := V.one (.bp 0 0)) (.inl rfl) rfl) rfl (gle rfl)) rfl ?_
  refine SV.op (OpL.ok (nb := 3) (ok_nilcheckB rfl rfl) rfl (gle rfl)) rfl ?_
  refine SV.op (OpL.ok (nb := 3) (ok_field_bp (b := 0) (o' := 0) (off := 0) rfl rfl fld_impl_selection_0) rfl (gle rfl)) rfl ?_
  refine SV.op (OpL.ok (nb := 3) (ok_load_bp (b := 0) (i := 0) (ag := false) (m := 1) (ys := [.hd 0]) rfl rfl rfl agg_s_impl_Row sz_s_impl_Row (fun _ => rfl) rfl rfl (gle rfl)) rfl (gle rfl)) rfl ?_
  refine SV.op (OpL.ok (nb := 3) (ok_move (v := V.one (.sc _)) (.inl rfl) rfl) rfl (gle rfl)) rfl ?_
  refine SV.op (OpL.ok (nb := 3) (ok_move (v := V.one (.sc _)) (.inl rfl) rfl) rfl (gle rfl)) rfl ?_
  refine SV.op (OpL.ok (nb := 3) (ok_s2 (v := .int .i64 ((k : Int) + 1)) (x := .tmp 33) (x' := .const ((Value.int IntKind.i64 1))) (VScal.one rfl) (VScal.one rfl) (fun ρ h1 h2 w => by go_simp; rw [IntWalk.i64_left, IntWalk.wrap64_in _ ⟨by omega, by omega⟩]) rfl) rfl (gle rfl)) rfl ?_
  refine SV.op (ok_callX (i := 0) (kk := 5) rfl rfl ⟨_, _, Tryd.func51, rfl, by decide⟩ (vdelrow X k hk) ⟨⟨[.hd 0], rfl, ⟨⟨rfl, rfl⟩, trivial⟩⟩, ⟨[.sc _], rfl, ⟨.inl ⟨_, rfl, rfl⟩, trivial⟩⟩, ⟨[.sc _], rfl, ⟨.inl ⟨_, rfl, rfl⟩, trivial⟩⟩, trivial⟩ rfl rfl (gle rfl)) rfl ?_
  refine SV.op (OpL.ok (nb := 3) (ok_nilcheckB rfl rfl) rfl (gle rfl)) rfl ?_
  refine SV.op (OpL.ok (nb := 3) (ok_field_bp (b := 0) (o' := 0) (off := 0) rfl rfl fld_impl_selection_0) rfl (gle rfl)) rfl ?_
  refine SV.op (ok_store_bp (b := 0) (i := 0) (m := 1) (ag := false) (zs := [.hd 5]) (ys := [.hd 5, .hd 1, .hd 4]) rfl rfl rfl rfl sz_s_impl_Row (fun _ => rfl) rfl (gle rfl) rfl rfl rfl) rfl ?_
  refine SV.nil ?_
  refine SV.tn ?_
  refine SV.seq' ?_
  refine SV.region ?_
  refine SV.op (OpL.ok (nb := 3) (ok_load_bp (b := 2) (i := 0) (ag := true) (m := 3) (ys := [.sc _, .sc _, .sc _]) rfl rfl rfl agg_impl_Row sz_impl_Row (fun h => by cases h) rfl rfl (gle rfl)) rfl (gle rfl)) rfl ?_
  refine SV.op (ok_store_bp (b := 1) (i := 0) (m := 3) (ag := true) (zs := [.sc _, .sc _, .sc _]) (ys := [.sc _, .sc _, .sc _]) rfl rfl rfl rfl sz_impl_Row (fun h => by cases h) rfl (gle rfl) rfl rfl rfl) rfl ?_
  refine SV.nil ?_
  refine SV.tn ?_
  refine SV.ret ?_
  apply SV.doneH (hpin := hpin) (hbx := rfl) (hf := Tryd.results30) (ht := rfl) (he := .inl rfl)
  case hr => exact (ResAll.cons (ResOk.cell (b := 1) (ag := true) (xs := [.sc _, .sc _, .sc _]) rfl rfl agg_impl_Row sz_impl_Row (fun h => by cases h)) ResAll.nil')
  case h2 => simp [two, ansL]
  case hx => refine ⟨?_, ?_, ?_, trivial⟩ <;> (show some (T.seq _ _) = some (T.seq _ _); refine congrArg (fun z => some (T.seq _ z)) ?_; first | done | rfl | (simp [tRow]; done))
  refine ⟨rfl, ⟨?_, ?_, ?_, trivial⟩, trivial⟩ <;> rfl
set_option maxRecDepth 100000 in
set_option maxHeartbeats 2000000 in
theorem vendrun_i (X Y Z : List R) : VH Tryd.prog 29 47 [.seq 50 ((X).map tRow), .seq 50 ((Y).map tRow), .seq 50 ((Z).map tRow)] [] [.seq 50 ((Y).map tRow), .seq 50 (([]).map tRow), .seq 50 (([]).map tRow)] false [(true, tRun Z)] := by
  refine VH.enter Tryd.func29 rfl Tryd.ntmps29 (gle rfl) fun E c hE hpin => ?_
  refine SV.seq' ?_
  refine SV.region ?_
  refine SV.op (OpMk.ok (ok_alloc (kk := 1) (xs := [.nl _]) rfl rfl zero_impl_Run ⟨rfl, ⟨3, by decide, sz_impl_Row⟩, trivial⟩ rfl (gle rfl))) rfl ?_
  refine SV.nil ?_
  refine SV.tn ?_
  refine SV.seq' ?_
  refine SV.region ?_
  refine SV.op (OpL.ok (nb := 2) (ok_move (v := V.one (.bp 0 0)) (.inl rfl) rfl) rfl (gle rfl)) rfl ?_
  refine SV.op (OpL.ok (nb := 2) (ok_nilcheckB rfl rfl) rfl (gle rfl)) rfl ?_
  refine SV.op (OpL.ok (nb := 2) (ok_field_bp (b := 0) (o' := 0) (off := 2) rfl rfl fld_impl_selection_2) rfl (gle rfl)) rfl ?_
  refine SV.op (OpL.ok (nb := 2) (ok_load_bp (b := 0) (i := 2) (ag := false) (m := 1) (ys := [.hd 2]) rfl rfl rfl agg_s_impl_Row sz_s_impl_Row (fun _ => rfl) rfl rfl (gle rfl)) rfl (gle rfl)) rfl ?_
  refine SV.op (OpL.ok (nb := 2) (ok_build (zs := [.nl _]) (ys := [.hd 2]) (qs := [(0, [.hd 2])]) (pl := fun i => ([(0, 1)] : List (Nat × Nat))[i]?) rfl zero_impl_Run ⟨rfl, ⟨3, by decide, sz_impl_Row⟩, trivial⟩ ⟨⟨rfl, false, rfl, (fun _ => rfl), rfl⟩, trivial⟩ bld_impl_Run rfl) rfl (gle rfl)) rfl ?_
  refine SV.op (OpMk.ok (ok_alloc (kk := 2) (xs := [.nl _]) rfl rfl zero_impl_Run ⟨rfl, ⟨3, by decide, sz_impl_Row⟩, trivial⟩ rfl (gle rfl))) rfl ?_
  refine SV.op (ok_store_bp (b := 2) (i := 0) (m := 1) (ag := true) (zs := [.hd 2]) (ys := [.hd 2]) rfl rfl rfl rfl sz_impl_Run (fun h => by cases h) rfl (gle rfl) rfl rfl rfl) rfl ?_
  refine SV.nil ?_
  refine SV.tn ?_
  refine SV.seq' ?_
  refine SV.region ?_
  refine SV.op (OpL.ok (nb := 3) (ok_move (v := V.one (.bp 0 0)) (.inl rfl) rfl) rfl (gle rfl)) rfl ?_
  refine SV.op (OpL.ok (nb := 3) (ok_move (v := V.one (.bp 0 0)) (.inl rfl) rfl) rfl (gle rfl)) rfl ?_
  refine SV.op (OpL.ok (nb := 3) (ok_nilcheckB rfl rfl) rfl (gle rfl)) rfl ?_
  refine SV.op (OpL.ok (nb := 3) (ok_field_bp (b := 0) (o' := 0) (off := 1) rfl rfl fld_impl_selection_1) rfl (gle rfl)) rfl ?_
  refine SV.op (OpL.ok (nb := 3) (ok_load_bp (b := 0) (i := 1) (ag := false) (m := 1) (ys := [.hd 1]) rfl rfl rfl agg_s_impl_Row sz_s_impl_Row (fun _ => rfl) rfl rfl (gle rfl)) rfl (gle rfl)) rfl ?_
  refine SV.op (OpL.ok (nb := 3) (ok_build (zs := [.nl _, .nl _, .nl _]) (ys := [.hd 1, .nl _, .nl _]) (qs := [(0, [.hd 1])]) (pl := fun i => ([(0, 1), (1, 1), (2, 1)] : List (Nat × Nat))[i]?) rfl zero_impl_selection ⟨rfl, ⟨3, by decide, sz_impl_Row⟩, rfl, ⟨3, by decide, sz_impl_Row⟩, rfl, ⟨3, by decide, sz_impl_Row⟩, trivial⟩ ⟨⟨rfl, false, rfl, (fun _ => rfl), rfl⟩, trivial⟩ bld_impl_selection rfl) rfl (gle rfl)) rfl ?_
  refine SV.op (OpL.ok (nb := 3) (ok_nilcheckB rfl rfl) rfl (gle rfl)) rfl ?_
  refine SV.op (ok_store_bp (b := 0) (i := 0) (m := 3) (ag := true) (zs := [.hd 1, .nl _, .nl _]) (ys := [.hd 1, .nl _, .nl _]) rfl rfl rfl rfl sz_impl_selection (fun h => by cases h) rfl (gle rfl) rfl rfl rfl) rfl ?_
  refine SV.nil ?_
  refine SV.tn ?_
  refine SV.seq' ?_
  refine SV.region ?_
  refine SV.op (OpL.ok (nb := 3) (ok_load_bp (b := 2) (i := 0) (ag := true) (m := 1) (ys := [.hd 2]) rfl rfl rfl agg_impl_Run sz_impl_Run (fun h => by cases h) rfl rfl (gle rfl)) rfl (gle rfl)) rfl ?_
  refine SV.op (ok_store_bp (b := 1) (i := 0) (m := 1) (ag := true) (zs := [.hd 2]) (ys := [.hd 2]) rfl rfl rfl rfl sz_impl_Run (fun h => by cases h) rfl (gle rfl) rfl rfl rfl) rfl ?_
  refine SV.nil ?_
  refine SV.tn ?_
  refine SV.ret ?_
  apply SV.doneH (hpin := hpin) (hbx := rfl) (hf := Tryd.results29) (ht := rfl) (he := .inl rfl)
  case hr => exact (ResAll.cons (ResOk.cell (b := 1) (ag := true) (xs := [.hd 2]) rfl rfl agg_impl_Run sz_impl_Run (fun h => by cases h)) ResAll.nil')
  case h2 => simp [two, ansL]
  case hx => refine ⟨?_, ?_, ?_, trivial⟩ <;> first | rfl | (show some (T.seq _ _) = some (T.seq _ _); refine congrArg (fun z => some (T.seq _ z)) ?_; first | done | rfl | (simp; done))
  refine ⟨rfl, ⟨?_, trivial⟩, trivial⟩ <;> rfl
end Go.Proofs.YtpnbnbhifpcelaaDoor
/- The program's BuildRuns: told by trees. -/
namespace Go.Proofs.YtpnbnbhifpcelaaDoor
open Go Go.RowKit V
set_option linter.unusedVariables false
set_option maxRecDepth 100000 in
set_option maxHeartbeats 2000000 in
theorem vbuild_i (l : List R) (m : Int) (hW : ∀ r ∈ l, r.wf) (hl : l.length ≤ 1000000000) : VC Tryd.prog 6 [(false, [.seq 50 ((l).map tRow)]), (false, [.lit (.int .i64 (m))])] true [(false, [.seq 39 ((Runs.build l m).map tRun)]), (false, [.lit (.bool (Runs.can l m))])] := by
  refine VC.enter Tryd.func6 rfl Tryd.ntmps6 (gle rfl) fun E hE => ?_
  refine SV.seq' ?_
  refine SV.region ?_
  refine SV.op (OpL.ok (nb := 0) (ok_move (v := V.one (.sc _)) (.inr rfl) rfl) rfl (gle rfl)) rfl ?_
  refine SV.op (OpL.ok (nb := 0) (ok_move (v := V.one (.sc _)) (.inr rfl) rfl) rfl (gle rfl)) rfl ?_
  refine SV.nil ?_
  refine SV.tn ?_
  refine SV.seq' ?_
  refine SV.seq' ?_
  refine SV.region ?_
  refine SV.op (OpL.ok (nb := 0) (ok_move (v := V.one (.ro _)) (.inl rfl) rfl) rfl (gle rfl)) rfl ?_
  refine SV.op (OpMk.ok (ok_call (ls := [(false, [.sc _])]) rfl rfl ⟨_, _, Tryd.func25, rfl, by decide⟩ (vares_i l hW (by omega)) ⟨⟨[.ro _], rfl, ⟨rfl, trivial⟩⟩, trivial⟩ rfl (gle rfl))) rfl ?_
  refine SV.op (OpL.ok (nb := 0) (ok_s1 (x := .tmp 10) (VScal.one rfl) (fun ρ h1 w => by go_simp; (try go_bits); with_reducible rfl) rfl) rfl (gle rfl)) rfl ?_
  refine SV.op (OpL.ok (nb := 0) (ok_move (v := V.one (.sc _)) (.inl rfl) rfl) rfl (gle rfl)) rfl ?_
  refine SV.split (d := 12) rfl (fun hg0 => ?_) (fun hg0 => ?_)
  · skip   -- g0.T
    refine SV.opN rfl rfl rfl (gle rfl) rfl rfl rfl (gle rfl) ?_
    refine SV.opN rfl rfl rfl (gle rfl) rfl rfl rfl (gle rfl) ?_
    refine SV.opN rfl rfl rfl (gle rfl) rfl rfl rfl (gle rfl) ?_
    refine SV.op (OpL.ok (nb := 0) (ok_pickT (v := V.one (.sc _)) rfl rfl rfl) rfl (gle rfl)) rfl ?_
    refine SV.nil ?_
    refine SV.tn ?_
    refine SV.cond rfl (fun hc0 => ?_) (fun hc0 => ?_)
    · skip   -- c0.T
      have hno : Runs.can l m = false := by
        rw [Bool.eq_false_iff]
        intro h
        unfold Runs.can at h
        rw [Bool.and_eq_true] at h
        obtain ⟨h1, h2⟩ := h
        first | (rw [h1] at hg0; cases hg0; done) | (rw [h2] at hc1; cases hc1; done)
      have hb : Runs.build l m = [] := by unfold Runs.build; rw [if_neg (by rw [hno]; decide)]
      refine SV.seq' ?_
      refine SV.region ?_
      refine SV.op (OpL.ok (nb := 0) (ok_move (v := V.one (.sc _)) (.inr rfl) rfl) rfl (gle rfl)) rfl ?_
      refine SV.op (OpL.ok (nb := 0) (ok_move (v := V.one (.sc _)) (.inr rfl) rfl) rfl (gle rfl)) rfl ?_
      refine SV.nil ?_
      refine SV.tn ?_
      refine SV.ret ?_
      refine SV.tr ?_
      refine SV.nlsc (s := 4) (kk := 0) (n := 1) rfl rfl (by decide) sz_impl_Run (gle rfl) ?_
      apply SV.done (hf := Tryd.results6) (ht := rfl) (he := .inr rfl)
      case hr => exact (ResAll.cons (ResOk.tmp (ag := false) (xs := [.hd 0]) rfl) (ResAll.cons (ResOk.tmp (ag := false) (xs := [.sc _]) rfl) ResAll.nil'))
      case h2 => simp [two]
      refine ⟨rfl, ⟨?_, trivial⟩, ⟨rfl, ⟨?_, trivial⟩, trivial⟩⟩ <;> first | rfl | (rw [hb]; rfl) | ((show some (T.seq _ _) = some (T.seq _ _); refine congrArg (fun z => some (T.seq _ z)) ?_; rw [hb]; first | done | rfl | (simp [tRun]; done))) | ((show some (T.lit (Value.bool _)) = some (T.lit (Value.bool _)); refine congrArg (fun z => some (T.lit (Value.bool z))) ?_; rw [hno])) | ((show some (T.lit (Value.bool _)) = some (T.lit (Value.bool _)); refine congrArg (fun z => some (T.lit (Value.bool z))) ?_; rw [hcan]))
    · skip   -- c0.F
      cases hc0
  · skip   -- g0.F
    refine SV.opY (OpL.ok (nb := 0) (ok_move (v := V.one (.sc _)) (.inl rfl) rfl) rfl (gle rfl)) rfl rfl rfl (gle rfl) rfl rfl ?_
    refine SV.opY (OpMk.ok (ok_call (ls := [(false, [.sc _])]) rfl rfl ⟨_, _, Tryd.func26, rfl, by decide⟩ (vismem_i m) ⟨⟨[.sc _], rfl, ⟨rfl, trivial⟩⟩, trivial⟩ rfl (gle rfl))) rfl rfl rfl (gle rfl) rfl rfl ?_
    refine SV.opY (OpL.ok (nb := 0) (ok_s1 (x := .tmp 14) (VScal.one rfl) (fun ρ h1 w => by go_simp; (try go_bits); with_reducible rfl) rfl) rfl (gle rfl)) rfl rfl rfl (gle rfl) rfl rfl ?_
    refine SV.op (OpL.ok (nb := 0) (ok_pickF (v := V.one (.sc _)) rfl rfl rfl) rfl (gle rfl)) rfl ?_
    refine SV.nil ?_
    refine SV.tn ?_
    refine SV.cond rfl (fun hc1 => ?_) (fun hc1 => ?_)
    · skip   -- c1.T
      have hno : Runs.can l m = false := by
        rw [Bool.eq_false_iff]
        intro h
        unfold Runs.can at h
        rw [Bool.and_eq_true] at h
        obtain ⟨h1, h2⟩ := h
        first | (rw [h1] at hg0; cases hg0; done) | (rw [h2] at hc1; cases hc1; done)
      have hb : Runs.build l m = [] := by unfold Runs.build; rw [if_neg (by rw [hno]; decide)]
      refine SV.seq' ?_
      refine SV.region ?_
      refine SV.op (OpL.ok (nb := 0) (ok_move (v := V.one (.sc _)) (.inr rfl) rfl) rfl (gle rfl)) rfl ?_
      refine SV.op (OpL.ok (nb := 0) (ok_move (v := V.one (.sc _)) (.inr rfl) rfl) rfl (gle rfl)) rfl ?_
      refine SV.nil ?_
      refine SV.tn ?_
      refine SV.ret ?_
      refine SV.tr ?_
      refine SV.nlsc (s := 4) (kk := 0) (n := 1) rfl rfl (by decide) sz_impl_Run (gle rfl) ?_
      apply SV.done (hf := Tryd.results6) (ht := rfl) (he := .inr rfl)
      case hr => exact (ResAll.cons (ResOk.tmp (ag := false) (xs := [.hd 0]) rfl) (ResAll.cons (ResOk.tmp (ag := false) (xs := [.sc _]) rfl) ResAll.nil'))
      case h2 => simp [two]
      refine ⟨rfl, ⟨?_, trivial⟩, ⟨rfl, ⟨?_, trivial⟩, trivial⟩⟩ <;> first | rfl | (rw [hb]; rfl) | ((show some (T.seq _ _) = some (T.seq _ _); refine congrArg (fun z => some (T.seq _ z)) ?_; rw [hb]; first | done | rfl | (simp [tRun]; done))) | ((show some (T.lit (Value.bool _)) = some (T.lit (Value.bool _)); refine congrArg (fun z => some (T.lit (Value.bool z))) ?_; rw [hno])) | ((show some (T.lit (Value.bool _)) = some (T.lit (Value.bool _)); refine congrArg (fun z => some (T.lit (Value.bool z))) ?_; rw [hcan]))
    · skip   -- c1.F
      have hcan : Runs.can l m = true := by
        unfold Runs.can
        rw [Bool.and_eq_true]
        exact ⟨by simpa using hg0, by simpa using hc1⟩
      have hlm : okRows l = true ∧ Runs.isMem m = true := by have h := hcan; unfold Runs.can at h; rw [Bool.and_eq_true] at h; exact h
      refine SV.skip ?_
      refine SV.tn ?_
      refine SV.seq' ?_
      refine SV.region ?_
      refine SV.op (OpL.ok (nb := 0) (ok_move (v := V.one (.sc _)) (.inr rfl) rfl) rfl (gle rfl)) rfl ?_
      refine SV.nil ?_
      refine SV.tn ?_
      refine SV.seq' ?_
      refine SV.region ?_
      refine SV.op (OpMk.ok (ok_alloc (kk := 0) (xs := [.nl _, .nl _, .nl _]) rfl rfl zero_impl_selection ⟨rfl, ⟨3, by decide, sz_impl_Row⟩, rfl, ⟨3, by decide, sz_impl_Row⟩, rfl, ⟨3, by decide, sz_impl_Row⟩, trivial⟩ rfl (gle rfl))) rfl ?_
      refine SV.nil ?_
      refine SV.tn ?_
      refine SV.seq' ?_
      refine SV.region ?_
      refine SV.op (OpL.ok (nb := 1) (ok_move (v := V.one (.ro _)) (.inl rfl) rfl) rfl (gle rfl)) rfl ?_
      refine SV.op (OpL.ok (nb := 1) (ok_move (v := V.one (.ro _)) (.inr rfl) rfl) rfl (gle rfl)) rfl ?_
      refine SV.nil ?_
      refine SV.tn ?_
      refine SV.block ?_
      refine SV.nlsc (s := 6) (kk := 0) (n := 1) rfl rfl (by decide) sz_impl_Run (gle rfl) ?_
      refine SV.nlbox (b := 0) (j := 0) (kk := 1) rfl rfl rfl (ys := [.hd 1, .nl _, .nl _]) rfl ?_
      refine SV.nlbox (b := 0) (j := 1) (kk := 2) rfl rfl rfl (ys := [.hd 1, .hd 2, .nl _]) rfl ?_
      refine SV.nlbox (b := 0) (j := 2) (kk := 3) rfl rfl rfl (ys := [.hd 1, .hd 2, .hd 3]) rfl ?_
      refine SV.loopF (X := Runs.St) (fun (σ : VS) s => (((((((((((VS.nil.new (.seq 39 (s.out.map tRun))).new (.seq 50 (s.heap.map tRow))).new (.seq 50 (s.next.map tRow))).new (.seq 50 (s.cur.map tRow))).box 47 [.hd 1, .hd 2, .hd 3]).put 1 (σ.tm 1)).put 4 (σ.tm 4)).put 5 (σ.tm 5)).put 6 (V.flat false [.hd 0])).put 7 (V.flat false [.bp 0 0])).put 8 (V.flat false [.ro (.seq 50 ((l.drop s.i).map tRow))]))) (fun s => Runs.Going l m s) (fun s => Runs.mu l s) ?_ ?_
      · skip
        refine SV.again (fun i => [0, 1, 2, 3].getD i 0) Runs.init (Runs.going_init l m) (pins hE rfl rfl) (VS.le.mk' (le_put (le_put (le_put (le_put (le_put (le_put (le_box (le_new (le_new (le_new (le_new le_nil))))) (V.le.keep (ag := false) (xs := [.sc _]) (ys := [.sc _]) rfl rfl ⟨rfl, trivial⟩)) (V.le.keep (ag := false) (xs := [.sc _]) (ys := [.sc _]) rfl rfl ⟨rfl, trivial⟩)) (V.le.keep (ag := false) (xs := [.sc _]) (ys := [.sc _]) rfl rfl ⟨rfl, trivial⟩)) (V.le.keep (ag := false) (xs := [.hd 0]) (ys := [.hd 0]) rfl rfl ⟨⟨rfl, (gle rfl), (gle rfl)⟩, trivial⟩)) (V.le.keep (ag := false) (xs := [.bp 0 0]) (ys := [.bp 0 0]) rfl rfl ⟨⟨rfl, (gle rfl)⟩, trivial⟩)) (V.le.keep (ag := false) (xs := [.ro _]) (ys := [.ro _]) rfl rfl ⟨(by first | rfl | (show Leaf.ro _ = Leaf.ro _; refine congrArg Leaf.ro (congrArg (T.seq _) ?_); (rw [hst]; first | done | rfl | (simp [List.map_drop, List.map_take, List.drop_drop, Nat.add_comm]; done) | (simp [List.map_drop, List.map_take, List.drop_drop, Nat.add_comm]; rw [List.take_of_length_le (by simp), List.tail_drop])))), trivial⟩)) ⟨⟨rfl, ⟨⟨rfl, (gle rfl), (gle rfl)⟩, ⟨rfl, (gle rfl), (gle rfl)⟩, ⟨rfl, (gle rfl), (gle rfl)⟩, trivial⟩⟩, trivial⟩ ⟨.inr ⟨_, _, rfl, ?ob1_3, (gle rfl)⟩, ⟨.inr ⟨_, _, rfl, ?ob1_2, (gle rfl)⟩, ⟨.inr ⟨_, _, rfl, ?ob1_1, (gle rfl)⟩, ⟨.inr ⟨_, _, rfl, ?ob1_0, (gle rfl)⟩, trivial⟩⟩⟩⟩ (new_ob (new_ob (new_ob (new_ob nil_ob)))) (fun i j hi hj e => inj_list (l := [0, 1, 2, 3]) (by decide) i j hi hj e))
        case ob1_0 =>
          show some (T.seq _ _) = some (T.seq _ _)
          rfl
        case ob1_1 =>
          show some (T.seq _ _) = some (T.seq _ _)
          rfl
        case ob1_2 =>
          show some (T.seq _ _) = some (T.seq _ _)
          rfl
        case ob1_3 =>
          show some (T.seq _ _) = some (T.seq _ _)
          rfl
      · rintro s hG
        obtain ⟨⟨hl1, hl2, hl3⟩, hl4, hl5, hl6⟩ := going_len hcan hG
        have hwf := going_wf hcan hG hW
        refine SV.block ?_
        refine SV.block ?_
        refine SV.seq' ?_
        refine SV.region ?_
        refine SV.op (OpL.ok (nb := 1) (ok_move (v := V.one (.ro _)) (.inl rfl) rfl) rfl (gle rfl)) rfl ?_
        refine SV.op (OpL.ok (nb := 1) (ok_len (lf := .ro _) rfl elt_impl_Row.und rfl rfl) rfl (gle rfl)) rfl ?_
        refine SV.op (OpL.ok (nb := 1) (ok_s2 (x := .tmp 21) (x' := .const ((Value.int IntKind.i64 0))) (VScal.one rfl) (VScal.one rfl) (fun ρ h1 h2 w => by go_simp; (try go_bits); with_reducible rfl) rfl) rfl (gle rfl)) rfl ?_
        refine SV.op (OpL.ok (nb := 1) (ok_move (v := V.one (.sc _)) (.inl rfl) rfl) rfl (gle rfl)) rfl ?_
        refine SV.split (d := 23) rfl (fun hg1 => ?_) (fun hg1 => ?_)
        · skip   -- g1.T
          have hil : s.i < l.length := by simp at hg1; omega
          obtain ⟨r, hr⟩ : ∃ r, l[s.i]? = some r := ⟨_, List.getElem?_eq_getElem hil⟩
          have hr0 : (l.drop s.i)[0]? = some r := by rw [List.getElem?_drop, Nat.add_zero]; exact hr
          have hd : Runs.done l s = false := by unfold Runs.done; rw [decide_eq_false_iff_not]; omega
          refine SV.opY (OpL.ok (nb := 1) (ok_move (v := V.one (.ro _)) (.inl rfl) rfl) rfl (gle rfl)) rfl rfl rfl (gle rfl) rfl rfl ?_
          refine SV.opY (OpL.ok (nb := 1) (ok_index (n := 3) (lf := .ro _) rfl elt_impl_Row.und sz_impl_Row rfl rfl rfl (map_at hr0)) rfl (gle rfl)) rfl rfl rfl (gle rfl) rfl rfl ?_
          refine SV.opY (OpL.ok (nb := 1) (ok_load_rp (ag := true) (m := 3) (ys := [.sc _, .sc _, .sc _]) rfl rfl agg_impl_Row sz_impl_Row (fun h => by cases h) (gle rfl) rfl) rfl (gle rfl)) rfl rfl rfl (gle rfl) rfl rfl ?_
          refine SV.opY (OpL.ok (nb := 1) (ok_move (v := V.one (.sc _)) (.inl rfl) rfl) rfl (gle rfl)) rfl rfl rfl (gle rfl) rfl rfl ?_
          refine SV.opY (ok_callH (b := 0) (ys := [.hd 1, .hd 2, .hd 3]) (L0 := [.hd 4, .hd 5, .hd 6]) (L := [(false, [.sc _])]) rfl rfl ⟨_, _, Tryd.func27, rfl, by decide⟩ (vroom_i s.heap s.next s.cur r m hwf.1 hwf.2 hl2 hl3 (hW r (List.mem_of_getElem? hr))) rfl rfl ⟨rfl, rfl, rfl, trivial⟩ (by simp [two]) rfl ⟨⟨[.sc _, .sc _, .sc _], rfl, ⟨.inl ⟨_, rfl, rfl⟩, .inl ⟨_, rfl, rfl⟩, .inl ⟨_, rfl, rfl⟩, trivial⟩⟩, ⟨[.sc _], rfl, ⟨.inl ⟨_, rfl, rfl⟩, trivial⟩⟩, trivial⟩ rfl (gle rfl)) rfl rfl rfl (gle rfl) rfl rfl ?_
          refine SV.op (OpL.ok (nb := 1) (ok_pickT (v := V.one (.sc _)) rfl rfl rfl) rfl (gle rfl)) rfl ?_
          refine SV.op (OpL.ok (nb := 1) (ok_move (v := V.one (.sc _)) (.inr rfl) rfl) rfl (gle rfl)) rfl ?_
          refine SV.nil ?_
          refine SV.tn ?_
          refine SV.cond rfl (fun hc2 => ?_) (fun hc2 => ?_)
          · skip   -- c2.T
            have hroom : Runs.room m s r = true := hc2
            have hst : Runs.step l m s = ⟨s.i + 1, s.out, s.cur, if Runs.later s.cur r = true then s.heap else s.heap ++ [r], if Runs.later s.cur r = true then s.next ++ [r] else s.next⟩ := by rw [Runs.step_read hr hroom]; unfold Runs.take1; split <;> rfl
            refine SV.seq' ?_
            refine SV.region ?_
            refine SV.op (OpL.ok (nb := 1) (ok_move (v := V.one (.ro _)) (.inl rfl) rfl) rfl (gle rfl)) rfl ?_
            refine SV.op (OpL.ok (nb := 1) (ok_index (n := 3) (lf := .ro _) rfl elt_impl_Row.und sz_impl_Row rfl rfl rfl (map_at hr0)) rfl (gle rfl)) rfl ?_
            refine SV.op (OpL.ok (nb := 1) (ok_load_rp (ag := true) (m := 3) (ys := [.sc _, .sc _, .sc _]) rfl rfl agg_impl_Row sz_impl_Row (fun h => by cases h) (gle rfl) rfl) rfl (gle rfl)) rfl ?_
            refine SV.op (ok_callH (b := 0) (ys := [.hd 4, .hd 5, .hd 6]) (L0 := [.hd 7, .hd 8, .hd 9]) (L := []) rfl rfl ⟨_, _, Tryd.func28, rfl, by decide⟩ (vread_i s.heap s.next s.cur r hl2 hl3 hl1) rfl rfl ⟨rfl, rfl, rfl, trivial⟩ (by simp [two]) rfl ⟨⟨[.sc _, .sc _, .sc _], rfl, ⟨.inl ⟨_, rfl, rfl⟩, .inl ⟨_, rfl, rfl⟩, .inl ⟨_, rfl, rfl⟩, trivial⟩⟩, trivial⟩ rfl (gle rfl)) rfl ?_
            refine SV.nil ?_
            refine SV.tn ?_
            refine SV.region ?_
            refine SV.op (OpL.ok (nb := 1) (ok_move (v := V.one (.ro _)) (.inl rfl) rfl) rfl (gle rfl)) rfl ?_
            refine SV.op (OpL.ok (nb := 1) (ok_slice (l := 1) (h := ((l.drop s.i).map tRow).length) (lf := .ro _) (yy := .ro _) rfl rfl elt_impl_Row.und sz_impl_Row rfl rfl ⟨_, rfl⟩ rfl (by simp; omega) (Nat.le_refl _)) rfl (gle rfl)) rfl ?_
            refine SV.op (OpL.ok (nb := 1) (ok_move (v := V.one (.ro _)) (.inr rfl) rfl) rfl (gle rfl)) rfl ?_
            refine SV.nil ?_
            refine SV.bn ?_
            refine SV.bn ?_
            refine SV.tn ?_
            refine SV.again (fun i => [0, 7, 8, 9].getD i 0) ((Runs.step l m s)) (Runs.going_next hlm.1 hlm.2 hG hd rfl) (pins hE rfl rfl) (VS.le.mk' (le_put (le_put (le_put (le_put (le_put (le_put (le_box (le_new (le_new (le_new (le_new le_nil))))) (V.le.keep (ag := false) (xs := [.sc _]) (ys := [.sc _]) rfl rfl ⟨rfl, trivial⟩)) (V.le.keep (ag := false) (xs := [.sc _]) (ys := [.sc _]) rfl rfl ⟨rfl, trivial⟩)) (V.le.keep (ag := false) (xs := [.sc _]) (ys := [.sc _]) rfl rfl ⟨rfl, trivial⟩)) (V.le.keep (ag := false) (xs := [.hd 0]) (ys := [.hd 0]) rfl rfl ⟨⟨rfl, (gle rfl), (gle rfl)⟩, trivial⟩)) (V.le.keep (ag := false) (xs := [.bp 0 0]) (ys := [.bp 0 0]) rfl rfl ⟨⟨rfl, (gle rfl)⟩, trivial⟩)) (V.le.keep (ag := false) (xs := [.ro _]) (ys := [.ro _]) rfl rfl ⟨(by first | rfl | (show Leaf.ro _ = Leaf.ro _; refine congrArg Leaf.ro (congrArg (T.seq _) ?_); (rw [hst]; first | done | rfl | (simp [List.map_drop, List.map_take, List.drop_drop, Nat.add_comm]; done) | (simp [List.map_drop, List.map_take, List.drop_drop, Nat.add_comm]; rw [List.take_of_length_le (by simp), List.tail_drop])))), trivial⟩)) ⟨⟨rfl, ⟨⟨rfl, (gle rfl), (gle rfl)⟩, ⟨rfl, (gle rfl), (gle rfl)⟩, ⟨rfl, (gle rfl), (gle rfl)⟩, trivial⟩⟩, trivial⟩ ⟨.inr ⟨_, _, rfl, ?ob2_3, (gle rfl)⟩, ⟨.inr ⟨_, _, rfl, ?ob2_2, (gle rfl)⟩, ⟨.inr ⟨_, _, rfl, ?ob2_1, (gle rfl)⟩, ⟨.inr ⟨_, _, rfl, ?ob2_0, (gle rfl)⟩, trivial⟩⟩⟩⟩ (new_ob (new_ob (new_ob (new_ob nil_ob)))) (fun i j hi hj e => inj_list (l := [0, 7, 8, 9]) (by decide) i j hi hj e))
            case ob2_0 =>
              show some (T.seq _ _) = some (T.seq _ _)
              rw [hst]; first | done | rfl | (simp only [List.map_append]; rfl) | (simp [tRun, tRow]; done)
            case ob2_1 =>
              show some (T.seq _ _) = some (T.seq _ _)
              rw [hst]; first | done | rfl | (simp only [List.map_append]; rfl) | (simp [tRun, tRow]; done)
            case ob2_2 =>
              show some (T.seq _ _) = some (T.seq _ _)
              rw [hst]; first | done | rfl | (simp only [List.map_append]; rfl) | (simp [tRun, tRow]; done)
            case ob2_3 =>
              show some (T.seq _ _) = some (T.seq _ _)
              rw [hst]; first | done | rfl | (simp only [List.map_append]; rfl) | (simp [tRun, tRow]; done)
          · skip   -- c2.F
            have hroom : Runs.room m s r = false := hc2
            have hst0 : Runs.step l m s = Runs.step.flow s := Runs.step_flow (by unfold Runs.reads; rw [hr]; exact hroom)
            refine SV.seq' ?_
            refine SV.region ?_
            refine SV.op (OpL.ok (nb := 1) (ok_field_bp (b := 0) (o' := 0) (off := 0) rfl rfl fld_impl_selection_0) rfl (gle rfl)) rfl ?_
            refine SV.op (OpL.ok (nb := 1) (ok_load_bp (b := 0) (i := 0) (ag := false) (m := 1) (ys := [.hd 4]) rfl rfl rfl agg_s_impl_Row sz_s_impl_Row (fun _ => rfl) rfl rfl (gle rfl)) rfl (gle rfl)) rfl ?_
            refine SV.op (OpL.ok (nb := 1) (ok_len (lf := .hd 4) rfl elt_impl_Row.und rfl rfl) rfl (gle rfl)) rfl ?_
            refine SV.op (OpL.ok (nb := 1) (ok_s2 (x := .tmp 39) (x' := .const ((Value.int IntKind.i64 0))) (VScal.one rfl) (VScal.one rfl) (fun ρ h1 h2 w => by go_simp; (try go_bits); with_reducible rfl) rfl) rfl (gle rfl)) rfl ?_
            refine SV.op (OpL.ok (nb := 1) (ok_move (v := V.one (.sc _)) (.inl rfl) rfl) rfl (gle rfl)) rfl ?_
            refine SV.split (d := 41) rfl (fun hg2 => ?_) (fun hg2 => ?_)
            · skip   -- g2.T
              have h0 : s.heap.length = 0 := by first | (simpa using hg2) | (simp at hg2; omega) | (simp at hg2; rw [hg2]; rfl)
              refine SV.opY (OpL.ok (nb := 1) (ok_field_bp (b := 0) (o' := 0) (off := 1) rfl rfl fld_impl_selection_1) rfl (gle rfl)) rfl rfl rfl (gle rfl) rfl rfl ?_
              refine SV.opY (OpL.ok (nb := 1) (ok_load_bp (b := 0) (i := 1) (ag := false) (m := 1) (ys := [.hd 5]) rfl rfl rfl agg_s_impl_Row sz_s_impl_Row (fun _ => rfl) rfl rfl (gle rfl)) rfl (gle rfl)) rfl rfl rfl (gle rfl) rfl rfl ?_
              refine SV.opY (OpL.ok (nb := 1) (ok_len (lf := .hd 5) rfl elt_impl_Row.und rfl rfl) rfl (gle rfl)) rfl rfl rfl (gle rfl) rfl rfl ?_
              refine SV.opY (OpL.ok (nb := 1) (ok_s2 (x := .tmp 44) (x' := .const ((Value.int IntKind.i64 0))) (VScal.one rfl) (VScal.one rfl) (fun ρ h1 h2 w => by go_simp; (try go_bits); with_reducible rfl) rfl) rfl (gle rfl)) rfl rfl rfl (gle rfl) rfl rfl ?_
              refine SV.op (OpL.ok (nb := 1) (ok_pickT (v := V.one (.sc _)) rfl rfl rfl) rfl (gle rfl)) rfl ?_
              refine SV.op (OpL.ok (nb := 1) (ok_move (v := V.one (.sc _)) (.inr rfl) rfl) rfl (gle rfl)) rfl ?_
              refine SV.nil ?_
              refine SV.tn ?_
              refine SV.cond rfl (fun hc3 => ?_) (fun hc3 => ?_)
              · skip   -- c3.T
                have hst : Runs.step l m s = ⟨s.i, s.out ++ [s.cur], [], s.next, []⟩ := by rw [hst0, Runs.flow_turn h0]; rfl
                refine SV.region ?_
                refine SV.op (OpL.ok (nb := 1) (ok_move (v := V.one (.hd 0)) (.inl rfl) rfl) rfl (gle rfl)) rfl ?_
                refine SV.op (ok_callH (b := 0) (ys := [.hd 4, .hd 5, .hd 6]) (L0 := [.hd 7, .hd 8, .hd 9]) (L := [(true, [.hd 10])]) rfl rfl ⟨_, _, Tryd.func29, rfl, by decide⟩ (vendrun_i s.heap s.next s.cur) rfl rfl ⟨rfl, rfl, rfl, trivial⟩ (by simp [two]) rfl trivial rfl (gle rfl)) rfl ?_
                refine SV.op (OpMk.ok (ok_lit1 (kk := 11) elt_impl_Run (ag := true) (xs := [.hd 10]) rfl rfl rfl rfl (fun h => by cases h) (outs_c rfl outs_n) (by simp [two]) rfl (gle rfl))) rfl ?_
                refine SV.op (OpMk.ok (ok_append (kk := 12) elt_impl_Run (ls := .hd 0) (lx := .hd 11) rfl rfl rfl rfl rfl rfl (by intro i h1 h2; first | (cases h1; done) | (cases h1; cases h2)) (by first | omega | (simp only [List.length_map]; omega) | (simp; done) | (simp; omega)) rfl (gle rfl))) rfl ?_
                refine SV.op (OpL.ok (nb := 1) (ok_move (v := V.one (.hd 12)) (.inr rfl) rfl) rfl (gle rfl)) rfl ?_
                refine SV.nil ?_
                refine SV.bn ?_
                refine SV.bn ?_
                refine SV.tn ?_
                refine SV.again (fun i => [12, 7, 8, 9].getD i 0) ((Runs.step l m s)) (Runs.going_next hlm.1 hlm.2 hG hd rfl) (pins hE rfl rfl) (VS.le.mk' (le_put (le_put (le_put (le_put (le_put (le_put (le_box (le_new (le_new (le_new (le_new le_nil))))) (V.le.keep (ag := false) (xs := [.sc _]) (ys := [.sc _]) rfl rfl ⟨rfl, trivial⟩)) (V.le.keep (ag := false) (xs := [.sc _]) (ys := [.sc _]) rfl rfl ⟨rfl, trivial⟩)) (V.le.keep (ag := false) (xs := [.sc _]) (ys := [.sc _]) rfl rfl ⟨rfl, trivial⟩)) (V.le.keep (ag := false) (xs := [.hd 12]) (ys := [.hd 0]) rfl rfl ⟨⟨rfl, (gle rfl), (gle rfl)⟩, trivial⟩)) (V.le.keep (ag := false) (xs := [.bp 0 0]) (ys := [.bp 0 0]) rfl rfl ⟨⟨rfl, (gle rfl)⟩, trivial⟩)) (V.le.keep (ag := false) (xs := [.ro _]) (ys := [.ro _]) rfl rfl ⟨(by first | rfl | (show Leaf.ro _ = Leaf.ro _; refine congrArg Leaf.ro (congrArg (T.seq _) ?_); (rw [hst]; first | done | rfl | (simp [List.map_drop, List.map_take, List.drop_drop, Nat.add_comm]; done) | (simp [List.map_drop, List.map_take, List.drop_drop, Nat.add_comm]; rw [List.take_of_length_le (by simp), List.tail_drop])))), trivial⟩)) ⟨⟨rfl, ⟨⟨rfl, (gle rfl), (gle rfl)⟩, ⟨rfl, (gle rfl), (gle rfl)⟩, ⟨rfl, (gle rfl), (gle rfl)⟩, trivial⟩⟩, trivial⟩ ⟨.inr ⟨_, _, rfl, ?ob3_3, (gle rfl)⟩, ⟨.inr ⟨_, _, rfl, ?ob3_2, (gle rfl)⟩, ⟨.inr ⟨_, _, rfl, ?ob3_1, (gle rfl)⟩, ⟨.inr ⟨_, _, rfl, ?ob3_0, (gle rfl)⟩, trivial⟩⟩⟩⟩ (new_ob (new_ob (new_ob (new_ob nil_ob)))) (fun i j hi hj e => inj_list (l := [12, 7, 8, 9]) (by decide) i j hi hj e))
                case ob3_0 =>
                  show some (T.seq _ _) = some (T.seq _ _)
                  rw [hst]; first | done | rfl | (simp only [List.map_append]; rfl) | (simp [tRun, tRow]; done)
                case ob3_1 =>
                  show some (T.seq _ _) = some (T.seq _ _)
                  rw [hst]; first | done | rfl | (simp only [List.map_append]; rfl) | (simp [tRun, tRow]; done)
                case ob3_2 =>
                  show some (T.seq _ _) = some (T.seq _ _)
                  rw [hst]; first | done | rfl | (simp only [List.map_append]; rfl) | (simp [tRun, tRow]; done)
                case ob3_3 =>
                  show some (T.seq _ _) = some (T.seq _ _)
                  rw [hst]; first | done | rfl | (simp only [List.map_append]; rfl) | (simp [tRun, tRow]; done)
              · skip   -- c3.F
                (exfalso; have hn0 : s.next.length = 0 := (by first | (simpa using hc3) | (simp at hc3; omega) | (simp at hc3; rw [hc3]; rfl)); have hre := Runs.room_empty hlm.1 hlm.2 hr h0 hn0; rw [hroom] at hre; cases hre)
            · skip   -- g2.F
              have hh : 0 < s.heap.length := by rcases Nat.eq_zero_or_pos s.heap.length with h | h; (exfalso; simp [h] at hg2); (exact h)
              have hk : Runs.minAt s.heap s.heap.length < s.heap.length := Runs.minAt_lt hh
              obtain ⟨e, he⟩ : ∃ e, s.heap[Runs.minAt s.heap s.heap.length]? = some e := ⟨_, List.getElem?_eq_getElem hk⟩
              have hst : Runs.step l m s = ⟨s.i, s.out, s.cur ++ [e], s.heap.eraseIdx (Runs.minAt s.heap s.heap.length), s.next⟩ := by rw [hst0, Runs.flow_give he]; rfl
              have hki := idxMin_pos hh
              refine SV.opN rfl rfl rfl (gle rfl) rfl rfl rfl (gle rfl) ?_
              refine SV.opN rfl rfl rfl (gle rfl) rfl rfl rfl (gle rfl) ?_
              refine SV.opN rfl rfl rfl (gle rfl) rfl rfl rfl (gle rfl) ?_
              refine SV.opN rfl rfl rfl (gle rfl) rfl rfl rfl (gle rfl) ?_
              refine SV.op (OpL.ok (nb := 1) (ok_pickF (v := V.one (.sc _)) rfl rfl rfl) rfl (gle rfl)) rfl ?_
              refine SV.op (OpL.ok (nb := 1) (ok_move (v := V.one (.sc _)) (.inr rfl) rfl) rfl (gle rfl)) rfl ?_
              refine SV.nil ?_
              refine SV.tn ?_
              refine SV.cond rfl (fun hc4 => ?_) (fun hc4 => ?_)
              · skip   -- c4.T
                cases hc4
              · skip   -- c4.F
                refine SV.seq' ?_
                refine SV.region ?_
                refine SV.op (OpL.ok (nb := 1) (ok_field_bp (b := 0) (o' := 0) (off := 0) rfl rfl fld_impl_selection_0) rfl (gle rfl)) rfl ?_
                refine SV.op (OpL.ok (nb := 1) (ok_load_bp (b := 0) (i := 0) (ag := false) (m := 1) (ys := [.hd 4]) rfl rfl rfl agg_s_impl_Row sz_s_impl_Row (fun _ => rfl) rfl rfl (gle rfl)) rfl (gle rfl)) rfl ?_
                refine SV.op (OpL.ok (nb := 1) (ok_len (lf := .hd 4) rfl elt_impl_Row.und rfl rfl) rfl (gle rfl)) rfl ?_
                refine SV.op (OpL.ok (nb := 1) (ok_s2 (x := .tmp 54) (x' := .const ((Value.int IntKind.i64 0))) (VScal.one rfl) (VScal.one rfl) (fun ρ h1 h2 w => by go_simp; (try go_bits); with_reducible rfl) rfl) rfl (gle rfl)) rfl ?_
                refine SV.op (OpL.ok (nb := 1) (ok_move (v := V.one (.sc _)) (.inr rfl) rfl) rfl (gle rfl)) rfl ?_
                refine SV.nil ?_
                refine SV.tn ?_
                refine SV.cond rfl (fun hc5 => ?_) (fun hc5 => ?_)
                · skip   -- c5.T
                  refine SV.region ?_
                  refine SV.op (ok_callH (b := 0) (ys := [.hd 4, .hd 5, .hd 6]) (L0 := [.hd 7, .hd 8, .hd 9]) (L := [(true, [.sc _, .sc _, .sc _])]) rfl rfl ⟨_, _, Tryd.func30, rfl, by decide⟩ (vwrite_i s.heap s.next s.cur (Runs.minAt s.heap s.heap.length) e hki he hl2 hl1) rfl rfl ⟨rfl, rfl, rfl, trivial⟩ (by simp [two]) rfl trivial rfl (gle rfl)) rfl ?_
                  refine SV.nil ?_
                  refine SV.bn ?_
                  refine SV.bn ?_
                  refine SV.tn ?_
                  refine SV.again (fun i => [0, 7, 8, 9].getD i 0) ((Runs.step l m s)) (Runs.going_next hlm.1 hlm.2 hG hd rfl) (pins hE rfl rfl) (VS.le.mk' (le_put (le_put (le_put (le_put (le_put (le_put (le_box (le_new (le_new (le_new (le_new le_nil))))) (V.le.keep (ag := false) (xs := [.sc _]) (ys := [.sc _]) rfl rfl ⟨rfl, trivial⟩)) (V.le.keep (ag := false) (xs := [.sc _]) (ys := [.sc _]) rfl rfl ⟨rfl, trivial⟩)) (V.le.keep (ag := false) (xs := [.sc _]) (ys := [.sc _]) rfl rfl ⟨rfl, trivial⟩)) (V.le.keep (ag := false) (xs := [.hd 0]) (ys := [.hd 0]) rfl rfl ⟨⟨rfl, (gle rfl), (gle rfl)⟩, trivial⟩)) (V.le.keep (ag := false) (xs := [.bp 0 0]) (ys := [.bp 0 0]) rfl rfl ⟨⟨rfl, (gle rfl)⟩, trivial⟩)) (V.le.keep (ag := false) (xs := [.ro _]) (ys := [.ro _]) rfl rfl ⟨(by first | rfl | (show Leaf.ro _ = Leaf.ro _; refine congrArg Leaf.ro (congrArg (T.seq _) ?_); (rw [hst]; first | done | rfl | (simp [List.map_drop, List.map_take, List.drop_drop, Nat.add_comm]; done) | (simp [List.map_drop, List.map_take, List.drop_drop, Nat.add_comm]; rw [List.take_of_length_le (by simp), List.tail_drop])))), trivial⟩)) ⟨⟨rfl, ⟨⟨rfl, (gle rfl), (gle rfl)⟩, ⟨rfl, (gle rfl), (gle rfl)⟩, ⟨rfl, (gle rfl), (gle rfl)⟩, trivial⟩⟩, trivial⟩ ⟨.inr ⟨_, _, rfl, ?ob4_3, (gle rfl)⟩, ⟨.inr ⟨_, _, rfl, ?ob4_2, (gle rfl)⟩, ⟨.inr ⟨_, _, rfl, ?ob4_1, (gle rfl)⟩, ⟨.inr ⟨_, _, rfl, ?ob4_0, (gle rfl)⟩, trivial⟩⟩⟩⟩ (new_ob (new_ob (new_ob (new_ob nil_ob)))) (fun i j hi hj e => inj_list (l := [0, 7, 8, 9]) (by decide) i j hi hj e))
                  case ob4_0 =>
                    show some (T.seq _ _) = some (T.seq _ _)
                    rw [hst]; first | done | rfl | (simp only [List.map_append]; rfl) | (simp [tRun, tRow]; done)
                  case ob4_1 =>
                    show some (T.seq _ _) = some (T.seq _ _)
                    rw [hst]; first | done | rfl | (simp only [List.map_append]; rfl) | (simp [tRun, tRow]; done)
                  case ob4_2 =>
                    show some (T.seq _ _) = some (T.seq _ _)
                    rw [hst]; first | done | rfl | (simp only [List.map_append]; rfl) | (simp [tRun, tRow]; done)
                  case ob4_3 =>
                    show some (T.seq _ _) = some (T.seq _ _)
                    rw [hst]; first | done | rfl | (simp only [List.map_append]; rfl) | (simp [tRun, tRow]; done)
                · skip   -- c5.F
                  (exfalso; first | (simp at hc5; done) | (simp at hc5; omega) | (simp at hc5; rw [hc5] at hh; simp at hh; done))
        · skip   -- g1.F
          have hil : ¬ s.i < l.length := by simp at hg1; omega
          have hst0 : Runs.step l m s = Runs.step.flow s := Runs.step_flow (by unfold Runs.reads; rw [List.getElem?_eq_none (by omega)])
          refine SV.opN rfl rfl rfl (gle rfl) rfl rfl rfl (gle rfl) ?_
          refine SV.opN rfl rfl rfl (gle rfl) rfl rfl rfl (gle rfl) ?_
          refine SV.opN rfl rfl rfl (gle rfl) rfl rfl rfl (gle rfl) ?_
          refine SV.opN rfl rfl rfl (gle rfl) rfl rfl rfl (gle rfl) ?_
          refine SV.opN rfl rfl rfl (gle rfl) rfl rfl rfl (gle rfl) ?_
          refine SV.op (OpL.ok (nb := 1) (ok_pickF (v := V.one (.sc _)) rfl rfl rfl) rfl (gle rfl)) rfl ?_
          refine SV.op (OpL.ok (nb := 1) (ok_move (v := V.one (.sc _)) (.inr rfl) rfl) rfl (gle rfl)) rfl ?_
          refine SV.nil ?_
          refine SV.tn ?_
          refine SV.cond rfl (fun hc6 => ?_) (fun hc6 => ?_)
          · skip   -- c6.T
            cases hc6
          · skip   -- c6.F
            refine SV.seq' ?_
            refine SV.region ?_
            refine SV.op (OpL.ok (nb := 1) (ok_field_bp (b := 0) (o' := 0) (off := 0) rfl rfl fld_impl_selection_0) rfl (gle rfl)) rfl ?_
            refine SV.op (OpL.ok (nb := 1) (ok_load_bp (b := 0) (i := 0) (ag := false) (m := 1) (ys := [.hd 1]) rfl rfl rfl agg_s_impl_Row sz_s_impl_Row (fun _ => rfl) rfl rfl (gle rfl)) rfl (gle rfl)) rfl ?_
            refine SV.op (OpL.ok (nb := 1) (ok_len (lf := .hd 1) rfl elt_impl_Row.und rfl rfl) rfl (gle rfl)) rfl ?_
            refine SV.op (OpL.ok (nb := 1) (ok_s2 (x := .tmp 39) (x' := .const ((Value.int IntKind.i64 0))) (VScal.one rfl) (VScal.one rfl) (fun ρ h1 h2 w => by go_simp; (try go_bits); with_reducible rfl) rfl) rfl (gle rfl)) rfl ?_
            refine SV.op (OpL.ok (nb := 1) (ok_move (v := V.one (.sc _)) (.inl rfl) rfl) rfl (gle rfl)) rfl ?_
            refine SV.split (d := 41) rfl (fun hg3 => ?_) (fun hg3 => ?_)
            · skip   -- g3.T
              have h0 : s.heap.length = 0 := by first | (simpa using hg3) | (simp at hg3; omega) | (simp at hg3; rw [hg3]; rfl)
              refine SV.opY (OpL.ok (nb := 1) (ok_field_bp (b := 0) (o' := 0) (off := 1) rfl rfl fld_impl_selection_1) rfl (gle rfl)) rfl rfl rfl (gle rfl) rfl rfl ?_
              refine SV.opY (OpL.ok (nb := 1) (ok_load_bp (b := 0) (i := 1) (ag := false) (m := 1) (ys := [.hd 2]) rfl rfl rfl agg_s_impl_Row sz_s_impl_Row (fun _ => rfl) rfl rfl (gle rfl)) rfl (gle rfl)) rfl rfl rfl (gle rfl) rfl rfl ?_
              refine SV.opY (OpL.ok (nb := 1) (ok_len (lf := .hd 2) rfl elt_impl_Row.und rfl rfl) rfl (gle rfl)) rfl rfl rfl (gle rfl) rfl rfl ?_
              refine SV.opY (OpL.ok (nb := 1) (ok_s2 (x := .tmp 44) (x' := .const ((Value.int IntKind.i64 0))) (VScal.one rfl) (VScal.one rfl) (fun ρ h1 h2 w => by go_simp; (try go_bits); with_reducible rfl) rfl) rfl (gle rfl)) rfl rfl rfl (gle rfl) rfl rfl ?_
              refine SV.op (OpL.ok (nb := 1) (ok_pickT (v := V.one (.sc _)) rfl rfl rfl) rfl (gle rfl)) rfl ?_
              refine SV.op (OpL.ok (nb := 1) (ok_move (v := V.one (.sc _)) (.inr rfl) rfl) rfl (gle rfl)) rfl ?_
              refine SV.nil ?_
              refine SV.tn ?_
              refine SV.cond rfl (fun hc7 => ?_) (fun hc7 => ?_)
              · skip   -- c7.T
                have hst : Runs.step l m s = ⟨s.i, s.out ++ [s.cur], [], s.next, []⟩ := by rw [hst0, Runs.flow_turn h0]; rfl
                have hn1 : 0 < s.next.length := by rcases Nat.eq_zero_or_pos s.next.length with h | h; (exfalso; simp [h] at hc7); (exact h)
                have hd : Runs.done l s = false := by unfold Runs.done; rw [decide_eq_false_iff_not]; omega
                refine SV.region ?_
                refine SV.op (OpL.ok (nb := 1) (ok_move (v := V.one (.hd 0)) (.inl rfl) rfl) rfl (gle rfl)) rfl ?_
                refine SV.op (ok_callH (b := 0) (ys := [.hd 1, .hd 2, .hd 3]) (L0 := [.hd 4, .hd 5, .hd 6]) (L := [(true, [.hd 7])]) rfl rfl ⟨_, _, Tryd.func29, rfl, by decide⟩ (vendrun_i s.heap s.next s.cur) rfl rfl ⟨rfl, rfl, rfl, trivial⟩ (by simp [two]) rfl trivial rfl (gle rfl)) rfl ?_
                refine SV.op (OpMk.ok (ok_lit1 (kk := 8) elt_impl_Run (ag := true) (xs := [.hd 7]) rfl rfl rfl rfl (fun h => by cases h) (outs_c rfl outs_n) (by simp [two]) rfl (gle rfl))) rfl ?_
                refine SV.op (OpMk.ok (ok_append (kk := 9) elt_impl_Run (ls := .hd 0) (lx := .hd 8) rfl rfl rfl rfl rfl rfl (by intro i h1 h2; first | (cases h1; done) | (cases h1; cases h2)) (by first | omega | (simp only [List.length_map]; omega) | (simp; done) | (simp; omega)) rfl (gle rfl))) rfl ?_
                refine SV.op (OpL.ok (nb := 1) (ok_move (v := V.one (.hd 9)) (.inr rfl) rfl) rfl (gle rfl)) rfl ?_
                refine SV.nil ?_
                refine SV.bn ?_
                refine SV.bn ?_
                refine SV.tn ?_
                refine SV.again (fun i => [9, 4, 5, 6].getD i 0) ((Runs.step l m s)) (Runs.going_next hlm.1 hlm.2 hG hd rfl) (pins hE rfl rfl) (VS.le.mk' (le_put (le_put (le_put (le_put (le_put (le_put (le_box (le_new (le_new (le_new (le_new le_nil))))) (V.le.keep (ag := false) (xs := [.sc _]) (ys := [.sc _]) rfl rfl ⟨rfl, trivial⟩)) (V.le.keep (ag := false) (xs := [.sc _]) (ys := [.sc _]) rfl rfl ⟨rfl, trivial⟩)) (V.le.keep (ag := false) (xs := [.sc _]) (ys := [.sc _]) rfl rfl ⟨rfl, trivial⟩)) (V.le.keep (ag := false) (xs := [.hd 9]) (ys := [.hd 0]) rfl rfl ⟨⟨rfl, (gle rfl), (gle rfl)⟩, trivial⟩)) (V.le.keep (ag := false) (xs := [.bp 0 0]) (ys := [.bp 0 0]) rfl rfl ⟨⟨rfl, (gle rfl)⟩, trivial⟩)) (V.le.keep (ag := false) (xs := [.ro _]) (ys := [.ro _]) rfl rfl ⟨(by first | rfl | (show Leaf.ro _ = Leaf.ro _; refine congrArg Leaf.ro (congrArg (T.seq _) ?_); (rw [hst]; first | done | rfl | (simp [List.map_drop, List.map_take, List.drop_drop, Nat.add_comm]; done) | (simp [List.map_drop, List.map_take, List.drop_drop, Nat.add_comm]; rw [List.take_of_length_le (by simp), List.tail_drop])))), trivial⟩)) ⟨⟨rfl, ⟨⟨rfl, (gle rfl), (gle rfl)⟩, ⟨rfl, (gle rfl), (gle rfl)⟩, ⟨rfl, (gle rfl), (gle rfl)⟩, trivial⟩⟩, trivial⟩ ⟨.inr ⟨_, _, rfl, ?ob5_3, (gle rfl)⟩, ⟨.inr ⟨_, _, rfl, ?ob5_2, (gle rfl)⟩, ⟨.inr ⟨_, _, rfl, ?ob5_1, (gle rfl)⟩, ⟨.inr ⟨_, _, rfl, ?ob5_0, (gle rfl)⟩, trivial⟩⟩⟩⟩ (new_ob (new_ob (new_ob (new_ob nil_ob)))) (fun i j hi hj e => inj_list (l := [9, 4, 5, 6]) (by decide) i j hi hj e))
                case ob5_0 =>
                  show some (T.seq _ _) = some (T.seq _ _)
                  rw [hst]; first | done | rfl | (simp only [List.map_append]; rfl) | (simp [tRun, tRow]; done)
                case ob5_1 =>
                  show some (T.seq _ _) = some (T.seq _ _)
                  rw [hst]; first | done | rfl | (simp only [List.map_append]; rfl) | (simp [tRun, tRow]; done)
                case ob5_2 =>
                  show some (T.seq _ _) = some (T.seq _ _)
                  rw [hst]; first | done | rfl | (simp only [List.map_append]; rfl) | (simp [tRun, tRow]; done)
                case ob5_3 =>
                  show some (T.seq _ _) = some (T.seq _ _)
                  rw [hst]; first | done | rfl | (simp only [List.map_append]; rfl) | (simp [tRun, tRow]; done)
              · skip   -- c7.F
                have hn0 : s.next.length = 0 := by first | (simpa using hc7) | (simp at hc7; omega) | (simp at hc7; rw [hc7]; rfl)
                have hd : Runs.done l s = true := by unfold Runs.done; rw [decide_eq_true_eq]; omega
                have hb0 := Runs.going_end hcan hG hd
                refine SV.seq' ?_
                refine SV.region ?_
                refine SV.op (OpL.ok (nb := 1) (ok_field_bp (b := 0) (o' := 0) (off := 0) rfl rfl fld_impl_selection_0) rfl (gle rfl)) rfl ?_
                refine SV.op (OpL.ok (nb := 1) (ok_load_bp (b := 0) (i := 0) (ag := false) (m := 1) (ys := [.hd 1]) rfl rfl rfl agg_s_impl_Row sz_s_impl_Row (fun _ => rfl) rfl rfl (gle rfl)) rfl (gle rfl)) rfl ?_
                refine SV.op (OpL.ok (nb := 1) (ok_len (lf := .hd 1) rfl elt_impl_Row.und rfl rfl) rfl (gle rfl)) rfl ?_
                refine SV.op (OpL.ok (nb := 1) (ok_s2 (x := .tmp 54) (x' := .const ((Value.int IntKind.i64 0))) (VScal.one rfl) (VScal.one rfl) (fun ρ h1 h2 w => by go_simp; (try go_bits); with_reducible rfl) rfl) rfl (gle rfl)) rfl ?_
                refine SV.op (OpL.ok (nb := 1) (ok_move (v := V.one (.sc _)) (.inr rfl) rfl) rfl (gle rfl)) rfl ?_
                refine SV.nil ?_
                refine SV.tn ?_
                refine SV.cond rfl (fun hc8 => ?_) (fun hc8 => ?_)
                · skip   -- c8.T
                  (exfalso; first | (simp at hc8; omega) | (simp [h0] at hc8; done))
                · skip   -- c8.F
                  refine SV.seq' ?_
                  refine SV.region ?_
                  refine SV.op (OpL.ok (nb := 1) (ok_field_bp (b := 0) (o' := 0) (off := 2) rfl rfl fld_impl_selection_2) rfl (gle rfl)) rfl ?_
                  refine SV.op (OpL.ok (nb := 1) (ok_load_bp (b := 0) (i := 2) (ag := false) (m := 1) (ys := [.hd 3]) rfl rfl rfl agg_s_impl_Row sz_s_impl_Row (fun _ => rfl) rfl rfl (gle rfl)) rfl (gle rfl)) rfl ?_
                  refine SV.op (OpL.ok (nb := 1) (ok_len (lf := .hd 3) rfl elt_impl_Row.und rfl rfl) rfl (gle rfl)) rfl ?_
                  refine SV.op (OpL.ok (nb := 1) (ok_s2 (x := .tmp 60) (x' := .const ((Value.int IntKind.i64 0))) (VScal.one rfl) (VScal.one rfl) (fun ρ h1 h2 w => by go_simp; (try go_bits); with_reducible rfl) rfl) rfl (gle rfl)) rfl ?_
                  refine SV.op (OpL.ok (nb := 1) (ok_move (v := V.one (.sc _)) (.inr rfl) rfl) rfl (gle rfl)) rfl ?_
                  refine SV.nil ?_
                  refine SV.tn ?_
                  refine SV.cond rfl (fun hc9 => ?_) (fun hc9 => ?_)
                  · skip   -- c9.T
                    have hcl : s.cur.length ≠ 0 := by intro h; simp [h] at hc9
                    have hb : Runs.build l m = s.out ++ [s.cur] := by rw [hb0]; unfold Runs.fin; rw [if_neg hcl]
                    refine SV.seq' ?_
                    refine SV.region ?_
                    refine SV.op (OpL.ok (nb := 1) (ok_move (v := V.one (.hd 0)) (.inl rfl) rfl) rfl (gle rfl)) rfl ?_
                    refine SV.op (ok_callH (b := 0) (ys := [.hd 1, .hd 2, .hd 3]) (L0 := [.hd 4, .hd 5, .hd 6]) (L := [(true, [.hd 7])]) rfl rfl ⟨_, _, Tryd.func29, rfl, by decide⟩ (vendrun_i s.heap s.next s.cur) rfl rfl ⟨rfl, rfl, rfl, trivial⟩ (by simp [two]) rfl trivial rfl (gle rfl)) rfl ?_
                    refine SV.op (OpMk.ok (ok_lit1 (kk := 8) elt_impl_Run (ag := true) (xs := [.hd 7]) rfl rfl rfl rfl (fun h => by cases h) (outs_c rfl outs_n) (by simp [two]) rfl (gle rfl))) rfl ?_
                    refine SV.op (OpMk.ok (ok_append (kk := 9) elt_impl_Run (ls := .hd 0) (lx := .hd 8) rfl rfl rfl rfl rfl rfl (by intro i h1 h2; first | (cases h1; done) | (cases h1; cases h2)) (by first | omega | (simp only [List.length_map]; omega) | (simp; done) | (simp; omega)) rfl (gle rfl))) rfl ?_
                    refine SV.op (OpL.ok (nb := 1) (ok_move (v := V.one (.hd 9)) (.inr rfl) rfl) rfl (gle rfl)) rfl ?_
                    refine SV.op (OpL.ok (nb := 1) (ok_move (v := V.one (.sc _)) (.inr rfl) rfl) rfl (gle rfl)) rfl ?_
                    refine SV.nil ?_
                    refine SV.tn ?_
                    refine SV.ret ?_
                    refine SV.br ?_
                    refine SV.br ?_
                    refine SV.tr ?_
                    refine SV.br ?_
                    apply SV.done (hf := Tryd.results6) (ht := rfl) (he := .inl rfl)
                    case hr => exact (ResAll.cons (ResOk.tmp (ag := false) (xs := [.hd 9]) rfl) (ResAll.cons (ResOk.tmp (ag := false) (xs := [.sc _]) rfl) ResAll.nil'))
                    case h2 => simp [two]
                    refine ⟨rfl, ⟨?_, trivial⟩, ⟨rfl, ⟨?_, trivial⟩, trivial⟩⟩ <;> first | rfl | (rw [hb]; rfl) | ((show some (T.seq _ _) = some (T.seq _ _); refine congrArg (fun z => some (T.seq _ z)) ?_; rw [hb]; first | done | rfl | (simp [tRun]; done))) | ((show some (T.lit (Value.bool _)) = some (T.lit (Value.bool _)); refine congrArg (fun z => some (T.lit (Value.bool z))) ?_; rw [hno])) | ((show some (T.lit (Value.bool _)) = some (T.lit (Value.bool _)); refine congrArg (fun z => some (T.lit (Value.bool z))) ?_; rw [hcan]))
                  · skip   -- c9.F
                    have hcl : s.cur.length = 0 := by first | (simpa using hc9) | (simp at hc9; omega) | (simp at hc9; rw [hc9]; rfl)
                    have hb : Runs.build l m = s.out := by rw [hb0]; unfold Runs.fin; rw [if_pos hcl]
                    refine SV.seq' ?_
                    refine SV.region ?_
                    refine SV.op (OpL.ok (nb := 1) (ok_move (v := V.one (.hd 0)) (.inl rfl) rfl) rfl (gle rfl)) rfl ?_
                    refine SV.op (OpL.ok (nb := 1) (ok_move (v := V.one (.hd 0)) (.inr rfl) rfl) rfl (gle rfl)) rfl ?_
                    refine SV.op (OpL.ok (nb := 1) (ok_move (v := V.one (.sc _)) (.inr rfl) rfl) rfl (gle rfl)) rfl ?_
                    refine SV.nil ?_
                    refine SV.tn ?_
                    refine SV.ret ?_
                    refine SV.br ?_
                    refine SV.br ?_
                    refine SV.tr ?_
                    refine SV.br ?_
                    apply SV.done (hf := Tryd.results6) (ht := rfl) (he := .inl rfl)
                    case hr => exact (ResAll.cons (ResOk.tmp (ag := false) (xs := [.hd 0]) rfl) (ResAll.cons (ResOk.tmp (ag := false) (xs := [.sc _]) rfl) ResAll.nil'))
                    case h2 => simp [two]
                    refine ⟨rfl, ⟨?_, trivial⟩, ⟨rfl, ⟨?_, trivial⟩, trivial⟩⟩ <;> first | rfl | (rw [hb]; rfl) | ((show some (T.seq _ _) = some (T.seq _ _); refine congrArg (fun z => some (T.seq _ z)) ?_; rw [hb]; first | done | rfl | (simp [tRun]; done))) | ((show some (T.lit (Value.bool _)) = some (T.lit (Value.bool _)); refine congrArg (fun z => some (T.lit (Value.bool z))) ?_; rw [hno])) | ((show some (T.lit (Value.bool _)) = some (T.lit (Value.bool _)); refine congrArg (fun z => some (T.lit (Value.bool z))) ?_; rw [hcan]))
            · skip   -- g3.F
              have hh : 0 < s.heap.length := by rcases Nat.eq_zero_or_pos s.heap.length with h | h; (exfalso; simp [h] at hg3); (exact h)
              have hk : Runs.minAt s.heap s.heap.length < s.heap.length := Runs.minAt_lt hh
              obtain ⟨e, he⟩ : ∃ e, s.heap[Runs.minAt s.heap s.heap.length]? = some e := ⟨_, List.getElem?_eq_getElem hk⟩
              have hst : Runs.step l m s = ⟨s.i, s.out, s.cur ++ [e], s.heap.eraseIdx (Runs.minAt s.heap s.heap.length), s.next⟩ := by rw [hst0, Runs.flow_give he]; rfl
              have hki := idxMin_pos hh
              have hd : Runs.done l s = false := by unfold Runs.done; rw [decide_eq_false_iff_not]; omega
              refine SV.opN rfl rfl rfl (gle rfl) rfl rfl rfl (gle rfl) ?_
              refine SV.opN rfl rfl rfl (gle rfl) rfl rfl rfl (gle rfl) ?_
              refine SV.opN rfl rfl rfl (gle rfl) rfl rfl rfl (gle rfl) ?_
              refine SV.opN rfl rfl rfl (gle rfl) rfl rfl rfl (gle rfl) ?_
              refine SV.op (OpL.ok (nb := 1) (ok_pickF (v := V.one (.sc _)) rfl rfl rfl) rfl (gle rfl)) rfl ?_
              refine SV.op (OpL.ok (nb := 1) (ok_move (v := V.one (.sc _)) (.inr rfl) rfl) rfl (gle rfl)) rfl ?_
              refine SV.nil ?_
              refine SV.tn ?_
              refine SV.cond rfl (fun hc10 => ?_) (fun hc10 => ?_)
              · skip   -- c10.T
                cases hc10
              · skip   -- c10.F
                refine SV.seq' ?_
                refine SV.region ?_
                refine SV.op (OpL.ok (nb := 1) (ok_field_bp (b := 0) (o' := 0) (off := 0) rfl rfl fld_impl_selection_0) rfl (gle rfl)) rfl ?_
                refine SV.op (OpL.ok (nb := 1) (ok_load_bp (b := 0) (i := 0) (ag := false) (m := 1) (ys := [.hd 1]) rfl rfl rfl agg_s_impl_Row sz_s_impl_Row (fun _ => rfl) rfl rfl (gle rfl)) rfl (gle rfl)) rfl ?_
                refine SV.op (OpL.ok (nb := 1) (ok_len (lf := .hd 1) rfl elt_impl_Row.und rfl rfl) rfl (gle rfl)) rfl ?_
                refine SV.op (OpL.ok (nb := 1) (ok_s2 (x := .tmp 54) (x' := .const ((Value.int IntKind.i64 0))) (VScal.one rfl) (VScal.one rfl) (fun ρ h1 h2 w => by go_simp; (try go_bits); with_reducible rfl) rfl) rfl (gle rfl)) rfl ?_
                refine SV.op (OpL.ok (nb := 1) (ok_move (v := V.one (.sc _)) (.inr rfl) rfl) rfl (gle rfl)) rfl ?_
                refine SV.nil ?_
                refine SV.tn ?_
                refine SV.cond rfl (fun hc11 => ?_) (fun hc11 => ?_)
                · skip   -- c11.T
                  refine SV.region ?_
                  refine SV.op (ok_callH (b := 0) (ys := [.hd 1, .hd 2, .hd 3]) (L0 := [.hd 4, .hd 5, .hd 6]) (L := [(true, [.sc _, .sc _, .sc _])]) rfl rfl ⟨_, _, Tryd.func30, rfl, by decide⟩ (vwrite_i s.heap s.next s.cur (Runs.minAt s.heap s.heap.length) e hki he hl2 hl1) rfl rfl ⟨rfl, rfl, rfl, trivial⟩ (by simp [two]) rfl trivial rfl (gle rfl)) rfl ?_
                  refine SV.nil ?_
                  refine SV.bn ?_
                  refine SV.bn ?_
                  refine SV.tn ?_
                  refine SV.again (fun i => [0, 4, 5, 6].getD i 0) ((Runs.step l m s)) (Runs.going_next hlm.1 hlm.2 hG hd rfl) (pins hE rfl rfl) (VS.le.mk' (le_put (le_put (le_put (le_put (le_put (le_put (le_box (le_new (le_new (le_new (le_new le_nil))))) (V.le.keep (ag := false) (xs := [.sc _]) (ys := [.sc _]) rfl rfl ⟨rfl, trivial⟩)) (V.le.keep (ag := false) (xs := [.sc _]) (ys := [.sc _]) rfl rfl ⟨rfl, trivial⟩)) (V.le.keep (ag := false) (xs := [.sc _]) (ys := [.sc _]) rfl rfl ⟨rfl, trivial⟩)) (V.le.keep (ag := false) (xs := [.hd 0]) (ys := [.hd 0]) rfl rfl ⟨⟨rfl, (gle rfl), (gle rfl)⟩, trivial⟩)) (V.le.keep (ag := false) (xs := [.bp 0 0]) (ys := [.bp 0 0]) rfl rfl ⟨⟨rfl, (gle rfl)⟩, trivial⟩)) (V.le.keep (ag := false) (xs := [.ro _]) (ys := [.ro _]) rfl rfl ⟨(by first | rfl | (show Leaf.ro _ = Leaf.ro _; refine congrArg Leaf.ro (congrArg (T.seq _) ?_); (rw [hst]; first | done | rfl | (simp [List.map_drop, List.map_take, List.drop_drop, Nat.add_comm]; done) | (simp [List.map_drop, List.map_take, List.drop_drop, Nat.add_comm]; rw [List.take_of_length_le (by simp), List.tail_drop])))), trivial⟩)) ⟨⟨rfl, ⟨⟨rfl, (gle rfl), (gle rfl)⟩, ⟨rfl, (gle rfl), (gle rfl)⟩, ⟨rfl, (gle rfl), (gle rfl)⟩, trivial⟩⟩, trivial⟩ ⟨.inr ⟨_, _, rfl, ?ob6_3, (gle rfl)⟩, ⟨.inr ⟨_, _, rfl, ?ob6_2, (gle rfl)⟩, ⟨.inr ⟨_, _, rfl, ?ob6_1, (gle rfl)⟩, ⟨.inr ⟨_, _, rfl, ?ob6_0, (gle rfl)⟩, trivial⟩⟩⟩⟩ (new_ob (new_ob (new_ob (new_ob nil_ob)))) (fun i j hi hj e => inj_list (l := [0, 4, 5, 6]) (by decide) i j hi hj e))
                  case ob6_0 =>
                    show some (T.seq _ _) = some (T.seq _ _)
                    rw [hst]; first | done | rfl | (simp only [List.map_append]; rfl) | (simp [tRun, tRow]; done)
                  case ob6_1 =>
                    show some (T.seq _ _) = some (T.seq _ _)
                    rw [hst]; first | done | rfl | (simp only [List.map_append]; rfl) | (simp [tRun, tRow]; done)
                  case ob6_2 =>
                    show some (T.seq _ _) = some (T.seq _ _)
                    rw [hst]; first | done | rfl | (simp only [List.map_append]; rfl) | (simp [tRun, tRow]; done)
                  case ob6_3 =>
                    show some (T.seq _ _) = some (T.seq _ _)
                    rw [hst]; first | done | rfl | (simp only [List.map_append]; rfl) | (simp [tRun, tRow]; done)
                · skip   -- c11.F
                  (exfalso; first | (simp at hc11; done) | (simp at hc11; omega) | (simp at hc11; rw [hc11] at hh; simp at hh; done))
end Go.Proofs.YtpnbnbhifpcelaaDoor
/- The program's AreValidRuns: told by trees. -/
namespace Go.Proofs.YtpnbnbhifpcelaaDoor
open Go Go.RowKit V
set_option linter.unusedVariables false
set_option maxRecDepth 100000 in
set_option maxHeartbeats 2000000 in
theorem vokruns_i (X : List (List R)) (hW : ∀ p ∈ X, ∀ r ∈ p, r.wf) (hp : ∀ p ∈ X, p.length ≤ 1000000000) (hX : X.length ≤ 1048576) (hF : X.flatten.length ≤ 1000000000) : VC Tryd.prog 11 [(false, [.seq 39 ((X).map tRun)])] false [(false, [.lit (.bool (Runs.okRuns X))])] := by
  refine VC.enter Tryd.func11 rfl Tryd.ntmps11 (gle rfl) fun E hE => ?_
  refine SV.seq' ?_
  refine SV.region ?_
  refine SV.op (OpL.ok (nb := 0) (ok_move (v := V.one (.sc _)) (.inr rfl) rfl) rfl (gle rfl)) rfl ?_
  refine SV.nil ?_
  refine SV.tn ?_
  refine SV.seq' ?_
  refine SV.seq' ?_
  refine SV.region ?_
  refine SV.op (OpL.ok (nb := 0) (ok_move (v := V.one (.ro _)) (.inl rfl) rfl) rfl (gle rfl)) rfl ?_
  refine SV.op (OpL.ok (nb := 0) (ok_len (lf := .ro _) rfl elt_impl_Run.und rfl rfl) rfl (gle rfl)) rfl ?_
  refine SV.op (OpL.ok (nb := 0) (ok_move (v := V.one (.sc _)) (.inl rfl) rfl) rfl (gle rfl)) rfl ?_
  refine SV.nil ?_
  refine SV.tn ?_
  refine SV.block ?_
  refine SV.loopF (X := Nat) (fun (σ : VS) t => ((((VS.nil.put 2 (σ.tm 2)).put 5 (σ.tm 5)).put 6 (σ.tm 6)).put 7 (V.flat false [.sc (.int .i64 ((t : Int)))]))) (fun t => t ≤ X.length ∧ ∀ u p, u < t → X[u]? = some p → Runs.okRun p = true) (fun t => X.length - t) ?_ ?_
  · skip
    refine SV.again (fun i => [].getD i 0) 0 (⟨Nat.zero_le _, fun u p h => absurd h (Nat.not_lt_zero u)⟩) (pins hE rfl rfl) (VS.le.mk' (le_put (le_put (le_put (le_put le_nil (V.le.keep (ag := false) (xs := [.sc _]) (ys := [.sc _]) rfl rfl ⟨rfl, trivial⟩)) (V.le.keep (ag := false) (xs := [.ro _]) (ys := [.ro _]) rfl rfl ⟨rfl, trivial⟩)) (V.le.keep (ag := false) (xs := [.sc _]) (ys := [.sc _]) rfl rfl ⟨rfl, trivial⟩)) (V.le.keep (ag := false) (xs := [.sc _]) (ys := [.sc _]) rfl rfl ⟨(by first | rfl | (show Leaf.sc _ = Leaf.sc _; refine congrArg Leaf.sc ?_; first | rfl | go_num | (simp [cntAll]; done)) | (simp [cntAll]; done) | (simp; omega)), trivial⟩)) trivial trivial nil_ob (fun i j hi hj e => absurd hi (Nat.not_lt_zero i)))
  · rintro t ⟨ht, hb⟩
    refine SV.seq' ?_
    refine SV.region ?_
    refine SV.op (OpL.ok (nb := 0) (ok_s2 (x := .tmp 7) (x' := .tmp 6) (VScal.one rfl) (VScal.one rfl) (fun ρ h1 h2 w => by go_simp; (try go_bits); with_reducible rfl) rfl) rfl (gle rfl)) rfl ?_
    refine SV.nil ?_
    refine SV.tn ?_
    refine SV.seq' ?_
    refine SV.cond rfl (fun hc0 => ?_) (fun hc0 => ?_)
    · skip   -- c0.T
      have htl : t < X.length := by simpa using hc0
      obtain ⟨p, hx⟩ : ∃ p, X[t]? = some p := ⟨_, List.getElem?_eq_getElem htl⟩
      refine SV.skip ?_
      refine SV.tn ?_
      refine SV.seq' ?_
      refine SV.block ?_
      refine SV.seq' ?_
      refine SV.region ?_
      refine SV.op (OpL.ok (nb := 0) (ok_index (n := 1) (lf := .ro _) rfl elt_impl_Run.und sz_impl_Run rfl rfl rfl (map_at hx)) rfl (gle rfl)) rfl ?_
      refine SV.op (OpL.ok (nb := 0) (ok_load_rp (ag := true) (m := 1) (ys := [.ro _]) rfl rfl agg_impl_Run sz_impl_Run (fun h => by cases h) (gle rfl) rfl) rfl (gle rfl)) rfl ?_
      refine SV.op (OpMk.ok (ok_alloc (kk := 0) (xs := [.nl _]) rfl rfl zero_impl_Run ⟨rfl, ⟨3, by decide, sz_impl_Row⟩, trivial⟩ rfl (gle rfl))) rfl ?_
      refine SV.op (ok_store_bp (b := 0) (i := 0) (m := 1) (ag := true) (zs := [.ro _]) (ys := [.ro _]) rfl rfl rfl rfl sz_impl_Run (fun h => by cases h) rfl (gle rfl) rfl rfl rfl) rfl ?_
      refine SV.nil ?_
      refine SV.tn ?_
      refine SV.seq' ?_
      refine SV.region ?_
      refine SV.op (OpL.ok (nb := 1) (ok_field_bp (b := 0) (o' := 0) (off := 0) rfl rfl fld_impl_Run_0) rfl (gle rfl)) rfl ?_
      refine SV.op (OpL.ok (nb := 1) (ok_load_bp (b := 0) (i := 0) (ag := false) (m := 1) (ys := [.ro _]) rfl rfl rfl agg_s_impl_Row sz_s_impl_Row (fun _ => rfl) rfl rfl (gle rfl)) rfl (gle rfl)) rfl ?_
      refine SV.op (OpL.ok (nb := 1) (ok_len (lf := .ro _) rfl elt_impl_Row.und rfl rfl) rfl (gle rfl)) rfl ?_
      refine SV.op (OpL.ok (nb := 1) (ok_s2 (x := .tmp 13) (x' := .const ((Value.int IntKind.i64 0))) (VScal.one rfl) (VScal.one rfl) (fun ρ h1 h2 w => by go_simp; (try go_bits); with_reducible rfl) rfl) rfl (gle rfl)) rfl ?_
      refine SV.op (OpL.ok (nb := 1) (ok_move (v := V.one (.sc _)) (.inl rfl) rfl) rfl (gle rfl)) rfl ?_
      refine SV.split (d := 15) rfl (fun hg0 => ?_) (fun hg0 => ?_)
      · skip   -- g0.T
        refine SV.opN rfl rfl rfl (gle rfl) rfl rfl rfl (gle rfl) ?_
        refine SV.opN rfl rfl rfl (gle rfl) rfl rfl rfl (gle rfl) ?_
        refine SV.opN rfl rfl rfl (gle rfl) rfl rfl rfl (gle rfl) ?_
        refine SV.opN rfl rfl rfl (gle rfl) rfl rfl rfl (gle rfl) ?_
        refine SV.op (OpL.ok (nb := 1) (ok_pickT (v := V.one (.sc _)) rfl rfl rfl) rfl (gle rfl)) rfl ?_
        refine SV.op (OpL.ok (nb := 1) (ok_move (v := V.one (.sc _)) (.inl rfl) rfl) rfl (gle rfl)) rfl ?_
        refine SV.opN rfl rfl rfl (gle rfl) rfl rfl rfl (gle rfl) ?_
        refine SV.opN rfl rfl rfl (gle rfl) rfl rfl rfl (gle rfl) ?_
        refine SV.opN rfl rfl rfl (gle rfl) rfl rfl rfl (gle rfl) ?_
        refine SV.opN rfl rfl rfl (gle rfl) rfl rfl rfl (gle rfl) ?_
        refine SV.op (OpL.ok (nb := 1) (ok_pickT (v := V.one (.sc _)) rfl rfl rfl) rfl (gle rfl)) rfl ?_
        refine SV.nil ?_
        refine SV.tn ?_
        refine SV.cond rfl (fun hc1 => ?_) (fun hc1 => ?_)
        · skip   -- c1.T
          have hbad : Runs.okRun p = false := by
            rw [Bool.eq_false_iff]
            intro h
            rw [okRun_eq] at h
            simp only [Bool.and_eq_true, decide_eq_true_eq] at h
            obtain ⟨h1, h2, h3⟩ := h
            simp at hg0; first | omega | (simp [hg0] at h1; done)
          have hno : Runs.okRuns X = false := okRuns_no hx hbad
          refine SV.seq' ?_
          refine SV.region ?_
          refine SV.op (OpL.ok (nb := 1) (ok_move (v := V.one (.sc _)) (.inr rfl) rfl) rfl (gle rfl)) rfl ?_
          refine SV.nil ?_
          refine SV.tn ?_
          refine SV.ret ?_
          refine SV.br ?_
          refine SV.tr ?_
          refine SV.tr ?_
          refine SV.br ?_
          refine SV.tr ?_
          apply SV.done (hf := Tryd.results11) (ht := rfl) (he := .inl rfl)
          case hr => exact (ResAll.cons (ResOk.tmp (ag := false) (xs := [.sc _]) rfl) ResAll.nil')
          case h2 => simp [two]
          refine ⟨rfl, ⟨?_, trivial⟩, trivial⟩ <;> (show some (T.lit (Value.bool _)) = some (T.lit (Value.bool _)); refine congrArg (fun z => some (T.lit (Value.bool z))) ?_; rw [hno])
        · skip   -- c1.F
          cases hc1
      · skip   -- g0.F
        refine SV.opY (OpL.ok (nb := 1) (ok_field_bp (b := 0) (o' := 0) (off := 0) rfl rfl fld_impl_Run_0) rfl (gle rfl)) rfl rfl rfl (gle rfl) rfl rfl ?_
        refine SV.opY (OpL.ok (nb := 1) (ok_load_bp (b := 0) (i := 0) (ag := false) (m := 1) (ys := [.ro _]) rfl rfl rfl agg_s_impl_Row sz_s_impl_Row (fun _ => rfl) rfl rfl (gle rfl)) rfl (gle rfl)) rfl rfl rfl (gle rfl) rfl rfl ?_
        refine SV.opY (OpMk.ok (ok_call (ls := [(false, [.sc _])]) rfl rfl ⟨_, _, Tryd.func37, rfl, by decide⟩ (vasc_i p (hW p (List.mem_of_getElem? hx)) (hp p (List.mem_of_getElem? hx))) ⟨⟨[.ro _], rfl, ⟨rfl, trivial⟩⟩, trivial⟩ rfl (gle rfl))) rfl rfl rfl (gle rfl) rfl rfl ?_
        refine SV.opY (OpL.ok (nb := 1) (ok_s1 (x := .tmp 18) (VScal.one rfl) (fun ρ h1 w => by go_simp; (try go_bits); with_reducible rfl) rfl) rfl (gle rfl)) rfl rfl rfl (gle rfl) rfl rfl ?_
        refine SV.op (OpL.ok (nb := 1) (ok_pickF (v := V.one (.sc _)) rfl rfl rfl) rfl (gle rfl)) rfl ?_
        refine SV.op (OpL.ok (nb := 1) (ok_move (v := V.one (.sc _)) (.inl rfl) rfl) rfl (gle rfl)) rfl ?_
        refine SV.split (d := 21) rfl (fun hg1 => ?_) (fun hg1 => ?_)
        · skip   -- g1.T
          refine SV.opN rfl rfl rfl (gle rfl) rfl rfl rfl (gle rfl) ?_
          refine SV.opN rfl rfl rfl (gle rfl) rfl rfl rfl (gle rfl) ?_
          refine SV.opN rfl rfl rfl (gle rfl) rfl rfl rfl (gle rfl) ?_
          refine SV.opN rfl rfl rfl (gle rfl) rfl rfl rfl (gle rfl) ?_
          refine SV.op (OpL.ok (nb := 1) (ok_pickT (v := V.one (.sc _)) rfl rfl rfl) rfl (gle rfl)) rfl ?_
          refine SV.nil ?_
          refine SV.tn ?_
          refine SV.cond rfl (fun hc2 => ?_) (fun hc2 => ?_)
          · skip   -- c2.T
            have hbad : Runs.okRun p = false := by
              rw [Bool.eq_false_iff]
              intro h
              rw [okRun_eq] at h
              simp only [Bool.and_eq_true, decide_eq_true_eq] at h
              obtain ⟨h1, h2, h3⟩ := h
              rw [h2] at hg1; cases hg1
            have hno : Runs.okRuns X = false := okRuns_no hx hbad
            refine SV.seq' ?_
            refine SV.region ?_
            refine SV.op (OpL.ok (nb := 1) (ok_move (v := V.one (.sc _)) (.inr rfl) rfl) rfl (gle rfl)) rfl ?_
            refine SV.nil ?_
            refine SV.tn ?_
            refine SV.ret ?_
            refine SV.br ?_
            refine SV.tr ?_
            refine SV.tr ?_
            refine SV.br ?_
            refine SV.tr ?_
            apply SV.done (hf := Tryd.results11) (ht := rfl) (he := .inl rfl)
            case hr => exact (ResAll.cons (ResOk.tmp (ag := false) (xs := [.sc _]) rfl) ResAll.nil')
            case h2 => simp [two]
            refine ⟨rfl, ⟨?_, trivial⟩, trivial⟩ <;> (show some (T.lit (Value.bool _)) = some (T.lit (Value.bool _)); refine congrArg (fun z => some (T.lit (Value.bool z))) ?_; rw [hno])
          · skip   -- c2.F
            cases hc2
        · skip   -- g1.F
          refine SV.opY (OpL.ok (nb := 1) (ok_field_bp (b := 0) (o' := 0) (off := 0) rfl rfl fld_impl_Run_0) rfl (gle rfl)) rfl rfl rfl (gle rfl) rfl rfl ?_
          refine SV.opY (OpL.ok (nb := 1) (ok_load_bp (b := 0) (i := 0) (ag := false) (m := 1) (ys := [.ro _]) rfl rfl rfl agg_s_impl_Row sz_s_impl_Row (fun _ => rfl) rfl rfl (gle rfl)) rfl (gle rfl)) rfl rfl rfl (gle rfl) rfl rfl ?_
          refine SV.opY (OpMk.ok (ok_call (ls := [(false, [.sc _])]) rfl rfl ⟨_, _, Tryd.func25, rfl, by decide⟩ (vares_i p (hW p (List.mem_of_getElem? hx)) (hp p (List.mem_of_getElem? hx))) ⟨⟨[.ro _], rfl, ⟨rfl, trivial⟩⟩, trivial⟩ rfl (gle rfl))) rfl rfl rfl (gle rfl) rfl rfl ?_
          refine SV.opY (OpL.ok (nb := 1) (ok_s1 (x := .tmp 24) (VScal.one rfl) (fun ρ h1 w => by go_simp; (try go_bits); with_reducible rfl) rfl) rfl (gle rfl)) rfl rfl rfl (gle rfl) rfl rfl ?_
          refine SV.op (OpL.ok (nb := 1) (ok_pickF (v := V.one (.sc _)) rfl rfl rfl) rfl (gle rfl)) rfl ?_
          refine SV.nil ?_
          refine SV.tn ?_
          refine SV.cond rfl (fun hc3 => ?_) (fun hc3 => ?_)
          · skip   -- c3.T
            have hbad : Runs.okRun p = false := by
              rw [Bool.eq_false_iff]
              intro h
              rw [okRun_eq] at h
              simp only [Bool.and_eq_true, decide_eq_true_eq] at h
              obtain ⟨h1, h2, h3⟩ := h
              rw [h3] at hc3; cases hc3
            have hno : Runs.okRuns X = false := okRuns_no hx hbad
            refine SV.seq' ?_
            refine SV.region ?_
            refine SV.op (OpL.ok (nb := 1) (ok_move (v := V.one (.sc _)) (.inr rfl) rfl) rfl (gle rfl)) rfl ?_
            refine SV.nil ?_
            refine SV.tn ?_
            refine SV.ret ?_
            refine SV.br ?_
            refine SV.tr ?_
            refine SV.tr ?_
            refine SV.br ?_
            refine SV.tr ?_
            apply SV.done (hf := Tryd.results11) (ht := rfl) (he := .inl rfl)
            case hr => exact (ResAll.cons (ResOk.tmp (ag := false) (xs := [.sc _]) rfl) ResAll.nil')
            case h2 => simp [two]
            refine ⟨rfl, ⟨?_, trivial⟩, trivial⟩ <;> (show some (T.lit (Value.bool _)) = some (T.lit (Value.bool _)); refine congrArg (fun z => some (T.lit (Value.bool z))) ?_; rw [hno])
          · skip   -- c3.F
            have hgood : Runs.okRun p = true := by
              rw [okRun_eq]
              simp only [Bool.and_eq_true, decide_eq_true_eq]
              refine ⟨?_, by simpa using hg1, by simpa using hc3⟩
              rcases Nat.eq_zero_or_pos p.length with h | h; (exfalso; simp [h] at hg0); (exact h)
            refine SV.skip ?_
            refine SV.bn ?_
            refine SV.tn ?_
            refine SV.region ?_
            refine SV.op (OpL.ok (nb := 1) (ok_s2 (x := .tmp 7) (x' := .const ((Value.int IntKind.i64 1))) (VScal.one rfl) (VScal.one rfl) (fun ρ h1 h2 w => by go_simp; (try go_bits); with_reducible rfl) rfl) rfl (gle rfl)) rfl ?_
            refine SV.op (OpL.ok (nb := 1) (ok_move (v := V.one (.sc _)) (.inl rfl) rfl) rfl (gle rfl)) rfl ?_
            refine SV.nil ?_
            refine SV.tn ?_
            refine SV.again (fun i => [].getD i 0) (t + 1) (⟨⟨by omega, fun u q hu hq => by rcases Nat.lt_or_ge u t with h1 | h1; (exact hb u q h1 hq); (have h2 : u = t := (by omega); subst h2; rw [hx] at hq; cases hq; exact hgood)⟩, by omega⟩) (pins hE rfl rfl) (VS.le.mk' (le_put (le_put (le_put (le_put le_nil (V.le.keep (ag := false) (xs := [.sc _]) (ys := [.sc _]) rfl rfl ⟨rfl, trivial⟩)) (V.le.keep (ag := false) (xs := [.ro _]) (ys := [.ro _]) rfl rfl ⟨rfl, trivial⟩)) (V.le.keep (ag := false) (xs := [.sc _]) (ys := [.sc _]) rfl rfl ⟨rfl, trivial⟩)) (V.le.keep (ag := false) (xs := [.sc _]) (ys := [.sc _]) rfl rfl ⟨(by first | rfl | (show Leaf.sc _ = Leaf.sc _; refine congrArg Leaf.sc ?_; first | rfl | go_num | (simp [cntAll]; done)) | (simp [cntAll]; done) | (simp; omega)), trivial⟩)) trivial trivial nil_ob (fun i j hi hj e => absurd hi (Nat.not_lt_zero i)))
    · skip   -- c0.F
      have hte : ¬ t < X.length := by simpa using hc0
      have hno : Runs.okRuns X = true := okRuns_all fun u p hu hx => hb u p (by omega) hx
      refine SV.exit ?_
      refine SV.te ?_
      refine SV.te ?_
      refine SV.bh ?_
      refine SV.tn ?_
      refine SV.seq' ?_
      refine SV.region ?_
      refine SV.op (OpL.ok (nb := 0) (ok_move (v := V.one (.sc _)) (.inr rfl) rfl) rfl (gle rfl)) rfl ?_
      refine SV.nil ?_
      refine SV.tn ?_
      refine SV.ret ?_
      apply SV.done (hf := Tryd.results11) (ht := rfl) (he := .inl rfl)
      case hr => exact (ResAll.cons (ResOk.tmp (ag := false) (xs := [.sc _]) rfl) ResAll.nil')
      case h2 => simp [two]
      refine ⟨rfl, ⟨?_, trivial⟩, trivial⟩ <;> (show some (T.lit (Value.bool _)) = some (T.lit (Value.bool _)); refine congrArg (fun z => some (T.lit (Value.bool z))) ?_; rw [hno])
end Go.Proofs.YtpnbnbhifpcelaaDoor
/- The program's FlattenRuns: told by trees. -/
namespace Go.Proofs.YtpnbnbhifpcelaaDoor
open Go Go.RowKit V
set_option linter.unusedVariables false
set_option maxRecDepth 100000 in
set_option maxHeartbeats 2000000 in
theorem vflat_i (X : List (List R)) (hW : ∀ p ∈ X, ∀ r ∈ p, r.wf) (hp : ∀ p ∈ X, p.length ≤ 1000000000) (hX : X.length ≤ 1048576) (hF : X.flatten.length ≤ 1000000000) : VC Tryd.prog 18 [(false, [.seq 39 ((X).map tRun)])] false [(false, [.seq 50 ((X.flatten).map tRow)])] := by
  refine VC.enter Tryd.func18 rfl Tryd.ntmps18 (gle rfl) fun E hE => ?_
  refine SV.seq' ?_
  refine SV.region ?_
  refine SV.op (OpL.ok (nb := 0) (ok_move (v := V.one (.sc _)) (.inr rfl) rfl) rfl (gle rfl)) rfl ?_
  refine SV.nil ?_
  refine SV.tn ?_
  refine SV.seq' ?_
  refine SV.region ?_
  refine SV.op (OpL.ok (nb := 0) (ok_move (v := V.one (.sc _)) (.inr rfl) rfl) rfl (gle rfl)) rfl ?_
  refine SV.nil ?_
  refine SV.tn ?_
  refine SV.seq' ?_
  refine SV.seq' ?_
  refine SV.region ?_
  refine SV.op (OpL.ok (nb := 0) (ok_move (v := V.one (.ro _)) (.inl rfl) rfl) rfl (gle rfl)) rfl ?_
  refine SV.op (OpL.ok (nb := 0) (ok_len (lf := .ro _) rfl elt_impl_Run.und rfl rfl) rfl (gle rfl)) rfl ?_
  refine SV.op (OpL.ok (nb := 0) (ok_move (v := V.one (.sc _)) (.inl rfl) rfl) rfl (gle rfl)) rfl ?_
  refine SV.nil ?_
  refine SV.tn ?_
  refine SV.block ?_
  refine SV.nlsc (s := 3) (kk := 0) (n := 3) rfl rfl (by decide) sz_impl_Row (gle rfl) ?_
  refine SV.loopF (X := Nat) (fun (σ : VS) t => ((((((VS.nil.new (.seq 50 ((X.take t).flatten.map tRow))).put 2 (σ.tm 2)).put 3 (V.flat false [.hd 0])).put 6 (σ.tm 6)).put 7 (σ.tm 7)).put 8 (V.flat false [.sc (.int .i64 ((t : Int)))]))) (fun t => t ≤ X.length) (fun t => X.length - t) ?_ ?_
  · skip
    refine SV.again (fun i => [0].getD i 0) 0 ((Nat.zero_le _)) (pins hE rfl rfl) (VS.le.mk' (le_put (le_put (le_put (le_put (le_put (le_new le_nil) (V.le.keep (ag := false) (xs := [.sc _]) (ys := [.sc _]) rfl rfl ⟨rfl, trivial⟩)) (V.le.keep (ag := false) (xs := [.hd 0]) (ys := [.hd 0]) rfl rfl ⟨⟨rfl, (gle rfl), (gle rfl)⟩, trivial⟩)) (V.le.keep (ag := false) (xs := [.ro _]) (ys := [.ro _]) rfl rfl ⟨rfl, trivial⟩)) (V.le.keep (ag := false) (xs := [.sc _]) (ys := [.sc _]) rfl rfl ⟨rfl, trivial⟩)) (V.le.keep (ag := false) (xs := [.sc _]) (ys := [.sc _]) rfl rfl ⟨(by first | rfl | (show Leaf.sc _ = Leaf.sc _; refine congrArg Leaf.sc ?_; first | rfl | go_num | (simp [cntAll]; done)) | (simp [cntAll]; done) | (simp; omega)), trivial⟩)) trivial ⟨.inr ⟨_, _, rfl, ?ob1_0, (gle rfl)⟩, trivial⟩ (new_ob nil_ob) (fun i j hi hj e => inj_list (l := [0]) (by decide) i j hi hj e))
    case ob1_0 =>
      show some (T.seq _ _) = some (T.seq _ _)
      rfl
  · rintro t ht
    have hfl := take_len X t
    refine SV.seq' ?_
    refine SV.region ?_
    refine SV.op (OpL.ok (nb := 0) (ok_s2 (x := .tmp 8) (x' := .tmp 7) (VScal.one rfl) (VScal.one rfl) (fun ρ h1 h2 w => by go_simp; (try go_bits); with_reducible rfl) rfl) rfl (gle rfl)) rfl ?_
    refine SV.nil ?_
    refine SV.tn ?_
    refine SV.seq' ?_
    refine SV.cond rfl (fun hc0 => ?_) (fun hc0 => ?_)
    · skip   -- c0.T
      have htl : t < X.length := by simpa using hc0
      obtain ⟨p, hx⟩ : ∃ p, X[t]? = some p := ⟨_, List.getElem?_eq_getElem htl⟩
      have hpl := Runs.mem_len (List.mem_of_getElem? hx)
      refine SV.skip ?_
      refine SV.tn ?_
      refine SV.seq' ?_
      refine SV.block ?_
      refine SV.seq' ?_
      refine SV.region ?_
      refine SV.op (OpL.ok (nb := 0) (ok_index (n := 1) (lf := .ro _) rfl elt_impl_Run.und sz_impl_Run rfl rfl rfl (map_at hx)) rfl (gle rfl)) rfl ?_
      refine SV.op (OpL.ok (nb := 0) (ok_load_rp (ag := true) (m := 1) (ys := [.ro _]) rfl rfl agg_impl_Run sz_impl_Run (fun h => by cases h) (gle rfl) rfl) rfl (gle rfl)) rfl ?_
      refine SV.op (OpMk.ok (ok_alloc (kk := 0) (xs := [.nl _]) rfl rfl zero_impl_Run ⟨rfl, ⟨3, by decide, sz_impl_Row⟩, trivial⟩ rfl (gle rfl))) rfl ?_
      refine SV.op (ok_store_bp (b := 0) (i := 0) (m := 1) (ag := true) (zs := [.ro _]) (ys := [.ro _]) rfl rfl rfl rfl sz_impl_Run (fun h => by cases h) rfl (gle rfl) rfl rfl rfl) rfl ?_
      refine SV.nil ?_
      refine SV.tn ?_
      refine SV.region ?_
      refine SV.op (OpL.ok (nb := 1) (ok_move (v := V.one (.hd 0)) (.inl rfl) rfl) rfl (gle rfl)) rfl ?_
      refine SV.op (OpL.ok (nb := 1) (ok_field_bp (b := 0) (o' := 0) (off := 0) rfl rfl fld_impl_Run_0) rfl (gle rfl)) rfl ?_
      refine SV.op (OpL.ok (nb := 1) (ok_load_bp (b := 0) (i := 0) (ag := false) (m := 1) (ys := [.ro _]) rfl rfl rfl agg_s_impl_Row sz_s_impl_Row (fun _ => rfl) rfl rfl (gle rfl)) rfl (gle rfl)) rfl ?_
      refine SV.op (OpMk.ok (ok_append_ro (kk := 1) elt_impl_Row (ls := .hd 0) (lx := .ro _) rfl rfl rfl rfl rfl rfl (flat_impl_Row _) (by first | omega | (simp only [List.length_map]; omega) | (simp; done) | (simp; omega)) rfl (gle rfl))) rfl ?_
      refine SV.op (OpL.ok (nb := 1) (ok_move (v := V.one (.hd 1)) (.inr rfl) rfl) rfl (gle rfl)) rfl ?_
      refine SV.nil ?_
      refine SV.bn ?_
      refine SV.tn ?_
      refine SV.region ?_
      refine SV.op (OpL.ok (nb := 1) (ok_s2 (x := .tmp 8) (x' := .const ((Value.int IntKind.i64 1))) (VScal.one rfl) (VScal.one rfl) (fun ρ h1 h2 w => by go_simp; (try go_bits); with_reducible rfl) rfl) rfl (gle rfl)) rfl ?_
      refine SV.op (OpL.ok (nb := 1) (ok_move (v := V.one (.sc _)) (.inl rfl) rfl) rfl (gle rfl)) rfl ?_
      refine SV.nil ?_
      refine SV.tn ?_
      refine SV.again (fun i => [1].getD i 0) (t + 1) (⟨by omega, by omega⟩) (pins hE rfl rfl) (VS.le.mk' (le_put (le_put (le_put (le_put (le_put (le_new le_nil) (V.le.keep (ag := false) (xs := [.sc _]) (ys := [.sc _]) rfl rfl ⟨rfl, trivial⟩)) (V.le.keep (ag := false) (xs := [.hd 1]) (ys := [.hd 0]) rfl rfl ⟨⟨rfl, (gle rfl), (gle rfl)⟩, trivial⟩)) (V.le.keep (ag := false) (xs := [.ro _]) (ys := [.ro _]) rfl rfl ⟨rfl, trivial⟩)) (V.le.keep (ag := false) (xs := [.sc _]) (ys := [.sc _]) rfl rfl ⟨rfl, trivial⟩)) (V.le.keep (ag := false) (xs := [.sc _]) (ys := [.sc _]) rfl rfl ⟨(by first | rfl | (show Leaf.sc _ = Leaf.sc _; refine congrArg Leaf.sc ?_; first | rfl | go_num | (simp [cntAll]; done)) | (simp [cntAll]; done) | (simp; omega)), trivial⟩)) trivial ⟨.inr ⟨_, _, rfl, ?ob2_0, (gle rfl)⟩, trivial⟩ (new_ob nil_ob) (fun i j hi hj e => inj_list (l := [1]) (by decide) i j hi hj e))
      case ob2_0 =>
        show some (T.seq _ _) = some (T.seq _ _)
        rw [take_flat hx]; first | done | rfl | (simp only [List.map_append]; rfl) | (simp; done)
    · skip   -- c0.F
      have hte : X.take t = X := List.take_of_length_le (by simp at hc0; omega)
      refine SV.exit ?_
      refine SV.te ?_
      refine SV.te ?_
      refine SV.bh ?_
      refine SV.tn ?_
      refine SV.seq' ?_
      refine SV.region ?_
      refine SV.op (OpL.ok (nb := 0) (ok_move (v := V.one (.hd 0)) (.inl rfl) rfl) rfl (gle rfl)) rfl ?_
      refine SV.op (OpL.ok (nb := 0) (ok_move (v := V.one (.hd 0)) (.inr rfl) rfl) rfl (gle rfl)) rfl ?_
      refine SV.nil ?_
      refine SV.tn ?_
      refine SV.ret ?_
      apply SV.done (hf := Tryd.results18) (ht := rfl) (he := .inl rfl)
      case hr => exact (ResAll.cons (ResOk.tmp (ag := false) (xs := [.hd 0]) rfl) ResAll.nil')
      case h2 => simp [two]
      refine ⟨rfl, ⟨?_, trivial⟩, trivial⟩ <;> (show some (T.seq _ _) = some (T.seq _ _); refine congrArg (fun z => some (T.seq _ z)) ?_; rw [hte])
end Go.Proofs.YtpnbnbhifpcelaaDoor
/- strings.Join, told by trees. -/
namespace Go.Proofs.YtpnbnbhifpcelaaDoor
open Go Go.RowKit V
set_option linter.unusedVariables false
theorem vjoin_strs (Z : List (List UInt8)) (b : UInt8) (hZ : Z.length ≤ 1000000000) (hl : (Lib.join Z [b]).length ≤ 140737488355328) : VC Tryd.prog 40 [(false, [.seq 9 (Z.map fun z => [.lit (.string ⟨z.toArray⟩)])]), (false, [.lit (.string ⟨[b].toArray⟩)])] false [(false, [.lit (.string ⟨(Lib.join Z [b]).toArray⟩)])] := fun w vs hv => by
  obtain ⟨hvl, ha⟩ := hv
  match vs, hvl with
  | [v, u], _ =>
    obtain ⟨us, e1, e2, e3⟩ := ha 0 false _ v rfl rfl
    obtain ⟨us', f1, f2, f3⟩ := ha 1 false _ u rfl rfl
    match us, e2 with
    | [x], _ =>
      match us', f2 with
      | [y], _ =>
        have g1 := e3 0 _ x rfl rfl
        have g2 := inn_lit (f3 0 _ y rfl rfl)
        have e1' : v = x := e1
        have f1' : u = y := f1
        subst e1' f1' g2
        have hd : (Z.map fun z => (⟨z.toArray⟩ : ByteArray)).map (·.data.toList) = Z := by
          rw [List.map_map, show ((fun x : ByteArray => x.data.toList) ∘ fun z : List UInt8 => (⟨z.toArray⟩ : ByteArray)) = id from by funext z; simp, List.map_id]
        have hc : Calls Tryd.prog 40 #[v, .string ⟨[b].toArray⟩] w fun e w' => e = .returned (.string ⟨(Lib.join Z [b]).toArray⟩) ∧ Below w.heap.size w w' := by
          cases g1 with
          | @seq ty es a c n hp hz hn hc hm h0 bk o us ha' hb hcell hr =>
            rcases Nat.eq_zero_or_pos Z.length with hz0 | hz0
            · have hZe : Z = [] := List.eq_nil_of_length_eq_zero hz0
              subst hZe
              refine (Tryd.strings_Join_none a c ⟨[b].toArray⟩ w).mono fun e w' ⟨he, hw⟩ => ?_
              subst hw
              exact ⟨he, Below.refl _ _⟩
            · have hne : (Z.map fun z => [T.lit (.string ⟨z.toArray⟩)]) ≠ [] := by intro e; have := congrArg List.length e; simp at this; rw [this] at hz0; simp at hz0
              have hn1 : n = 1 := by
                obtain ⟨z, Z', rfl⟩ := List.exists_cons_of_length_pos hz0
                exact (hn [T.lit (.string ⟨z.toArray⟩)] (by simp)).symm
              subst hn1
              cases a with
              | none => have := h0 rfl; subst this; simp at hc; rw [hc] at hz0; simp at hz0
              | some ad =>
                have had := ha' ad rfl hne
                subst had
                have hj := Tryd.strings_Join bk o c (Z.map fun z => ⟨z.toArray⟩) ⟨[b].toArray⟩ w (fun j x hx => by
                  rw [List.getElem?_map] at hx
                  obtain ⟨z, hz1, rfl⟩ := Option.map_eq_some_iff.1 hx
                  have h1 := hcell j [T.lit (.string ⟨z.toArray⟩)] 0 _ (by rw [List.getElem?_map, hz1]; rfl) rfl
                  have h2 := inn_lit (hr j [T.lit (.string ⟨z.toArray⟩)] 0 _ (by rw [List.getElem?_map, hz1]; rfl) rfl)
                  rw [h2] at h1
                  simpa using h1) (hb hne).2 (by simp; omega) (by simpa using hc) (by rw [hd]; exact hl)
                rw [hd] at hj
                simpa using hj
        exact (VC.plainAt (ins := [(false, [v]), (false, [.string ⟨[b].toArray⟩])]) (ag := false) (rs := [.string ⟨(Lib.join Z [b]).toArray⟩]) (fun u hu => by rw [List.mem_singleton.1 hu]; rfl) hc [v, .string ⟨[b].toArray⟩] ⟨rfl, fun c ag ts v' h1 h2 => by
          have hone : v.oneCell' = true := g1.one
          match c, h1, h2 with
          | 0, h1, h2 => cases h1; cases h2; exact ⟨[v], rfl, rfl, fun j t u h3 h4 => by match j, h3, h4 with | 0, h3, h4 => cases h3; cases h4; exact .lit hone⟩
          | 1, h1, h2 => cases h1; cases h2; exact ⟨[_], rfl, rfl, fun j t u h3 h4 => by match j, h3, h4 with | 0, h3, h4 => cases h3; cases h4; exact .lit rfl⟩⟩)
end Go.Proofs.YtpnbnbhifpcelaaDoor
/- The program's FormatRow, by contract. -/
namespace Go.Proofs.YtpnbnbhifpcelaaDoor
open Go.RowKit Go.Lib
def BoxedT (w : World) (r : R) (v : World) : Prop := Boxed w r v ∧ Tab v
theorem BoxedT.facts {w v : World} {r : R} (h : BoxedT w r v) : v.cell? ⟨w.heap.size, 0, none⟩ = some (.int .i64 r.key) ∧ v.cell? ⟨w.heap.size, 1, none⟩ = some (.int .i64 r.value) ∧ v.cell? ⟨w.heap.size, 2, none⟩ = some (.int .i64 r.width) ∧ Hid (BoxedT w r v) := ⟨h.1.c0, h.1.c1, h.1.c2, h⟩
theorem boxed_tab {w w' : World} {r : R} {t : TypeId} (hb : Below (w.alloc (.cells #[.int .i64 r.key, .int .i64 r.value, .int .i64 r.width] t)).heap.size (w.alloc (.cells #[.int .i64 r.key, .int .i64 r.value, .int .i64 r.width] t)) w') (ht : Tab w) : BoxedT w r w'.drew :=
  ⟨(boxed_start hb).drew, ht.stay (boxed_start hb).drew.old⟩
theorem ifmt_keep (w : World) (r : R) (n : Int) (v : World) (h0 : -9223372036854775808 ≤ n) (h1 : n ≤ 9223372036854775807) (hv : Hid (BoxedT w r v)) :
    Calls Tryd.prog 65 #[.int .i64 n] v fun e v' => e = .returned (.string ⟨(itoa n).toArray⟩) ∧ Hid (BoxedT w r v') :=
  (ifmt n v h0 h1 hv.out.2).mono fun _ _ ⟨he, hb⟩ => ⟨he, hv.out.1.next hb, hv.out.2.stay hb⟩
set_option maxRecDepth 100000 in
theorem ifrow (r : R) (w : World) (ht : Tab w) : Calls Tryd.prog 55 #[r.val] w fun e w' => e = .returned (.string ⟨r.fmt.toArray⟩) ∧ Below w.heap.size w w' := by
  have HV := Lib.hid (ivalid r)
  have HT := Lib.hid ht
  clear ht
  cases hok : r.ok with
  | false =>
    have hf : r.fmt = [] := by unfold R.fmt; rw [hok]; rfl
    have HF := Lib.hid hf
    rw [hok] at HV
    clear hf hok
    unfold R.val at HV ⊢
    go_enter Tryd.func55, Tryd.ntmps55
    go_wp2_with fail
    refine (HV.out _).mono ?_
    rintro e w1 ⟨rfl, b1⟩
    have HB := Lib.hid (boxed_start b1)
    clear b1
    go_wp2_with fail
    go_ret
    exact ⟨by rw [HF.out]; rfl, HB.out.old⟩
  | true =>
    have hf : r.fmt = itoa r.key ++ 46 :: (itoa r.value ++ 46 :: itoa r.width) := by unfold R.fmt; rw [hok]; rfl
    have HF := Lib.hid hf
    have hk := R.ok_iff.1 hok
    have l0 := dd_small r.key (by omega) (by omega)
    have l1 := dd_small r.value (by omega) (by omega)
    have l2 := dd_small r.width (by omega) (by omega)
    have F0 := Lib.hid fun v hv => ifmt_keep w r r.key v (by omega) (by omega) hv
    have F1 := Lib.hid fun v hv => ifmt_keep w r r.value v (by omega) (by omega) hv
    have F2 := Lib.hid fun v hv => ifmt_keep w r r.width v (by omega) (by omega) hv
    rw [hok] at HV
    clear hf hok hk
    obtain ⟨a, ha⟩ : ∃ a, a = itoa r.key := ⟨_, rfl⟩
    obtain ⟨b, hb⟩ : ∃ a, a = itoa r.value := ⟨_, rfl⟩
    obtain ⟨c, hc⟩ : ∃ a, a = itoa r.width := ⟨_, rfl⟩
    rw [← ha] at F0 HF l0
    rw [← hb] at F1 HF l1
    rw [← hc] at F2 HF l2
    clear ha hb hc
    have n0 : ¬ 9223372036854775807 < a.length + 1 := by omega
    have n1 : ¬ 9223372036854775807 < a.length + 1 + b.length := by omega
    have n2 : ¬ 9223372036854775807 < a.length + 1 + b.length + 1 := by omega
    have n3 : ¬ 9223372036854775807 < a.length + 1 + b.length + 1 + c.length := by omega
    unfold R.val at HV ⊢
    go_enter Tryd.func55, Tryd.ntmps55
    go_wp2_with fail
    refine (HV.out _).mono ?_
    rintro e w1 ⟨rfl, b1⟩
    have HB := Lib.hid (boxed_tab b1 HT.out)
    have hb := boxed_start b1
    obtain ⟨c0, c1, c2, _, _⟩ := hb
    clear b1
    go_wp2_with fail
    go_region_held3 (fun v => v.cell? ⟨w.heap.size, 0, none⟩ = some (.int .i64 r.key) ∧ v.cell? ⟨w.heap.size, 1, none⟩ = some (.int .i64 r.value) ∧ v.cell? ⟨w.heap.size, 2, none⟩ = some (.int .i64 r.width) ∧ Hid (BoxedT w r v)) (first | assumption | exact HB.out.facts | exact BoxedT.facts (Hid.out (by assumption))) (first | (go_at_call_of 65 r.key; refine (F0.out _ (And.right (And.right (And.right (by first | assumption | exact HB.out.facts))))).mono ?_; rintro e w' ⟨rfl, b2⟩) | (go_at_call_of 65 r.value; refine (F1.out _ (And.right (And.right (And.right (by first | assumption | exact HB.out.facts))))).mono ?_; rintro e w' ⟨rfl, b2⟩) | (go_at_call_of 65 r.width; refine (F2.out _ (And.right (And.right (And.right (by first | assumption | exact HB.out.facts))))).mono ?_; rintro e w' ⟨rfl, b2⟩))
    have hold := (Hid.out (And.right (And.right (And.right (by assumption : _ ∧ _ ∧ _ ∧ Hid (BoxedT w r w'))))) : BoxedT w r w').1.old
    go_wp2_with fail
    go_ret
    exact ⟨by rw [HF.out, ← fmt_str]; rfl, hold⟩
end Go.Proofs.YtpnbnbhifpcelaaDoor
/- Rows of strings that a call made itself: what one append adds, and what lies there; no function of the program. -/
namespace Go.Proofs.YtpnbnbhifpcelaaDoor
open Go.RowKit
def strs (l : List (List UInt8)) : List Value := l.map fun p => Value.string ⟨p.toArray⟩
theorem strs_get (l : List (List UInt8)) (j : Nat) (hj : j < l.length) : (strs l)[j]? = some (Value.string ⟨l[j].toArray⟩) := by simp [strs, hj]
theorem str_info : (Tryd.prog.info? 9).map (fun i => (i.zero, i.size, i.bytes)) = some (some (.string ByteArray.empty), 1, 16) := by kernel_rfl
theorem piece (s : ByteArray) (a b : Nat) : s.extract a b = ⟨((s.data.toList.take b).drop a).toArray⟩ := by
  apply ByteArray.ext
  apply Array.toList_inj.1
  simp [List.drop_take]
def IsStrs (w : World) (g : Nat) (l : List (List UInt8)) : Prop := (∃ cs fz, w.heap[g]? = some (.cells cs 9 fz)) ∧ ∀ t (h : t < l.length), w.cell? ⟨g, t, none⟩ = some (.string ⟨l[t].toArray⟩)
theorem IsStrs.lt {w : World} {g : Nat} {l : List (List UInt8)} (h : IsStrs w g l) : g < w.heap.size := by
  obtain ⟨⟨cs, fz, h⟩, -⟩ := h
  exact lt_of_block h
theorem IsStrs.same {w w' : World} {g : Nat} {l : List (List UInt8)} (h : IsStrs w g l) (hb : w'.heap[g]? = w.heap[g]?) : IsStrs w' g l :=
  ⟨by obtain ⟨⟨cs, fz, h⟩, -⟩ := h; exact ⟨cs, fz, hb.trans h⟩, fun t ht => (World.cell?_of_block hb).trans (h.2 t ht)⟩
theorem IsStrs.below {w w' : World} {g B : Nat} {l : List (List UInt8)} (h : IsStrs w g l) (hb : Below B w w') (hg : g < B) : IsStrs w' g l := h.same (hb.block g hg)
theorem IsStrs.keep {w w' : World} {g : Nat} {l : List (List UInt8)} (h : IsStrs w g l) (hb : Below w.heap.size w w') : IsStrs w' g l := h.below hb h.lt
theorem IsStrs.other {w : World} {g g' i : Nat} {l : List (List UInt8)} (h : IsStrs w g l) (hne : g ≠ g') (u : Value) : IsStrs (w.setCell ⟨g', i, none⟩ u) g l := h.same (Below.heap_setCell _ _ _ _ (fun e => hne e))
theorem run_make_strs (n : Nat) (hn : n ≤ 1000000000000) (w : World) :
    (Instr.makeSlice 59 (.int .i64 (n : Int)) (.int .i64 (n : Int))).run Tryd.prog w = .ok (.slice (some ⟨w.heap.size, 0, none⟩) n n) (w.alloc (.cells (strs (List.replicate n [])).toArray 9)) := by
  have h := run_make_row' (P := Tryd.prog) 59 9 (.string ByteArray.empty) 16 Tryd.underlying59 str_info rfl .i64 .i64 n (by omega) (by omega) w
  rw [h]
  have e : madeCells #[Value.string ByteArray.empty] n = (strs (List.replicate n [])).toArray := by
    apply Array.toList_inj.1
    rw [toList_madeCells_one]
    simp only [strs, List.map_replicate]
    rfl
  rw [e]
theorem strs_block {w : World} {g : Nat} {M : List (List UInt8)} {t : TypeId} (h : w.heap[g]? = some (.cells (strs M).toArray t (0, 0))) (k : Nat) (hk : k < M.length) : w.cell? ⟨g, k, none⟩ = some (.string ⟨M[k].toArray⟩) ∧ w.frozen? ⟨g, k, none⟩ = false := by
  refine ⟨?_, by simp [World.frozen?, h]⟩
  simp only [World.cell?, h]
  rw [List.getElem?_toArray]
  exact strs_get M k hk
theorem strs_set {w : World} {g : Nat} {M : List (List UInt8)} {t : TypeId} (h : w.heap[g]? = some (.cells (strs M).toArray t (0, 0))) (k : Nat) (x : List UInt8) : (w.setCell ⟨g, k, none⟩ (.string ⟨x.toArray⟩)).heap[g]? = some (.cells (strs (M.set k x)).toArray t (0, 0)) := by
  rw [Joins.block_setCell h (i := k)]
  congr 2
  simp [strs, List.map_set]
theorem set_next' {α : Type} (F : List α) (z : α) (n k : Nat) (x : α) (hk : k < n) (hF : F.length = k) : (F ++ List.replicate (n - k) z).set k x = (F ++ [x]) ++ List.replicate (n - (k + 1)) z := by
  have e : n - k = (n - (k + 1)) + 1 := by omega
  rw [List.set_append_right _ _ (by omega), hF, Nat.sub_self, e, List.replicate_succ, List.set_cons_zero, List.append_assoc]
  rfl
end Go.Proofs.YtpnbnbhifpcelaaDoor
