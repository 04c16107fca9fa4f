/- Texts joined: BrkGr BrkFor BrokerU VGrant ClIn BriI BriA BriV Ord OrdM ClMem VP VY BriC BriO. -/
import Derived.Test.YtfghhjcfmmhacaaPartMd
import Derived.Deep.CutRange
import Derived.Sort.LotA
import Derived.Deep.OwnRows
import Derived.Laws.IdiomCopy
import Derived.Test.YtfghhjcfmmhacaaShelfIns
import Derived.StillTailTactics
set_option linter.unusedSimpArgs false
set_option linter.unusedVariables false
/- The reference's ComputeGrants: told by trees. -/
namespace Go.Proofs.Ytfghhjcfmmhacaa
open Go Go.RowKit V
set_option linter.unusedVariables false
set_option maxRecDepth 100000 in
set_option maxHeartbeats 2000000 in
theorem vgrants_s (b : BrokerD) (hA : b.fActive.length ≤ 1000000000) (hW : b.fWaiting.length ≤ 1000000000) : VC Try.prog 18 [(true, tBroker b)] false [(false, [.seq 3 ((BrokerD.grants b).map tInt)])] := by
  refine VC.enter Try.func18 rfl Try.ntmps18 (gle rfl) fun E hE => ?_
  refine SV.seq' ?_
  refine SV.region ?_
  refine SV.op (OpMk.ok (ok_box (kk := 0) (ag := true) (xs := [.sc _, .sc _, .ro _, .ro _]) rfl rfl rfl (fun h => by cases h) rfl rfl (gle rfl))) rfl ?_
  refine SV.op (OpL.ok (nb := 1) (ok_move (v := V.one (.sc _)) (.inr rfl) rfl) rfl (gle rfl)) rfl ?_
  refine SV.nil ?_
  refine SV.tn ?_
  refine SV.seq' ?_
  refine SV.region ?_
  refine SV.op (OpMk.ok (ok_lit0 (kk := 0) elt_int rfl rfl rfl (gle rfl))) rfl ?_
  refine SV.op (OpL.ok (nb := 1) (ok_move (v := V.one (.hd 0)) (.inr rfl) rfl) rfl (gle rfl)) rfl ?_
  refine SV.nil ?_
  refine SV.tn ?_
  refine SV.seq' ?_
  refine SV.seq' ?_
  refine SV.region ?_
  refine SV.op (OpL.ok (nb := 1) (ok_load_bp (b := 0) (i := 0) (ag := true) (m := 4) (ys := [.sc _, .sc _, .ro _, .ro _]) rfl rfl rfl agg_impl_Broker sz_impl_Broker (fun h => by cases h) rfl rfl (gle rfl)) rfl (gle rfl)) rfl ?_
  refine SV.op (OpMk.ok (ok_call (ls := [(false, [.sc _])]) rfl rfl ⟨_, _, Try.func20, rfl, by decide⟩ (vokb_s b (by omega) (by omega)) ⟨⟨[.sc _, .sc _, .ro _, .ro _], rfl, ⟨rfl, rfl, rfl, rfl, trivial⟩⟩, trivial⟩ rfl (gle rfl))) rfl ?_
  refine SV.op (OpL.ok (nb := 1) (ok_s1 (x := .tmp 11) (VScal.one rfl) (fun ρ h1 w => by go_simp; (try go_bits); with_reducible rfl) rfl) rfl (gle rfl)) rfl ?_
  refine SV.nil ?_
  refine SV.tn ?_
  refine SV.cond rfl (fun hc0 => ?_) (fun hc0 => ?_)
  · skip   -- c0.T
    have hok : BrokerD.ok b = false := by simpa using hc0
    have ho := BrokerD.grants_bad hok
    refine SV.seq' ?_
    refine SV.region ?_
    refine SV.op (OpL.ok (nb := 1) (ok_move (v := V.one (.hd 0)) (.inl rfl) rfl) rfl (gle rfl)) rfl ?_
    refine SV.op (OpL.ok (nb := 1) (ok_move (v := V.one (.hd 0)) (.inr rfl) rfl) rfl (gle rfl)) rfl ?_
    refine SV.nil ?_
    refine SV.tn ?_
    refine SV.ret ?_
    refine SV.tr ?_
    apply SV.done (hf := Try.results18) (ht := rfl) (he := .inl rfl)
    case hr => exact (ResAll.cons (ResOk.tmp (ag := false) (xs := [.hd 0]) rfl) ResAll.nil')
    case h2 => simp [two]
    refine ⟨rfl, ⟨?_, trivial⟩, trivial⟩ <;> first | rfl | (rw [ho]; rfl) | ((show some (T.seq _ _) = some (T.seq _ _); refine congrArg (fun z => some (T.seq _ z)) ?_; rw [ho]; first | done | rfl | (simp [tClient]; done) | (simp [List.map_set, tClient]; done))) | ((show some (T.lit (Value.int .i64 _)) = some (T.lit (Value.int .i64 _)); refine congrArg (fun z => some (T.lit (Value.int .i64 z))) ?_; rw [ho]; first | done | rfl)) | ((show some (T.lit (Value.bool _)) = some (T.lit (Value.bool _)); refine congrArg (fun z => some (T.lit (Value.bool z))) ?_; rw [ho]; first | done | rfl | (simp; done)))
  · skip   -- c0.F
    have hok : BrokerD.ok b = true := by simpa using hc0
    have hO := BrokerD.Ok.of hok
    have hN := (BrokerD.okN_iff b).1 hO.num
    have hroom := BrokerD.room_le hN.1.1
    have hr0 := hO.spare
    have hra : BrokerD.rest b + 8 * (b.fActive.length : Int) ≤ b.fPool := by unfold BrokerD.rest; omega
    have hrb : b.fPool ≤ BrokerD.rest b + 8 * (b.fActive.length : Int) := by unfold BrokerD.rest; omega
    refine SV.skip ?_
    refine SV.tn ?_
    refine SV.seq' ?_
    refine SV.region ?_
    refine SV.op (OpL.ok (nb := 1) (ok_field_bp (b := 0) (o' := 0) (off := 0) rfl rfl fld_impl_Broker_0) rfl (gle rfl)) rfl ?_
    refine SV.op (OpL.ok (nb := 1) (ok_load_bp (b := 0) (i := 0) (ag := false) (m := 1) (ys := [.sc _]) rfl rfl rfl agg_int sz_int (fun _ => rfl) rfl rfl (gle rfl)) rfl (gle rfl)) rfl ?_
    refine SV.op (OpL.ok (nb := 1) (ok_move (v := V.one (.sc _)) (.inr rfl) rfl) rfl (gle rfl)) rfl ?_
    refine SV.nil ?_
    refine SV.tn ?_
    refine SV.seq' ?_
    refine SV.seq' ?_
    refine SV.region ?_
    refine SV.op (OpL.ok (nb := 1) (ok_move (v := V.one (.sc _)) (.inr rfl) rfl) rfl (gle rfl)) rfl ?_
    refine SV.nil ?_
    refine SV.tn ?_
    refine SV.block ?_
    refine SV.loopF (X := Nat) (fun (σ : VS) t => (((((((VS.nil.new (.seq 3 ((List.replicate t (8 : Int)).map tInt))).box 26 [σ.bl 0 0, σ.bl 0 1, σ.bl 0 2, σ.bl 0 3]).put 1 (V.flat false [.bp 0 0])).put 2 (σ.tm 2)).put 3 (V.flat false [.hd 0])).put 4 (V.flat false [.sc (.int .i64 (b.fPool - 8 * (t : Int)))])).put 5 (V.flat false [.sc (.int .i64 ((t : Int)))]))) (fun t => t ≤ b.fActive.length) (fun t => b.fActive.length - t) ?_ ?_
    · skip
      refine SV.again (fun i => [0].getD i 0) 0 ((by first | exact Nat.zero_le _ | (refine ⟨Nat.zero_le _, ?_⟩; simp; done) | (simp; done) | omega)) (pins hE rfl rfl) (VS.le.mk' (le_put (le_put (le_put (le_put (le_put (le_box (le_new le_nil)) (V.le.keep (ag := false) (xs := [.bp 0 0]) (ys := [.bp 0 0]) rfl rfl ⟨⟨rfl, (gle rfl)⟩, trivial⟩)) (V.le.keep (ag := false) (xs := [.sc _]) (ys := [.sc _]) rfl rfl ⟨rfl, trivial⟩)) (V.le.keep (ag := false) (xs := [.hd 0]) (ys := [.hd 0]) rfl rfl ⟨⟨rfl, (gle rfl), (gle rfl)⟩, trivial⟩)) (V.le.keep (ag := false) (xs := [.sc _]) (ys := [.sc _]) rfl rfl ⟨(by first | rfl | (show Leaf.sc _ = Leaf.sc _; refine congrArg Leaf.sc ?_; first | rfl | go_num | (simp [cntAll]; done)) | (simp [cntAll]; done) | (simp; omega)), trivial⟩)) (V.le.keep (ag := false) (xs := [.sc _]) (ys := [.sc _]) rfl rfl ⟨(by first | rfl | (show Leaf.sc _ = Leaf.sc _; refine congrArg Leaf.sc ?_; first | rfl | go_num | (simp [cntAll]; done)) | (simp [cntAll]; done) | (simp; omega)), trivial⟩)) ⟨⟨rfl, ⟨rfl, rfl, rfl, rfl, trivial⟩⟩, trivial⟩ ⟨.inr ⟨_, _, rfl, ?ob1_0, (gle rfl)⟩, trivial⟩ (new_ob nil_ob) (fun i j hi hj e => inj_list (l := [0]) (by decide) i j hi hj e))
      case ob1_0 =>
        show some (T.seq _ _) = some (T.seq _ _)
        rfl
    · rintro t ht
      refine SV.seq' ?_
      refine SV.seq' ?_
      refine SV.region ?_
      refine SV.op (OpL.ok (nb := 1) (ok_move (v := V.one (.sc _)) (.inl rfl) rfl) rfl (gle rfl)) rfl ?_
      refine SV.op (OpL.ok (nb := 1) (ok_field_bp (b := 0) (o' := 0) (off := 2) rfl rfl fld_impl_Broker_2) rfl (gle rfl)) rfl ?_
      refine SV.op (OpL.ok (nb := 1) (ok_load_bp (b := 0) (i := 2) (ag := false) (m := 1) (ys := [.ro _]) rfl rfl rfl agg_s_impl_Client sz_s_impl_Client (fun _ => rfl) rfl rfl (gle rfl)) rfl (gle rfl)) rfl ?_
      refine SV.op (OpL.ok (nb := 1) (ok_len (lf := .ro _) rfl elt_impl_Client.und rfl rfl) rfl (gle rfl)) rfl ?_
      refine SV.op (OpL.ok (nb := 1) (ok_s2 (x := .tmp 16) (x' := .tmp 19) (VScal.one rfl) (VScal.one rfl) (fun ρ h1 h2 w => by go_simp; (try go_bits); with_reducible rfl) rfl) rfl (gle rfl)) rfl ?_
      refine SV.nil ?_
      refine SV.tn ?_
      refine SV.cond rfl (fun hc1 => ?_) (fun hc1 => ?_)
      · skip   -- c1.T
        have htl : t < b.fActive.length := by simpa using hc1
        refine SV.skip ?_
        refine SV.tn ?_
        refine SV.seq' ?_
        refine SV.block ?_
        refine SV.seq' ?_
        refine SV.region ?_
        refine SV.op (OpL.ok (nb := 1) (ok_move (v := V.one (.hd 0)) (.inl rfl) rfl) rfl (gle rfl)) rfl ?_
        refine SV.op (OpMk.ok (ok_lit1 (kk := 1) elt_int (ag := false) (xs := [.sc _]) rfl rfl rfl rfl (fun _ => rfl) (outs_c rfl outs_n) (by simp [two]) rfl (gle rfl))) rfl ?_
        refine SV.op (OpMk.ok (ok_append (kk := 2) elt_int (ls := .hd 0) (lx := .hd 1) rfl rfl rfl rfl rfl rfl (by intro i h1 h2; first | (cases h1; done) | (cases h1; cases h2)) (by first | omega | (simp only [List.length_map]; omega) | (simp; done) | (simp; omega)) rfl (gle rfl))) rfl ?_
        refine SV.op (OpL.ok (nb := 1) (ok_move (v := V.one (.hd 2)) (.inr rfl) rfl) rfl (gle rfl)) rfl ?_
        refine SV.nil ?_
        refine SV.tn ?_
        refine SV.region ?_
        refine SV.op (OpL.ok (nb := 1) (ok_move (v := V.one (.sc _)) (.inl rfl) rfl) rfl (gle rfl)) rfl ?_
        refine SV.op (OpL.ok (nb := 1) (ok_s2 (v := .int .i64 (b.fPool - 8 * ((t + 1 : Nat) : Int))) (x := .tmp 26) (x' := .const ((Value.int IntKind.i64 8))) (VScal.one rfl) (VScal.one rfl) (fun ρ h1 h2 w => by go_simp; rw [IntWalk.i64_left, IntWalk.wrap64_in _ ⟨by omega, by omega⟩]; first | omega | (congr 1; omega)) rfl) rfl (gle rfl)) rfl ?_
        refine SV.op (OpL.ok (nb := 1) (ok_move (v := V.one (.sc _)) (.inr rfl) rfl) rfl (gle rfl)) rfl ?_
        refine SV.nil ?_
        refine SV.bn ?_
        refine SV.tn ?_
        refine SV.region ?_
        refine SV.op (OpL.ok (nb := 1) (ok_move (v := V.one (.sc _)) (.inl rfl) rfl) rfl (gle rfl)) rfl ?_
        refine SV.op (OpL.ok (nb := 1) (ok_s2 (x := .tmp 21) (x' := .const ((Value.int IntKind.i64 1))) (VScal.one rfl) (VScal.one rfl) (fun ρ h1 h2 w => by go_simp; (try go_bits); with_reducible rfl) rfl) rfl (gle rfl)) rfl ?_
        refine SV.op (OpL.ok (nb := 1) (ok_move (v := V.one (.sc _)) (.inr rfl) rfl) rfl (gle rfl)) rfl ?_
        refine SV.nil ?_
        refine SV.tn ?_
        refine SV.again (fun i => [2].getD i 0) (t + 1) (⟨by omega, by omega⟩) (pins hE rfl rfl) (VS.le.mk' (le_put (le_put (le_put (le_put (le_put (le_box (le_new le_nil)) (V.le.keep (ag := false) (xs := [.bp 0 0]) (ys := [.bp 0 0]) rfl rfl ⟨⟨rfl, (gle rfl)⟩, trivial⟩)) (V.le.keep (ag := false) (xs := [.sc _]) (ys := [.sc _]) rfl rfl ⟨rfl, trivial⟩)) (V.le.keep (ag := false) (xs := [.hd 2]) (ys := [.hd 0]) rfl rfl ⟨⟨rfl, (gle rfl), (gle rfl)⟩, trivial⟩)) (V.le.keep (ag := false) (xs := [.sc _]) (ys := [.sc _]) rfl rfl ⟨(by first | rfl | (show Leaf.sc _ = Leaf.sc _; refine congrArg Leaf.sc ?_; first | rfl | go_num | (simp [cntAll]; done)) | (simp [cntAll]; done) | (simp; omega)), trivial⟩)) (V.le.keep (ag := false) (xs := [.sc _]) (ys := [.sc _]) rfl rfl ⟨(by first | rfl | (show Leaf.sc _ = Leaf.sc _; refine congrArg Leaf.sc ?_; first | rfl | go_num | (simp [cntAll]; done)) | (simp [cntAll]; done) | (simp; omega)), trivial⟩)) ⟨⟨rfl, ⟨rfl, rfl, rfl, rfl, trivial⟩⟩, trivial⟩ ⟨.inr ⟨_, _, rfl, ?ob2_0, (gle rfl)⟩, trivial⟩ (new_ob nil_ob) (fun i j hi hj e => inj_list (l := [2]) (by decide) i j hi hj e))
        case ob2_0 =>
          show some (T.seq _ _) = some (T.seq _ _)
          rw [List.replicate_succ', List.map_append]; rfl
      · skip   -- c1.F
        have hte : ¬ t < b.fActive.length := by simpa using hc1
        have hstart : (List.replicate t (8 : Int)).map tInt = (BrokerD.grantsT (BrokerD.rest b) b.fActive (9 - ((0 : Nat) : Int)) 0).map tInt := by rw [show (9 : Int) - ((0 : Nat) : Int) = 9 from rfl, ← BrokerD.grantsT_start hO.act, show t = b.fActive.length by omega]
        have hleft0 : b.fPool - 8 * (t : Int) = BrokerD.leftT (BrokerD.rest b) b.fActive (9 - ((0 : Nat) : Int)) 0 := by rw [show (9 : Int) - ((0 : Nat) : Int) = 9 from rfl, BrokerD.leftT_start hO.act hr0]; omega
        refine SV.exit ?_
        refine SV.te ?_
        refine SV.te ?_
        refine SV.bh ?_
        refine SV.tn ?_
        refine SV.seq' ?_
        refine SV.seq' ?_
        refine SV.region ?_
        refine SV.op (OpL.ok (nb := 1) (ok_move (v := V.one (.sc _)) (.inr rfl) rfl) rfl (gle rfl)) rfl ?_
        refine SV.nil ?_
        refine SV.tn ?_
        refine SV.block ?_
        refine SV.loopF (X := Nat) (fun (σ : VS) k => (((((((VS.nil.new (.seq 3 ((BrokerD.grantsT (BrokerD.rest b) b.fActive (9 - (k : Int)) 0).map tInt))).box 26 [σ.bl 0 0, σ.bl 0 1, σ.bl 0 2, σ.bl 0 3]).put 1 (V.flat false [.bp 0 0])).put 2 (σ.tm 2)).put 3 (V.flat false [.hd 0])).put 4 (V.flat false [.sc (.int .i64 (BrokerD.leftT (BrokerD.rest b) b.fActive (9 - (k : Int)) 0))])).put 6 (V.flat false [.sc (.int .i64 (9 - (k : Int)))]))) (fun k => k ≤ 10) (fun k => 10 - k) ?_ ?_
        · skip
          refine SV.again (fun i => [0].getD i 0) 0 ((by omega)) (pins hE rfl rfl) (VS.le.mk' (le_put (le_put (le_put (le_put (le_put (le_box (le_new le_nil)) (V.le.keep (ag := false) (xs := [.bp 0 0]) (ys := [.bp 0 0]) rfl rfl ⟨⟨rfl, (gle rfl)⟩, trivial⟩)) (V.le.keep (ag := false) (xs := [.sc _]) (ys := [.sc _]) rfl rfl ⟨rfl, trivial⟩)) (V.le.keep (ag := false) (xs := [.hd 0]) (ys := [.hd 0]) rfl rfl ⟨⟨rfl, (gle rfl), (gle rfl)⟩, trivial⟩)) (V.le.keep (ag := false) (xs := [.sc _]) (ys := [.sc _]) rfl rfl ⟨(by first | rfl | (show Leaf.sc _ = Leaf.sc _; refine congrArg Leaf.sc ?_; first | rfl | go_num | (first | (rw [hleft0]; done) | (rw [hleft]; done) | omega; first | done | rfl | go_num | (simp; done) | (simp; omega)) | (simp [cntAll]; done)) | (simp [cntAll]; done) | (simp; omega)), trivial⟩)) (V.le.keep (ag := false) (xs := [.sc _]) (ys := [.sc _]) rfl rfl ⟨(by first | rfl | (show Leaf.sc _ = Leaf.sc _; refine congrArg Leaf.sc ?_; first | rfl | go_num | (first | (rw [hleft0]; done) | (rw [hleft]; done) | omega; first | done | rfl | go_num | (simp; done) | (simp; omega)) | (simp [cntAll]; done)) | (simp [cntAll]; done) | (simp; omega)), trivial⟩)) ⟨⟨rfl, ⟨rfl, rfl, rfl, rfl, trivial⟩⟩, trivial⟩ ⟨.inr ⟨_, _, rfl, ?ob3_0, (gle rfl)⟩, trivial⟩ (new_ob nil_ob) (fun i j hi hj e => inj_list (l := [0]) (by decide) i j hi hj e))
          case ob3_0 =>
            show some (T.seq _ _) = some (T.seq _ _)
            exact congrArg (fun z => some (T.seq _ z)) hstart
        · rintro k hk
          refine SV.seq' ?_
          refine SV.seq' ?_
          refine SV.region ?_
          refine SV.op (OpL.ok (nb := 1) (ok_move (v := V.one (.sc _)) (.inl rfl) rfl) rfl (gle rfl)) rfl ?_
          refine SV.op (OpL.ok (nb := 1) (ok_s2 (x := .tmp 28) (x' := .const ((Value.int IntKind.i64 0))) (VScal.one rfl) (VScal.one rfl) (fun ρ h1 h2 w => by go_simp; (try go_bits); with_reducible rfl) rfl) rfl (gle rfl)) rfl ?_
          refine SV.nil ?_
          refine SV.tn ?_
          refine SV.cond rfl (fun hc2 => ?_) (fun hc2 => ?_)
          · skip   -- c2.T
            have hk9 : k ≤ 9 := by simp at hc2; omega
            refine SV.skip ?_
            refine SV.tn ?_
            refine SV.seq' ?_
            refine SV.block ?_
            refine SV.seq' ?_
            refine SV.region ?_
            refine SV.op (OpL.ok (nb := 1) (ok_move (v := V.one (.sc _)) (.inr rfl) rfl) rfl (gle rfl)) rfl ?_
            refine SV.nil ?_
            refine SV.tn ?_
            refine SV.block ?_
            refine SV.loopF (X := Nat) (fun (σ : VS) t => ((((((((VS.nil.new (.seq 3 ((BrokerD.grantsT (BrokerD.rest b) b.fActive (9 - (k : Int)) t).map tInt))).box 26 [σ.bl 0 0, σ.bl 0 1, σ.bl 0 2, σ.bl 0 3]).put 1 (V.flat false [.bp 0 0])).put 2 (σ.tm 2)).put 3 (V.flat false [.hd 0])).put 4 (V.flat false [.sc (.int .i64 (BrokerD.leftT (BrokerD.rest b) b.fActive (9 - (k : Int)) t))])).put 6 (V.flat false [.sc (.int .i64 (9 - (k : Int)))])).put 7 (V.flat false [.sc (.int .i64 ((t : Int)))]))) (fun t => t ≤ b.fActive.length) (fun t => b.fActive.length - t) ?_ ?_
            · skip
              refine SV.again (fun i => [0].getD i 0) 0 ((by first | exact Nat.zero_le _ | (refine ⟨Nat.zero_le _, ?_⟩; simp; done) | (simp; done) | omega)) (pins hE rfl rfl) (VS.le.mk' (le_put (le_put (le_put (le_put (le_put (le_put (le_box (le_new le_nil)) (V.le.keep (ag := false) (xs := [.bp 0 0]) (ys := [.bp 0 0]) rfl rfl ⟨⟨rfl, (gle rfl)⟩, trivial⟩)) (V.le.keep (ag := false) (xs := [.sc _]) (ys := [.sc _]) rfl rfl ⟨rfl, trivial⟩)) (V.le.keep (ag := false) (xs := [.hd 0]) (ys := [.hd 0]) rfl rfl ⟨⟨rfl, (gle rfl), (gle rfl)⟩, trivial⟩)) (V.le.keep (ag := false) (xs := [.sc _]) (ys := [.sc _]) rfl rfl ⟨(by first | rfl | (show Leaf.sc _ = Leaf.sc _; refine congrArg Leaf.sc ?_; first | rfl | go_num | (first | (rw [hln]; done) | omega; first | done | rfl | go_num | (simp; done) | (simp; omega)) | (simp [cntAll]; done)) | (simp [cntAll]; done) | (simp; omega)), trivial⟩)) (V.le.keep (ag := false) (xs := [.sc _]) (ys := [.sc _]) rfl rfl ⟨(by first | rfl | (show Leaf.sc _ = Leaf.sc _; refine congrArg Leaf.sc ?_; first | rfl | go_num | (first | (rw [hln]; done) | omega; first | done | rfl | go_num | (simp; done) | (simp; omega)) | (simp [cntAll]; done)) | (simp [cntAll]; done) | (simp; omega)), trivial⟩)) (V.le.keep (ag := false) (xs := [.sc _]) (ys := [.sc _]) rfl rfl ⟨(by first | rfl | (show Leaf.sc _ = Leaf.sc _; refine congrArg Leaf.sc ?_; first | rfl | go_num | (first | (rw [hln]; done) | omega; first | done | rfl | go_num | (simp; done) | (simp; omega)) | (simp [cntAll]; done)) | (simp [cntAll]; done) | (simp; omega)), trivial⟩)) ⟨⟨rfl, ⟨rfl, rfl, rfl, rfl, trivial⟩⟩, trivial⟩ ⟨.inr ⟨_, _, rfl, ?ob4_0, (gle rfl)⟩, trivial⟩ (new_ob nil_ob) (fun i j hi hj e => inj_list (l := [0]) (by decide) i j hi hj e))
              case ob4_0 =>
                show some (T.seq _ _) = some (T.seq _ _)
                rfl
            · rintro t ht
              refine SV.seq' ?_
              refine SV.seq' ?_
              refine SV.region ?_
              refine SV.op (OpL.ok (nb := 1) (ok_move (v := V.one (.sc _)) (.inl rfl) rfl) rfl (gle rfl)) rfl ?_
              refine SV.op (OpL.ok (nb := 1) (ok_field_bp (b := 0) (o' := 0) (off := 2) rfl rfl fld_impl_Broker_2) rfl (gle rfl)) rfl ?_
              refine SV.op (OpL.ok (nb := 1) (ok_load_bp (b := 0) (i := 2) (ag := false) (m := 1) (ys := [.ro _]) rfl rfl rfl agg_s_impl_Client sz_s_impl_Client (fun _ => rfl) rfl rfl (gle rfl)) rfl (gle rfl)) rfl ?_
              refine SV.op (OpL.ok (nb := 1) (ok_len (lf := .ro _) rfl elt_impl_Client.und rfl rfl) rfl (gle rfl)) rfl ?_
              refine SV.op (OpL.ok (nb := 1) (ok_s2 (x := .tmp 32) (x' := .tmp 35) (VScal.one rfl) (VScal.one rfl) (fun ρ h1 h2 w => by go_simp; (try go_bits); with_reducible rfl) rfl) rfl (gle rfl)) rfl ?_
              refine SV.nil ?_
              refine SV.tn ?_
              refine SV.cond rfl (fun hc3 => ?_) (fun hc3 => ?_)
              · skip   -- c3.T
                have htl : t < b.fActive.length := by simpa using hc3
                obtain ⟨c, hx⟩ : ∃ c, b.fActive[t]? = some c := ⟨_, List.getElem?_eq_getElem htl⟩
                obtain ⟨hnd, hpr⟩ := BrokerD.need_at hx
                have hlr := BrokerD.leftT_range hO.act hr0 (9 - (k : Int)) t
                have hcr := (BrokerD.okC_iff _ c).1 (hO.act.each c (List.mem_of_getElem? hx))
                refine SV.skip ?_
                refine SV.tn ?_
                refine SV.seq' ?_
                refine SV.block ?_
                refine SV.seq' ?_
                refine SV.region ?_
                refine SV.op (OpL.ok (nb := 1) (ok_field_bp (b := 0) (o' := 0) (off := 2) rfl rfl fld_impl_Broker_2) rfl (gle rfl)) rfl ?_
                refine SV.op (OpL.ok (nb := 1) (ok_load_bp (b := 0) (i := 2) (ag := false) (m := 1) (ys := [.ro _]) rfl rfl rfl agg_s_impl_Client sz_s_impl_Client (fun _ => rfl) rfl rfl (gle rfl)) rfl (gle rfl)) rfl ?_
                refine SV.op (OpL.ok (nb := 1) (ok_move (v := V.one (.sc _)) (.inl rfl) rfl) rfl (gle rfl)) rfl ?_
                refine SV.op (OpL.ok (nb := 1) (ok_index (n := 3) (lf := .ro _) rfl elt_impl_Client.und sz_impl_Client rfl rfl rfl (map_at hx)) rfl (gle rfl)) rfl ?_
                refine SV.op (OpL.ok (nb := 1) (ok_field_el (p := .rp _) (off := 2) rfl rfl rfl fld_impl_Client_2) rfl (gle rfl)) rfl ?_
                refine SV.op (OpL.ok (nb := 1) (ok_load_rp (ag := false) (m := 1) (ys := [.sc _]) rfl rfl agg_int sz_int (fun _ => rfl) (gle rfl) rfl) rfl (gle rfl)) rfl ?_
                refine SV.op (OpL.ok (nb := 1) (ok_move (v := V.one (.sc _)) (.inl rfl) rfl) rfl (gle rfl)) rfl ?_
                refine SV.op (OpL.ok (nb := 1) (ok_s2 (x := .tmp 44) (x' := .tmp 45) (VScal.one rfl) (VScal.one rfl) (fun ρ h1 h2 w => by go_simp; (try go_bits); with_reducible rfl) rfl) rfl (gle rfl)) rfl ?_
                refine SV.nil ?_
                refine SV.tn ?_
                refine SV.cond rfl (fun hc4 => ?_) (fun hc4 => ?_)
                · skip   -- c4.T
                  have hpt : BrokerD.prio b.fActive t = 9 - (k : Int) := by rw [hpr]; simpa using hc4
                  have hg8 := BrokerD.grantsT_at (r := (BrokerD.rest b)) htl hpt
                  have hln : BrokerD.leftT (BrokerD.rest b) b.fActive (9 - (k : Int)) (t + 1) = BrokerD.leftT (BrokerD.rest b) b.fActive (9 - (k : Int)) t - min (BrokerD.leftT (BrokerD.rest b) b.fActive (9 - (k : Int)) t) (c.fRequested - 8) := by rw [(BrokerD.left_take hO.act htl hpt).1, hnd]
                  have hgn0 := BrokerD.grantsT_take (r := (BrokerD.rest b)) hO.act htl hpt
                  rw [hnd] at hgn0
                  refine SV.seq' ?_
                  refine SV.region ?_
                  refine SV.op (OpL.ok (nb := 1) (ok_move (v := V.one (.sc _)) (.inl rfl) rfl) rfl (gle rfl)) rfl ?_
                  refine SV.op (OpL.ok (nb := 1) (ok_field_bp (b := 0) (o' := 0) (off := 2) rfl rfl fld_impl_Broker_2) rfl (gle rfl)) rfl ?_
                  refine SV.op (OpL.ok (nb := 1) (ok_load_bp (b := 0) (i := 2) (ag := false) (m := 1) (ys := [.ro _]) rfl rfl rfl agg_s_impl_Client sz_s_impl_Client (fun _ => rfl) rfl rfl (gle rfl)) rfl (gle rfl)) rfl ?_
                  refine SV.op (OpL.ok (nb := 1) (ok_move (v := V.one (.sc _)) (.inl rfl) rfl) rfl (gle rfl)) rfl ?_
                  refine SV.op (OpL.ok (nb := 1) (ok_index (n := 3) (lf := .ro _) rfl elt_impl_Client.und sz_impl_Client rfl rfl rfl (map_at hx)) rfl (gle rfl)) rfl ?_
                  refine SV.op (OpL.ok (nb := 1) (ok_field_el (p := .rp _) (off := 1) rfl rfl rfl fld_impl_Client_1) rfl (gle rfl)) rfl ?_
                  refine SV.op (OpL.ok (nb := 1) (ok_load_rp (ag := false) (m := 1) (ys := [.sc _]) rfl rfl agg_int sz_int (fun _ => rfl) (gle rfl) rfl) rfl (gle rfl)) rfl ?_
                  refine SV.op (OpL.ok (nb := 1) (ok_s2 (v := .int .i64 (c.fRequested - 8)) (x := .tmp 53) (x' := .const ((Value.int IntKind.i64 8))) (VScal.one rfl) (VScal.one rfl) (fun ρ h1 h2 w => by go_simp; rw [IntWalk.i64_left, IntWalk.wrap64_in _ ⟨by omega, by omega⟩]) rfl) rfl (gle rfl)) rfl ?_
                  refine SV.op (OpL.ok (nb := 1) (ok_s2 (x := .tmp 47) (x' := .tmp 54) (VScal.one rfl) (VScal.one rfl) (fun ρ h1 h2 w => by go_simp; (try go_bits); with_reducible rfl) rfl) rfl (gle rfl)) rfl ?_
                  refine SV.op (OpL.ok (nb := 1) (ok_move (v := V.one (.sc _)) (.inr rfl) rfl) rfl (gle rfl)) rfl ?_
                  refine SV.nil ?_
                  refine SV.tn ?_
                  refine SV.seq' ?_
                  refine SV.region ?_
                  refine SV.op (OpL.ok (nb := 1) (ok_move (v := V.one (.hd 0)) (.inl rfl) rfl) rfl (gle rfl)) rfl ?_
                  refine SV.op (OpL.ok (nb := 1) (ok_move (v := V.one (.sc _)) (.inl rfl) rfl) rfl (gle rfl)) rfl ?_
                  refine SV.op (OpL.ok (nb := 1) (ok_move (v := V.one (.hd 0)) (.inl rfl) rfl) rfl (gle rfl)) rfl ?_
                  refine SV.op (OpL.ok (nb := 1) (ok_move (v := V.one (.sc _)) (.inl rfl) rfl) rfl (gle rfl)) rfl ?_
                  refine SV.op (OpL.ok (nb := 1) (ok_index (n := 1) (lf := .hd 0) rfl elt_int.und sz_int rfl rfl rfl (map_at hg8)) rfl (gle rfl)) rfl ?_
                  refine SV.op (ok_load_el (p := .ep 0 _ _ _) (ag := false) (m := 1) (ys := [.sc _]) rfl rfl (cells_ep rfl (map_at hg8) rfl rfl) agg_int sz_int (fun _ => rfl) (gle rfl) rfl rfl (gle rfl)) rfl ?_
                  refine SV.op (OpL.ok (nb := 1) (ok_move (v := V.one (.sc _)) (.inl rfl) rfl) rfl (gle rfl)) rfl ?_
                  refine SV.op (OpL.ok (nb := 1) (ok_s2 (v := .int .i64 (8 + min (BrokerD.leftT (BrokerD.rest b) b.fActive (9 - (k : Int)) t) (c.fRequested - 8))) (x := .tmp 61) (x' := .tmp 62) (VScal.one rfl) (VScal.one rfl) (fun ρ h1 h2 w => by go_simp; rw [IntWalk.i64_left, IntWalk.wrap64_in _ ⟨by omega, by omega⟩]; (try omega)) rfl) rfl (gle rfl)) rfl ?_
                  refine SV.op (OpL.ok (nb := 1) (ok_index (n := 1) (lf := .hd 0) rfl elt_int.und sz_int rfl rfl rfl (map_at hg8)) rfl (gle rfl)) rfl ?_
                  refine SV.op (ok_store_ep (i := 0) (n := 1) (m := 1) (ag := false) (zs := [.sc _]) rfl rfl rfl rfl (map_at hg8) sz_int (fun _ => rfl) rfl sz_int (gle rfl) (outs_c rfl outs_n) (by simp [two]) rfl rfl rfl) rfl ?_
                  refine SV.nil ?_
                  refine SV.tn ?_
                  refine SV.region ?_
                  refine SV.op (OpL.ok (nb := 1) (ok_move (v := V.one (.sc _)) (.inl rfl) rfl) rfl (gle rfl)) rfl ?_
                  refine SV.op (OpL.ok (nb := 1) (ok_move (v := V.one (.sc _)) (.inl rfl) rfl) rfl (gle rfl)) rfl ?_
                  refine SV.op (OpL.ok (nb := 1) (ok_s2 (v := .int .i64 (BrokerD.leftT (BrokerD.rest b) b.fActive (9 - (k : Int)) t - min (BrokerD.leftT (BrokerD.rest b) b.fActive (9 - (k : Int)) t) (c.fRequested - 8))) (x := .tmp 65) (x' := .tmp 66) (VScal.one rfl) (VScal.one rfl) (fun ρ h1 h2 w => by go_simp; rw [IntWalk.i64_left, IntWalk.wrap64_in _ ⟨by omega, by omega⟩]; (try omega)) rfl) rfl (gle rfl)) rfl ?_
                  refine SV.op (OpL.ok (nb := 1) (ok_move (v := V.one (.sc _)) (.inr rfl) rfl) rfl (gle rfl)) rfl ?_
                  refine SV.nil ?_
                  refine SV.bn ?_
                  refine SV.tn ?_
                  refine SV.region ?_
                  refine SV.op (OpL.ok (nb := 1) (ok_move (v := V.one (.sc _)) (.inl rfl) rfl) rfl (gle rfl)) rfl ?_
                  refine SV.op (OpL.ok (nb := 1) (ok_s2 (x := .tmp 37) (x' := .const ((Value.int IntKind.i64 1))) (VScal.one rfl) (VScal.one rfl) (fun ρ h1 h2 w => by go_simp; (try go_bits); with_reducible rfl) rfl) rfl (gle rfl)) rfl ?_
                  refine SV.op (OpL.ok (nb := 1) (ok_move (v := V.one (.sc _)) (.inr rfl) rfl) rfl (gle rfl)) rfl ?_
                  refine SV.nil ?_
                  refine SV.tn ?_
                  refine SV.again (fun i => [0].getD i 0) (t + 1) (⟨by omega, by omega⟩) (pins hE rfl rfl) (VS.le.mk' (le_put (le_put (le_put (le_put (le_put (le_put (le_box (le_new le_nil)) (V.le.keep (ag := false) (xs := [.bp 0 0]) (ys := [.bp 0 0]) rfl rfl ⟨⟨rfl, (gle rfl)⟩, trivial⟩)) (V.le.keep (ag := false) (xs := [.sc _]) (ys := [.sc _]) rfl rfl ⟨rfl, trivial⟩)) (V.le.keep (ag := false) (xs := [.hd 0]) (ys := [.hd 0]) rfl rfl ⟨⟨rfl, (gle rfl), (gle rfl)⟩, trivial⟩)) (V.le.keep (ag := false) (xs := [.sc _]) (ys := [.sc _]) rfl rfl ⟨(by first | rfl | (show Leaf.sc _ = Leaf.sc _; refine congrArg Leaf.sc ?_; first | rfl | go_num | (first | (rw [hln]; done) | omega; first | done | rfl | go_num | (simp; done) | (simp; omega)) | (simp [cntAll]; done)) | (simp [cntAll]; done) | (simp; omega)), trivial⟩)) (V.le.keep (ag := false) (xs := [.sc _]) (ys := [.sc _]) rfl rfl ⟨(by first | rfl | (show Leaf.sc _ = Leaf.sc _; refine congrArg Leaf.sc ?_; first | rfl | go_num | (first | (rw [hln]; done) | omega; first | done | rfl | go_num | (simp; done) | (simp; omega)) | (simp [cntAll]; done)) | (simp [cntAll]; done) | (simp; omega)), trivial⟩)) (V.le.keep (ag := false) (xs := [.sc _]) (ys := [.sc _]) rfl rfl ⟨(by first | rfl | (show Leaf.sc _ = Leaf.sc _; refine congrArg Leaf.sc ?_; first | rfl | go_num | (first | (rw [hln]; done) | omega; first | done | rfl | go_num | (simp; done) | (simp; omega)) | (simp [cntAll]; done)) | (simp [cntAll]; done) | (simp; omega)), trivial⟩)) ⟨⟨rfl, ⟨rfl, rfl, rfl, rfl, trivial⟩⟩, trivial⟩ ⟨.inr ⟨_, _, rfl, ?ob5_0, (gle rfl)⟩, trivial⟩ (new_ob nil_ob) (fun i j hi hj e => inj_list (l := [0]) (by decide) i j hi hj e))
                  case ob5_0 =>
                    show some (T.seq _ _) = some (T.seq _ _)
                    first | exact congrArg (fun z => some (T.seq _ z)) hgn | (rw [hgn0, List.map_set]; rfl) | (simp [hgn0, List.map_set, tInt]; done)
                · skip   -- c4.F
                  have hpt : BrokerD.prio b.fActive t ≠ 9 - (k : Int) := by rw [hpr]; simpa using hc4
                  have hln : BrokerD.leftT (BrokerD.rest b) b.fActive (9 - (k : Int)) (t + 1) = BrokerD.leftT (BrokerD.rest b) b.fActive (9 - (k : Int)) t := BrokerD.leftT_skip hpt
                  have hgn : (BrokerD.grantsT (BrokerD.rest b) b.fActive (9 - (k : Int)) t).map tInt = (BrokerD.grantsT (BrokerD.rest b) b.fActive (9 - (k : Int)) (t + 1)).map tInt := by rw [BrokerD.grantsT_skip hpt]
                  refine SV.skip ?_
                  refine SV.bn ?_
                  refine SV.tn ?_
                  refine SV.region ?_
                  refine SV.op (OpL.ok (nb := 1) (ok_move (v := V.one (.sc _)) (.inl rfl) rfl) rfl (gle rfl)) rfl ?_
                  refine SV.op (OpL.ok (nb := 1) (ok_s2 (x := .tmp 37) (x' := .const ((Value.int IntKind.i64 1))) (VScal.one rfl) (VScal.one rfl) (fun ρ h1 h2 w => by go_simp; (try go_bits); with_reducible rfl) rfl) rfl (gle rfl)) rfl ?_
                  refine SV.op (OpL.ok (nb := 1) (ok_move (v := V.one (.sc _)) (.inr rfl) rfl) rfl (gle rfl)) rfl ?_
                  refine SV.nil ?_
                  refine SV.tn ?_
                  refine SV.again (fun i => [0].getD i 0) (t + 1) (⟨by omega, by omega⟩) (pins hE rfl rfl) (VS.le.mk' (le_put (le_put (le_put (le_put (le_put (le_put (le_box (le_new le_nil)) (V.le.keep (ag := false) (xs := [.bp 0 0]) (ys := [.bp 0 0]) rfl rfl ⟨⟨rfl, (gle rfl)⟩, trivial⟩)) (V.le.keep (ag := false) (xs := [.sc _]) (ys := [.sc _]) rfl rfl ⟨rfl, trivial⟩)) (V.le.keep (ag := false) (xs := [.hd 0]) (ys := [.hd 0]) rfl rfl ⟨⟨rfl, (gle rfl), (gle rfl)⟩, trivial⟩)) (V.le.keep (ag := false) (xs := [.sc _]) (ys := [.sc _]) rfl rfl ⟨(by first | rfl | (show Leaf.sc _ = Leaf.sc _; refine congrArg Leaf.sc ?_; first | rfl | go_num | (first | (rw [hln]; done) | omega; first | done | rfl | go_num | (simp; done) | (simp; omega)) | (simp [cntAll]; done)) | (simp [cntAll]; done) | (simp; omega)), trivial⟩)) (V.le.keep (ag := false) (xs := [.sc _]) (ys := [.sc _]) rfl rfl ⟨(by first | rfl | (show Leaf.sc _ = Leaf.sc _; refine congrArg Leaf.sc ?_; first | rfl | go_num | (first | (rw [hln]; done) | omega; first | done | rfl | go_num | (simp; done) | (simp; omega)) | (simp [cntAll]; done)) | (simp [cntAll]; done) | (simp; omega)), trivial⟩)) (V.le.keep (ag := false) (xs := [.sc _]) (ys := [.sc _]) rfl rfl ⟨(by first | rfl | (show Leaf.sc _ = Leaf.sc _; refine congrArg Leaf.sc ?_; first | rfl | go_num | (first | (rw [hln]; done) | omega; first | done | rfl | go_num | (simp; done) | (simp; omega)) | (simp [cntAll]; done)) | (simp [cntAll]; done) | (simp; omega)), trivial⟩)) ⟨⟨rfl, ⟨rfl, rfl, rfl, rfl, trivial⟩⟩, trivial⟩ ⟨.inr ⟨_, _, rfl, ?ob6_0, (gle rfl)⟩, trivial⟩ (new_ob nil_ob) (fun i j hi hj e => inj_list (l := [0]) (by decide) i j hi hj e))
                  case ob6_0 =>
                    show some (T.seq _ _) = some (T.seq _ _)
                    first | exact congrArg (fun z => some (T.seq _ z)) hgn | (rw [hgn0, List.map_set]; rfl) | (simp [hgn0, List.map_set, tInt]; done)
              · skip   -- c3.F
                have hte : t = b.fActive.length := by simp at hc3; omega
                have hnext : (BrokerD.grantsT (BrokerD.rest b) b.fActive (9 - (k : Int)) t).map tInt = (BrokerD.grantsT (BrokerD.rest b) b.fActive (9 - ((k + 1 : Nat) : Int)) 0).map tInt := by rw [hte, BrokerD.grantsT_next, show (9 : Int) - (k : Int) - 1 = 9 - ((k + 1 : Nat) : Int) by omega]
                have hleft : BrokerD.leftT (BrokerD.rest b) b.fActive (9 - (k : Int)) t = BrokerD.leftT (BrokerD.rest b) b.fActive (9 - ((k + 1 : Nat) : Int)) 0 := by rw [hte, BrokerD.leftT_next, show (9 : Int) - (k : Int) - 1 = 9 - ((k + 1 : Nat) : Int) by omega]
                refine SV.exit ?_
                refine SV.te ?_
                refine SV.te ?_
                refine SV.bh ?_
                refine SV.bn ?_
                refine SV.tn ?_
                refine SV.region ?_
                refine SV.op (OpL.ok (nb := 1) (ok_move (v := V.one (.sc _)) (.inl rfl) rfl) rfl (gle rfl)) rfl ?_
                refine SV.op (OpL.ok (nb := 1) (ok_s2 (x := .tmp 30) (x' := .const ((Value.int IntKind.i64 1))) (VScal.one rfl) (VScal.one rfl) (fun ρ h1 h2 w => by go_simp; (try go_bits); with_reducible rfl) rfl) rfl (gle rfl)) rfl ?_
                refine SV.op (OpL.ok (nb := 1) (ok_move (v := V.one (.sc _)) (.inr rfl) rfl) rfl (gle rfl)) rfl ?_
                refine SV.nil ?_
                refine SV.tn ?_
                refine SV.again (fun i => [0].getD i 0) (k + 1) (⟨by omega, by omega⟩) (pins hE rfl rfl) (VS.le.mk' (le_put (le_put (le_put (le_put (le_put (le_box (le_new le_nil)) (V.le.keep (ag := false) (xs := [.bp 0 0]) (ys := [.bp 0 0]) rfl rfl ⟨⟨rfl, (gle rfl)⟩, trivial⟩)) (V.le.keep (ag := false) (xs := [.sc _]) (ys := [.sc _]) rfl rfl ⟨rfl, trivial⟩)) (V.le.keep (ag := false) (xs := [.hd 0]) (ys := [.hd 0]) rfl rfl ⟨⟨rfl, (gle rfl), (gle rfl)⟩, trivial⟩)) (V.le.keep (ag := false) (xs := [.sc _]) (ys := [.sc _]) rfl rfl ⟨(by first | rfl | (show Leaf.sc _ = Leaf.sc _; refine congrArg Leaf.sc ?_; first | rfl | go_num | (first | (rw [hleft0]; done) | (rw [hleft]; done) | omega; first | done | rfl | go_num | (simp; done) | (simp; omega)) | (simp [cntAll]; done)) | (simp [cntAll]; done) | (simp; omega)), trivial⟩)) (V.le.keep (ag := false) (xs := [.sc _]) (ys := [.sc _]) rfl rfl ⟨(by first | rfl | (show Leaf.sc _ = Leaf.sc _; refine congrArg Leaf.sc ?_; first | rfl | go_num | (first | (rw [hleft0]; done) | (rw [hleft]; done) | omega; first | done | rfl | go_num | (simp; done) | (simp; omega)) | (simp [cntAll]; done)) | (simp [cntAll]; done) | (simp; omega)), trivial⟩)) ⟨⟨rfl, ⟨rfl, rfl, rfl, rfl, trivial⟩⟩, trivial⟩ ⟨.inr ⟨_, _, rfl, ?ob7_0, (gle rfl)⟩, trivial⟩ (new_ob nil_ob) (fun i j hi hj e => inj_list (l := [0]) (by decide) i j hi hj e))
                case ob7_0 =>
                  show some (T.seq _ _) = some (T.seq _ _)
                  exact congrArg (fun z => some (T.seq _ z)) hnext
          · skip   -- c2.F
            have hke : k = 10 := by simp at hc2; omega
            have ho : BrokerD.grantsT (BrokerD.rest b) b.fActive (9 - (k : Int)) 0 = BrokerD.grants b := by rw [hke, show (9 : Int) - ((10 : Nat) : Int) = -1 from rfl, BrokerD.grantsT_end hO.act]; unfold BrokerD.grants; rw [if_pos hok]
            refine SV.exit ?_
            refine SV.te ?_
            refine SV.te ?_
            refine SV.bh ?_
            refine SV.tn ?_
            refine SV.seq' ?_
            refine SV.region ?_
            refine SV.op (OpL.ok (nb := 1) (ok_move (v := V.one (.hd 0)) (.inl rfl) rfl) rfl (gle rfl)) rfl ?_
            refine SV.op (OpL.ok (nb := 1) (ok_move (v := V.one (.hd 0)) (.inr rfl) rfl) rfl (gle rfl)) rfl ?_
            refine SV.nil ?_
            refine SV.tn ?_
            refine SV.ret ?_
            apply SV.done (hf := Try.results18) (ht := rfl) (he := .inl rfl)
            case hr => exact (ResAll.cons (ResOk.tmp (ag := false) (xs := [.hd 0]) rfl) ResAll.nil')
            case h2 => simp [two]
            refine ⟨rfl, ⟨?_, trivial⟩, trivial⟩ <;> first | rfl | (rw [ho]; rfl) | ((show some (T.seq _ _) = some (T.seq _ _); refine congrArg (fun z => some (T.seq _ z)) ?_; rw [ho]; first | done | rfl | (simp [tClient]; done) | (simp [List.map_set, tClient]; done))) | ((show some (T.lit (Value.int .i64 _)) = some (T.lit (Value.int .i64 _)); refine congrArg (fun z => some (T.lit (Value.int .i64 z))) ?_; rw [ho]; first | done | rfl)) | ((show some (T.lit (Value.bool _)) = some (T.lit (Value.bool _)); refine congrArg (fun z => some (T.lit (Value.bool z))) ?_; rw [ho]; first | done | rfl | (simp; done)))
end Go.Proofs.Ytfghhjcfmmhacaa
/- The reference's GrantFor: told by trees. -/
namespace Go.Proofs.Ytfghhjcfmmhacaa
open Go Go.RowKit V
set_option linter.unusedVariables false
end Go.Proofs.Ytfghhjcfmmhacaa
/- Brokers as plain mathematics: what the law of grants asks; no function of program or reference is walked here. -/
namespace Go.Proofs.Ytfghhjcfmmhacaa
open Go.RowKit
set_option linter.unusedVariables false
namespace BrokerD
theorem sumTo_bound {f : Nat → Int} {n : Nat} : ∀ {k : Nat}, (∀ j, j < k → 0 ≤ f j ∧ f j ≤ 60) → 0 ≤ sumTo f k ∧ sumTo f k ≤ 60 * (k : Int)
  | 0, _ => ⟨Int.le_refl 0, Int.le_refl 0⟩
  | k + 1, h => by
    have h1 := sumTo_bound (n := n) (f := f) (k := k) fun j hj => h j (Nat.lt_succ_of_lt hj)
    have h2 := h k (Nat.lt_succ_self k)
    show 0 ≤ sumTo f k + f k ∧ sumTo f k + f k ≤ 60 * ((k + 1 : Nat) : Int)
    omega
theorem grant_at {b : BrokerD} (h : Ok b) {t : Nat} (ht : t < b.fActive.length) : (grants b)[t]? = some (grantAt (rest b) b.fActive t) ∧ grantFor b b.fActive[t].fID = some (grantAt (rest b) b.fActive t) ∧ 8 ≤ grantAt (rest b) b.fActive t ∧ grantAt (rest b) b.fActive t ≤ b.fActive[t].fRequested ∧ b.fActive[t].fRequested ≤ 60 := by
  have h1 := grant_high (r := rest b) h.act t
  have h2 := grant_low (rest b) b.fActive t
  have h3 := (need_at (List.getElem?_eq_getElem ht)).1
  have h4 := (okC_iff _ _).1 (h.act.each _ (List.getElem_mem ht))
  refine ⟨grants_get h.yes ht, ?_, h2, by omega, h4.2.2.2.1⟩
  unfold grantFor
  rw [if_pos h.yes, at_self h.act ht]
  rfl
theorem grant_pr {b : BrokerD} (h : Ok b) {i k : Nat} (hi : i < b.fActive.length) (hk : k < b.fActive.length) (hp : b.fActive[k].fPriority < b.fActive[i].fPriority) (hg : 8 < grantAt (rest b) b.fActive k) : grantAt (rest b) b.fActive i = b.fActive[i].fRequested := by
  have h1 := need_at (List.getElem?_eq_getElem hi)
  have h2 := need_at (List.getElem?_eq_getElem hk)
  have h3 := grant_prio (r := rest b) h.act hi (k := k) (by rw [h1.2, h2.2]; exact hp) hg
  rw [h1.1] at h3
  omega
theorem sum_part {b : BrokerD} (h : Ok b) {t : Nat} (ht : t ≤ b.fActive.length) : 0 ≤ sumTo (grantAt (rest b) b.fActive) t ∧ sumTo (grantAt (rest b) b.fActive) t ≤ 60 * (t : Int) := sumTo_bound (n := 0) fun j hj => by
  obtain ⟨-, -, h1, h2, h3⟩ := grant_at h (t := j) (by omega)
  omega
end BrokerD
end Go.Proofs.Ytfghhjcfmmhacaa
/- The law of grants, over the program's contracts: told by trees. -/
namespace Go.Proofs.Ytfghhjcfmmhacaa
open Go Go.RowKit V
set_option linter.unusedVariables false
set_option maxRecDepth 100000 in
set_option maxHeartbeats 2000000 in
theorem vsamei (X : List Int) (hX : X.length ≤ 300000000000) : VC Try.prog 17 [(false, [.seq 3 ((X).map tInt)]), (false, [.seq 3 ((X).map tInt)])] false [(false, [.lit (.bool true)])] := by
  refine VC.enter Try.func17 rfl Try.ntmps17 (gle rfl) fun E hE => ?_
  refine SV.seq' ?_
  refine SV.region ?_
  refine SV.op (OpL.ok (nb := 0) (ok_move (v := V.one (.sc _)) (.inr rfl) rfl) rfl (gle rfl)) rfl ?_
  refine SV.nil ?_
  refine SV.tn ?_
  refine SV.seq' ?_
  refine SV.seq' ?_
  refine SV.region ?_
  refine SV.op (OpL.ok (nb := 0) (ok_move (v := V.one (.ro _)) (.inl rfl) rfl) rfl (gle rfl)) rfl ?_
  refine SV.op (OpL.ok (nb := 0) (ok_len (lf := .ro _) rfl elt_int.und rfl rfl) rfl (gle rfl)) rfl ?_
  refine SV.op (OpL.ok (nb := 0) (ok_move (v := V.one (.ro _)) (.inl rfl) rfl) rfl (gle rfl)) rfl ?_
  refine SV.op (OpL.ok (nb := 0) (ok_len (lf := .ro _) rfl elt_int.und rfl rfl) rfl (gle rfl)) rfl ?_
  refine SV.op (OpL.ok (nb := 0) (ok_s2 (x := .tmp 7) (x' := .tmp 9) (VScal.one rfl) (VScal.one rfl) (fun ρ h1 h2 w => by go_simp; (try go_bits); with_reducible rfl) rfl) rfl (gle rfl)) rfl ?_
  refine SV.nil ?_
  refine SV.tn ?_
  refine SV.cond rfl (fun hc0 => ?_) (fun hc0 => ?_)
  · skip   -- c0.T
    simp at hc0
  · skip   -- c0.F
    refine SV.skip ?_
    refine SV.tn ?_
    refine SV.seq' ?_
    refine SV.seq' ?_
    refine SV.region ?_
    refine SV.op (OpL.ok (nb := 0) (ok_move (v := V.one (.sc _)) (.inr rfl) rfl) rfl (gle rfl)) rfl ?_
    refine SV.nil ?_
    refine SV.tn ?_
    refine SV.block ?_
    refine SV.loopF (X := Nat) (fun (σ : VS) t => ((((VS.nil.put 0 (σ.tm 0)).put 1 (σ.tm 1)).put 4 (σ.tm 4)).put 5 (V.flat false [.sc (.int .i64 ((t : Int)))]))) (fun t => t ≤ X.length) (fun t => X.length - t) ?_ ?_
    · skip
      refine SV.again (fun i => [].getD i 0) 0 ((by first | exact Nat.zero_le _ | (refine ⟨Nat.zero_le _, ?_⟩; simp; done) | (simp; done) | omega)) (pins hE rfl rfl) (VS.le.mk' (le_put (le_put (le_put (le_put le_nil (V.le.keep (ag := false) (xs := [.ro _]) (ys := [.ro _]) rfl rfl ⟨rfl, trivial⟩)) (V.le.keep (ag := false) (xs := [.ro _]) (ys := [.ro _]) rfl rfl ⟨rfl, trivial⟩)) (V.le.keep (ag := false) (xs := [.sc _]) (ys := [.sc _]) rfl rfl ⟨rfl, trivial⟩)) (V.le.keep (ag := false) (xs := [.sc _]) (ys := [.sc _]) rfl rfl ⟨(by first | rfl | (show Leaf.sc _ = Leaf.sc _; refine congrArg Leaf.sc ?_; first | rfl | go_num | (simp [cntAll]; done)) | (simp [cntAll]; done) | (simp; omega)), trivial⟩)) trivial trivial nil_ob (fun i j hi hj e => absurd hi (Nat.not_lt_zero i)))
    · rintro t ht
      refine SV.seq' ?_
      refine SV.seq' ?_
      refine SV.region ?_
      refine SV.op (OpL.ok (nb := 0) (ok_move (v := V.one (.sc _)) (.inl rfl) rfl) rfl (gle rfl)) rfl ?_
      refine SV.op (OpL.ok (nb := 0) (ok_move (v := V.one (.ro _)) (.inl rfl) rfl) rfl (gle rfl)) rfl ?_
      refine SV.op (OpL.ok (nb := 0) (ok_len (lf := .ro _) rfl elt_int.und rfl rfl) rfl (gle rfl)) rfl ?_
      refine SV.op (OpL.ok (nb := 0) (ok_s2 (x := .tmp 11) (x' := .tmp 13) (VScal.one rfl) (VScal.one rfl) (fun ρ h1 h2 w => by go_simp; (try go_bits); with_reducible rfl) rfl) rfl (gle rfl)) rfl ?_
      refine SV.nil ?_
      refine SV.tn ?_
      refine SV.cond rfl (fun hc1 => ?_) (fun hc1 => ?_)
      · skip   -- c1.T
        have htl : t < X.length := by simpa using hc1
        have hx : X[t]? = some X[t] := by simp [htl]
        refine SV.skip ?_
        refine SV.tn ?_
        refine SV.seq' ?_
        refine SV.block ?_
        refine SV.seq' ?_
        refine SV.draw [.q 0, .q 1, .q 2, .q 3, .q 4, .q 5, .q 6, .q 7, .q 8] [] (by kernel_rfl) (by kernel_rfl) ?_
        refine DW.q rfl (ok_move (v := V.one (.ro _)) (.inl rfl) rfl) rfl rfl (gle rfl) (fun _ _ _ _ h => h) ?_
        refine DW.q rfl (ok_move (v := V.one (.sc _)) (.inl rfl) rfl) rfl rfl (gle rfl) (fun _ _ _ _ h => h) ?_
        refine DW.q rfl (ok_index (n := 1) (lf := .ro _) rfl elt_int.und sz_int rfl rfl rfl (map_at hx)) rfl rfl (gle rfl) (fun _ _ _ _ h => h) ?_
        refine DW.q rfl (ok_load_rp (ag := false) (m := 1) (ys := [.sc _]) rfl rfl agg_int sz_int (fun _ => rfl) (gle rfl) rfl) rfl rfl (gle rfl) (fun _ _ _ _ h => h) ?_
        refine DW.q rfl (ok_move (v := V.one (.ro _)) (.inl rfl) rfl) rfl rfl (gle rfl) (fun _ _ _ _ h => h) ?_
        refine DW.q rfl (ok_move (v := V.one (.sc _)) (.inl rfl) rfl) rfl rfl (gle rfl) (fun _ _ _ _ h => h) ?_
        refine DW.q rfl (ok_index (n := 1) (lf := .ro _) rfl elt_int.und sz_int rfl rfl rfl (map_at hx)) rfl rfl (gle rfl) (fun _ _ _ _ h => h) ?_
        refine DW.q rfl (ok_load_rp (ag := false) (m := 1) (ys := [.sc _]) rfl rfl agg_int sz_int (fun _ => rfl) (gle rfl) rfl) rfl rfl (gle rfl) (fun _ _ _ _ h => h) ?_
        refine DW.q rfl (ok_s2 (x := .tmp 20) (x' := .tmp 24) (VScal.one rfl) (VScal.one rfl) (fun ρ h1 h2 w => by go_simp; (try go_bits); with_reducible rfl) rfl) rfl rfl (gle rfl) (fun _ _ _ _ h => h) ?_
        refine DW.stores ?_
        refine SV.zend ?_
        refine SV.tn ?_
        refine SV.cond rfl (fun hc2 => ?_) (fun hc2 => ?_)
        · skip   -- c2.T
          simp at hc2
        · skip   -- c2.F
          refine SV.skip ?_
          refine SV.bn ?_
          refine SV.tn ?_
          refine SV.region ?_
          refine SV.op (OpL.ok (nb := 0) (ok_move (v := V.one (.sc _)) (.inl rfl) rfl) rfl (gle rfl)) rfl ?_
          refine SV.op (OpL.ok (nb := 0) (ok_s2 (x := .tmp 15) (x' := .const ((Value.int IntKind.i64 1))) (VScal.one rfl) (VScal.one rfl) (fun ρ h1 h2 w => by go_simp; (try go_bits); with_reducible rfl) rfl) rfl (gle rfl)) rfl ?_
          refine SV.op (OpL.ok (nb := 0) (ok_move (v := V.one (.sc _)) (.inr rfl) rfl) rfl (gle rfl)) rfl ?_
          refine SV.nil ?_
          refine SV.tn ?_
          refine SV.again (fun i => [].getD i 0) (t + 1) (⟨by omega, by omega⟩) (pins hE rfl rfl) (VS.le.mk' (le_put (le_put (le_put (le_put le_nil (V.le.keep (ag := false) (xs := [.ro _]) (ys := [.ro _]) rfl rfl ⟨rfl, trivial⟩)) (V.le.keep (ag := false) (xs := [.ro _]) (ys := [.ro _]) rfl rfl ⟨rfl, trivial⟩)) (V.le.keep (ag := false) (xs := [.sc _]) (ys := [.sc _]) rfl rfl ⟨rfl, trivial⟩)) (V.le.keep (ag := false) (xs := [.sc _]) (ys := [.sc _]) rfl rfl ⟨(by first | rfl | (show Leaf.sc _ = Leaf.sc _; refine congrArg Leaf.sc ?_; first | rfl | go_num | (simp [cntAll]; done)) | (simp [cntAll]; done) | (simp; omega)), trivial⟩)) trivial trivial nil_ob (fun i j hi hj e => absurd hi (Nat.not_lt_zero i)))
      · skip   -- c1.F
        refine SV.exit ?_
        refine SV.te ?_
        refine SV.te ?_
        refine SV.bh ?_
        refine SV.tn ?_
        refine SV.seq' ?_
        refine SV.region ?_
        refine SV.op (OpL.ok (nb := 0) (ok_move (v := V.one (.sc _)) (.inr rfl) rfl) rfl (gle rfl)) rfl ?_
        refine SV.nil ?_
        refine SV.tn ?_
        refine SV.ret ?_
        apply SV.done (hf := Try.results17) (ht := rfl) (he := .inl rfl)
        case hr => exact (ResAll.cons (ResOk.tmp (ag := false) (xs := [.sc _]) rfl) ResAll.nil')
        case h2 => simp [two]
        refine ⟨rfl, ⟨?_, trivial⟩, trivial⟩ <;> rfl
theorem vbigP {ad : Option Addr} {len cap : Nat} {zs : List Int} : VCP (fun w => Code ad len cap zs w) Try.prog 14 [(false, [.lit (.slice ad len cap)])] false [(false, [.lit (.bool false)])] := fun w hw vs hv => VC.plainAt (ins := [(false, [.slice ad len cap])]) (ag := false) (rs := [.bool false]) (fun u hu => by rw [List.mem_singleton.1 hu]; rfl) ((big_no ad len cap w hw.small).mono fun e w' ⟨he, hw'⟩ => ⟨he, hw' ▸ Below.refl _ _⟩) vs hv
set_option maxRecDepth 100000 in
set_option maxHeartbeats 2000000 in
theorem vlaw_gr (ad : Option Addr) (len cap : Nat) (zs : List Int) (igr : ∀ b : BrokerD, b.fActive.length ≤ 1000000000 → b.fWaiting.length ≤ 1000000000 → VC Try.prog 16 [(true, tBroker b)] false [(false, [.seq 3 ((BrokerD.grants b).map tInt)])]) (iok : ∀ b : BrokerD, b.fActive.length ≤ 1000000000 → b.fWaiting.length ≤ 1000000000 → VC Try.prog 19 [(true, tBroker b)] false [(false, [.lit (.bool (BrokerD.ok b))])]) (igf : ∀ (b : BrokerD) (id : Int), b.fActive.length ≤ 1000000000 → b.fWaiting.length ≤ 1000000000 → VC Try.prog 21 [(true, tBroker b), (false, [.lit (.int .i64 id)])] true [(false, [.lit (.int .i64 ((BrokerD.grantFor b id).getD 0))]), (false, [.lit (.bool (BrokerD.grantFor b id).isSome)])]) : VCP (fun w => Code ad len cap zs w) Try.prog 3 [(false, [.lit (.slice ad len cap)])] false [(false, [.lit (.bool true)])] := by
  refine VCP.enter (fun w w' h hb => h.below hb) Try.func3 rfl Try.ntmps3 (gle rfl) fun E hE hD => ?_
  refine SV.seq' ?_
  refine SV.region ?_
  refine SV.op (OpL.ok (nb := 0) (ok_move (v := V.one (.sc _)) (.inr rfl) rfl) rfl (gle rfl)) rfl ?_
  refine SV.nil ?_
  refine SV.tn ?_
  refine SV.seq' ?_
  refine SV.seq' ?_
  refine SV.region ?_
  refine SV.op (OpL.ok (nb := 0) (ok_move (v := V.one (.sc _)) (.inl rfl) rfl) rfl (gle rfl)) rfl ?_
  refine SV.op (OpMk.ok (ok_callP (ls := [(false, [.sc _])]) hD rfl rfl ⟨_, _, Try.func14, rfl, by decide⟩ (vbigP) ⟨⟨[.sc _], rfl, ⟨rfl, trivial⟩⟩, trivial⟩ rfl (gle rfl))) rfl ?_
  refine SV.nil ?_
  refine SV.tn ?_
  refine SV.cond rfl (fun hc0 => ?_) (fun hc0 => ?_)
  · skip   -- c0.T
    simp at hc0
  · skip   -- c0.F
    refine SV.skip ?_
    refine SV.tn ?_
    refine SV.seq' ?_
    refine SV.region ?_
    refine SV.op (OpL.ok (nb := 0) (ok_move (v := V.one (.sc _)) (.inl rfl) rfl) rfl (gle rfl)) rfl ?_
    refine SV.callE hD rfl ⟨_, _, Try.func15, rfl, by decide⟩ (vd_bgr) ⟨⟨[.sc _], rfl, ⟨rfl, trivial⟩⟩, trivial⟩ rfl (gle rfl) rfl ?_
    rintro b ⟨hb1, hb2⟩
    refine SV.op (OpMk.ok (ok_alloc (kk := 0) (xs := [.sc _, .sc _, .nl _, .nl _]) rfl rfl zero_impl_Broker ⟨rfl, rfl, rfl, rfl, rfl, ⟨3, by decide, sz_impl_Client⟩, rfl, ⟨3, by decide, sz_impl_Client⟩, trivial⟩ rfl (gle rfl))) rfl ?_
    refine SV.op (ok_store_bp (b := 0) (i := 0) (m := 4) (ag := true) (zs := [.sc _, .sc _, .hd 0, .hd 1]) (ys := [.sc _, .sc _, .hd 0, .hd 1]) rfl rfl rfl rfl sz_impl_Broker (fun h => by cases h) rfl (gle rfl) rfl rfl rfl) rfl ?_
    refine SV.nil ?_
    refine SV.tn ?_
    refine SV.seq' ?_
    have hgl : (BrokerD.grants b).length ≤ 300000000000 := by
      cases ho : BrokerD.ok b with
      | true => rw [BrokerD.grants_length ho]; omega
      | false => rw [BrokerD.grants_bad ho]; exact Nat.zero_le _
    refine SV.region ?_
    refine SV.op (OpL.ok (nb := 1) (ok_load_bp (b := 0) (i := 0) (ag := true) (m := 4) (ys := [.sc _, .sc _, .hd 0, .hd 1]) rfl rfl rfl agg_impl_Broker sz_impl_Broker (fun h => by cases h) rfl rfl (gle rfl)) rfl (gle rfl)) rfl ?_
    refine SV.op (OpMk.ok (ok_call (ls := [(false, [.hd 2])]) rfl rfl ⟨_, _, Try.func16, rfl, by decide⟩ (igr b (by omega) (by omega)) ⟨⟨[.sc _, .sc _, .hd 0, .hd 1], rfl, ⟨rfl, rfl, rfl, rfl, trivial⟩⟩, trivial⟩ rfl (gle rfl))) rfl ?_
    refine SV.op (OpL.ok (nb := 1) (ok_move (v := V.one (.hd 2)) (.inr rfl) rfl) rfl (gle rfl)) rfl ?_
    refine SV.nil ?_
    refine SV.tn ?_
    refine SV.seq' ?_
    refine SV.seq' ?_
    refine SV.draw [.q 0, .q 1, .m 2, .m 3, .q 4, .q 5, .q 6, .q 8, .m 7, .m 9, .q 10, .q 11] [] (by kernel_rfl) (by kernel_rfl) ?_
    refine DW.q rfl (ok_move (v := V.one (.hd 2)) (.inl rfl) rfl) rfl rfl (gle rfl) (fun _ _ _ _ h => h) ?_
    refine DW.q rfl (ok_load_bp (b := 0) (i := 0) (ag := true) (m := 4) (ys := [.sc _, .sc _, .hd 0, .hd 1]) rfl rfl rfl agg_impl_Broker sz_impl_Broker (fun h => by cases h) rfl rfl (gle rfl)) rfl rfl (gle rfl) (fun _ _ _ _ h => h) ?_
    refine DW.m [3] rfl (ok_call (ls := [(false, [.hd 3])]) rfl rfl ⟨_, _, Try.func18, rfl, by decide⟩ (vgrants_s b (by omega) (by omega)) ⟨⟨[.sc _, .sc _, .hd 0, .hd 1], rfl, ⟨rfl, rfl, rfl, rfl, trivial⟩⟩, trivial⟩ rfl (gle rfl)) rfl (gle rfl) (gle rfl) (.inl rfl) (fun j hj => by
        simp only [List.mem_cons, List.not_mem_nil, or_false] at hj
        rcases hj with rfl
        · exact .inr ⟨(gle rfl), (gle rfl), .inl rfl⟩) ?_
    refine DW.m [3] rfl (ok_call (ls := [(false, [.sc _])]) rfl rfl ⟨_, _, Try.func17, rfl, by decide⟩ (vsamei (BrokerD.grants b) hgl) ⟨⟨[.hd 2], rfl, ⟨rfl, trivial⟩⟩, ⟨[.hd 3], rfl, ⟨rfl, trivial⟩⟩, trivial⟩ rfl (gle rfl)) rfl (gle rfl) (gle rfl) (.inl rfl) (fun j hj => by
        simp only [List.mem_cons, List.not_mem_nil, or_false] at hj
        rcases hj with rfl
        · exact .inl (by decide)) ?_
    refine DW.q rfl (ok_s1 (x := .tmp 19) (VScal.one rfl) (fun ρ h1 w => by go_simp; (try go_bits); with_reducible rfl) rfl) rfl rfl (gle rfl) (fun _ _ _ _ h => h) ?_
    refine DW.q rfl (ok_move (v := V.one (.sc _)) (.inl rfl) rfl) rfl rfl (gle rfl) (fun _ _ _ _ h => h) ?_
    refine DW.split (d := 21) rfl (fun hg0 => ?_) (fun hg0 => ?_)
    · skip   -- g0.T
      (exfalso; first | (simp at hg0; done) | (simp at hg0; omega))
    · skip   -- g0.F
      refine DW.qY rfl (ok_load_bp (b := 0) (i := 0) (ag := true) (m := 4) (ys := [.sc _, .sc _, .hd 0, .hd 1]) rfl rfl rfl agg_impl_Broker sz_impl_Broker (fun h => by cases h) rfl rfl (gle rfl)) rfl rfl rfl (gle rfl) rfl rfl rfl (gle rfl) (fun _ _ _ _ h => h) ?_
      refine DW.qY rfl (ok_load_bp (b := 0) (i := 0) (ag := true) (m := 4) (ys := [.sc _, .sc _, .hd 0, .hd 1]) rfl rfl rfl agg_impl_Broker sz_impl_Broker (fun h => by cases h) rfl rfl (gle rfl)) rfl rfl rfl (gle rfl) rfl rfl rfl (gle rfl) (fun _ _ _ _ h => h) ?_
      refine DW.m' [3] rfl (ok_call (ls := [(false, [.sc _])]) rfl rfl ⟨_, _, Try.func19, rfl, by decide⟩ (iok b (by omega) (by omega)) ⟨⟨[.sc _, .sc _, .hd 0, .hd 1], rfl, ⟨rfl, rfl, rfl, rfl, trivial⟩⟩, trivial⟩ rfl (gle rfl)) (fun hr => wantedY hr rfl rfl rfl (gle rfl) rfl rfl) (gle rfl) (gle rfl) (.inl rfl) (fun j hj => by
          simp only [List.mem_cons, List.not_mem_nil, or_false] at hj
          rcases hj with rfl
          · exact .inl (by decide)) ?_
      refine DW.m' [3] rfl (ok_call (ls := [(false, [.sc _])]) rfl rfl ⟨_, _, Try.func20, rfl, by decide⟩ (vokb_s b (by omega) (by omega)) ⟨⟨[.sc _, .sc _, .hd 0, .hd 1], rfl, ⟨rfl, rfl, rfl, rfl, trivial⟩⟩, trivial⟩ rfl (gle rfl)) (fun hr => wantedY hr rfl rfl rfl (gle rfl) rfl rfl) (gle rfl) (gle rfl) (.inl rfl) (fun j hj => by
          simp only [List.mem_cons, List.not_mem_nil, or_false] at hj
          rcases hj with rfl
          · exact .inl (by decide)) ?_
      refine DW.qY rfl (ok_s2 (x := .tmp 23) (x' := .tmp 25) (VScal.one rfl) (VScal.one rfl) (fun ρ h1 h2 w => by go_simp; (try go_bits); with_reducible rfl) rfl) rfl rfl rfl (gle rfl) rfl rfl rfl (gle rfl) (fun _ _ _ _ h => h) ?_
      refine DW.q rfl (ok_pickF (v := V.one (.sc _)) rfl rfl rfl) rfl rfl (gle rfl) (fun _ _ _ _ h => h) ?_
      refine DW.stores ?_
      refine SV.zend ?_
      refine SV.tn ?_
      refine SV.cond rfl (fun hc1 => ?_) (fun hc1 => ?_)
      · skip   -- c1.T
        (exfalso; first | (simp at hc1; done) | (simp at hc1; omega))
      · skip   -- c1.F
        refine SV.skip ?_
        refine SV.tn ?_
        refine SV.seq' ?_
        refine SV.seq' ?_
        refine SV.region ?_
        refine SV.op (OpL.ok (nb := 1) (ok_load_bp (b := 0) (i := 0) (ag := true) (m := 4) (ys := [.sc _, .sc _, .hd 0, .hd 1]) rfl rfl rfl agg_impl_Broker sz_impl_Broker (fun h => by cases h) rfl rfl (gle rfl)) rfl (gle rfl)) rfl ?_
        refine SV.op (OpMk.ok (ok_call (ls := [(false, [.sc _])]) rfl rfl ⟨_, _, Try.func20, rfl, by decide⟩ (vokb_s b (by omega) (by omega)) ⟨⟨[.sc _, .sc _, .hd 0, .hd 1], rfl, ⟨rfl, rfl, rfl, rfl, trivial⟩⟩, trivial⟩ rfl (gle rfl))) rfl ?_
        refine SV.op (OpL.ok (nb := 1) (ok_s1 (x := .tmp 29) (VScal.one rfl) (fun ρ h1 w => by go_simp; (try go_bits); with_reducible rfl) rfl) rfl (gle rfl)) rfl ?_
        refine SV.nil ?_
        refine SV.tn ?_
        refine SV.cond rfl (fun hc2 => ?_) (fun hc2 => ?_)
        · skip   -- c2.T
          have hok : BrokerD.ok b = false := by simpa using hc2
          have hge := BrokerD.grants_bad hok
          refine SV.seq' ?_
          refine SV.region ?_
          refine SV.op (OpL.ok (nb := 1) (ok_move (v := V.one (.hd 2)) (.inl rfl) rfl) rfl (gle rfl)) rfl ?_
          refine SV.op (OpL.ok (nb := 1) (ok_len (lf := .hd 2) rfl elt_int.und rfl rfl) rfl (gle rfl)) rfl ?_
          refine SV.op (OpL.ok (nb := 1) (ok_s2 (x := .tmp 32) (x' := .const ((Value.int IntKind.i64 0))) (VScal.one rfl) (VScal.one rfl) (fun ρ h1 h2 w => by go_simp; (try go_bits); with_reducible rfl) rfl) rfl (gle rfl)) rfl ?_
          refine SV.op (OpL.ok (nb := 1) (ok_move (v := V.one (.sc _)) (.inr rfl) rfl) rfl (gle rfl)) rfl ?_
          refine SV.nil ?_
          refine SV.tn ?_
          refine SV.ret ?_
          refine SV.tr ?_
          apply SV.done (hf := Try.results3) (ht := rfl) (he := .inl rfl)
          case hr => exact (ResAll.cons (ResOk.tmp (ag := false) (xs := [.sc _]) rfl) ResAll.nil')
          case h2 => simp [two]
          refine ⟨rfl, ⟨?_, trivial⟩, trivial⟩ <;> first | rfl | ((show some (T.lit (Value.bool _)) = some (T.lit (Value.bool _)); refine congrArg (fun z => some (T.lit (Value.bool z))) ?_; first | (rw [hge]; rfl) | (simp; omega) | (rw [decide_eq_true_iff]; omega)))
        · skip   -- c2.F
          have hok : BrokerD.ok b = true := by simpa using hc2
          have hO := BrokerD.Ok.of hok
          have hgn1 : (BrokerD.grants b).length ≤ b.fActive.length := Nat.le_of_eq (BrokerD.grants_length hok)
          have hgn2 : b.fActive.length ≤ (BrokerD.grants b).length := Nat.le_of_eq (BrokerD.grants_length hok).symm
          refine SV.skip ?_
          refine SV.tn ?_
          refine SV.seq' ?_
          refine SV.region ?_
          refine SV.op (OpL.ok (nb := 1) (ok_move (v := V.one (.sc _)) (.inr rfl) rfl) rfl (gle rfl)) rfl ?_
          refine SV.nil ?_
          refine SV.tn ?_
          refine SV.seq' ?_
          refine SV.seq' ?_
          refine SV.region ?_
          refine SV.op (OpL.ok (nb := 1) (ok_move (v := V.one (.sc _)) (.inr rfl) rfl) rfl (gle rfl)) rfl ?_
          refine SV.nil ?_
          refine SV.tn ?_
          refine SV.block ?_
          refine SV.loopF (X := Nat) (fun (σ : VS) t => (((((((((VS.nil.new (σ.tree 2)).new (σ.tree 0)).new (σ.tree 1)).box 26 [σ.bl 0 0, σ.bl 0 1, .hd 1, .hd 2]).put 2 (σ.tm 2)).put 3 (V.flat false [.bp 0 0])).put 4 (V.flat false [.hd 0])).put 5 (V.flat false [.sc (.int .i64 (BrokerD.sumTo (BrokerD.grantAt (BrokerD.rest b) b.fActive) t))])).put 6 (V.flat false [.sc (.int .i64 ((t : Int)))]))) (fun t => t ≤ (BrokerD.grants b).length) (fun t => (BrokerD.grants b).length - t) ?_ ?_
          · skip
            refine SV.again (fun i => [2, 0, 1].getD i 0) 0 ((by first | exact Nat.zero_le _ | (refine ⟨Nat.zero_le _, ?_⟩; simp; done) | (simp; done) | omega)) (pins hE rfl rfl) (VS.le.mk' (le_put (le_put (le_put (le_put (le_put (le_box (le_new (le_new (le_new le_nil)))) (V.le.keep (ag := false) (xs := [.sc _]) (ys := [.sc _]) rfl rfl ⟨rfl, trivial⟩)) (V.le.keep (ag := false) (xs := [.bp 0 0]) (ys := [.bp 0 0]) rfl rfl ⟨⟨rfl, (gle rfl)⟩, trivial⟩)) (V.le.keep (ag := false) (xs := [.hd 2]) (ys := [.hd 0]) rfl rfl ⟨⟨rfl, (gle rfl), (gle rfl)⟩, trivial⟩)) (V.le.keep (ag := false) (xs := [.sc _]) (ys := [.sc _]) rfl rfl ⟨(by first | rfl | (show Leaf.sc _ = Leaf.sc _; refine congrArg Leaf.sc ?_; first | rfl | go_num | (simp [cntAll]; done)) | (simp [cntAll]; done) | (simp; omega)), trivial⟩)) (V.le.keep (ag := false) (xs := [.sc _]) (ys := [.sc _]) rfl rfl ⟨(by first | rfl | (show Leaf.sc _ = Leaf.sc _; refine congrArg Leaf.sc ?_; first | rfl | go_num | (simp [cntAll]; done)) | (simp [cntAll]; done) | (simp; omega)), trivial⟩)) ⟨⟨rfl, ⟨rfl, rfl, ⟨rfl, (gle rfl), (gle rfl)⟩, ⟨rfl, (gle rfl), (gle rfl)⟩, trivial⟩⟩, trivial⟩ ⟨.inr ⟨_, _, rfl, rfl, (gle rfl)⟩, ⟨.inr ⟨_, _, rfl, rfl, (gle rfl)⟩, ⟨.inr ⟨_, _, rfl, rfl, (gle rfl)⟩, trivial⟩⟩⟩ (new_ob (new_ob (new_ob nil_ob))) (fun i j hi hj e => inj_list (l := [2, 0, 1]) (by decide) i j hi hj e))
          · rintro t ht
            refine SV.seq' ?_
            refine SV.seq' ?_
            refine SV.region ?_
            refine SV.op (OpL.ok (nb := 1) (ok_move (v := V.one (.sc _)) (.inl rfl) rfl) rfl (gle rfl)) rfl ?_
            refine SV.op (OpL.ok (nb := 1) (ok_move (v := V.one (.hd 0)) (.inl rfl) rfl) rfl (gle rfl)) rfl ?_
            refine SV.op (OpL.ok (nb := 1) (ok_len (lf := .hd 0) rfl elt_int.und rfl rfl) rfl (gle rfl)) rfl ?_
            refine SV.op (OpL.ok (nb := 1) (ok_s2 (x := .tmp 34) (x' := .tmp 36) (VScal.one rfl) (VScal.one rfl) (fun ρ h1 h2 w => by go_simp; (try go_bits); with_reducible rfl) rfl) rfl (gle rfl)) rfl ?_
            refine SV.nil ?_
            refine SV.tn ?_
            refine SV.cond rfl (fun hc3 => ?_) (fun hc3 => ?_)
            · skip   -- c3.T
              have htl : t < (BrokerD.grants b).length := by simp at hc3; omega
              have htA : t < b.fActive.length := by omega
              obtain ⟨hx, hfor, hlow, hhigh, hreq⟩ := BrokerD.grant_at hO htA
              have hA : b.fActive[t]? = some b.fActive[t] := List.getElem?_eq_getElem htA
              have h54 := igf b b.fActive[t].fID (by omega) (by omega)
              rw [hfor] at h54
              replace h54 : VC Try.prog 21 [(true, tBroker b), (false, [.lit (.int .i64 b.fActive[t].fID)])] true [(false, [.lit (.int .i64 ((BrokerD.grantAt (BrokerD.rest b) b.fActive) t))]), (false, [.lit (.bool true)])] := h54
              have hsp := BrokerD.sum_part hO (t := t) (by omega)
              have hsq := BrokerD.sum_part hO (t := t + 1) (by omega)
              refine SV.skip ?_
              refine SV.tn ?_
              refine SV.seq' ?_
              refine SV.block ?_
              refine SV.seq' ?_
              refine SV.region ?_
              refine SV.op (OpL.ok (nb := 1) (ok_move (v := V.one (.sc _)) (.inl rfl) rfl) rfl (gle rfl)) rfl ?_
              refine SV.op (OpL.ok (nb := 1) (ok_move (v := V.one (.hd 0)) (.inl rfl) rfl) rfl (gle rfl)) rfl ?_
              refine SV.op (OpL.ok (nb := 1) (ok_move (v := V.one (.sc _)) (.inl rfl) rfl) rfl (gle rfl)) rfl ?_
              refine SV.op (OpL.ok (nb := 1) (ok_index (n := 1) (lf := .hd 0) rfl elt_int.und sz_int rfl rfl rfl (map_at hx)) rfl (gle rfl)) rfl ?_
              refine SV.op (ok_load_el (p := .ep 0 _ _ _) (ag := false) (m := 1) (ys := [.sc _]) rfl rfl (cells_ep rfl (map_at hx) rfl rfl) agg_int sz_int (fun _ => rfl) (gle rfl) rfl rfl (gle rfl)) rfl ?_
              refine SV.op (OpL.ok (nb := 1) (ok_s2 (v := .int .i64 (BrokerD.sumTo (BrokerD.grantAt (BrokerD.rest b) b.fActive) (t + 1))) (x := .tmp 40) (x' := .tmp 44) (VScal.one rfl) (VScal.one rfl) (fun ρ h1 h2 w => by go_simp; rw [IntWalk.i64_left, IntWalk.wrap64_in _ ⟨by have e : BrokerD.sumTo (BrokerD.grantAt (BrokerD.rest b) b.fActive) (t + 1) = BrokerD.sumTo (BrokerD.grantAt (BrokerD.rest b) b.fActive) t + (BrokerD.grantAt (BrokerD.rest b) b.fActive) t := rfl; omega, by have e : BrokerD.sumTo (BrokerD.grantAt (BrokerD.rest b) b.fActive) (t + 1) = BrokerD.sumTo (BrokerD.grantAt (BrokerD.rest b) b.fActive) t + (BrokerD.grantAt (BrokerD.rest b) b.fActive) t := rfl; omega⟩]; rfl) rfl) rfl (gle rfl)) rfl ?_
              refine SV.op (OpL.ok (nb := 1) (ok_move (v := V.one (.sc _)) (.inr rfl) rfl) rfl (gle rfl)) rfl ?_
              refine SV.nil ?_
              refine SV.tn ?_
              refine SV.seq' ?_
              refine SV.draw [.q 0, .q 1, .q 2, .q 3, .q 4, .q 5, .q 6, .m 7, .q 8, .q 9, .q 10, .q 11, .q 12] [] (by kernel_rfl) (by kernel_rfl) ?_
              refine DW.q rfl (ok_load_bp (b := 0) (i := 0) (ag := true) (m := 4) (ys := [.sc _, .sc _, .hd 1, .hd 2]) rfl rfl rfl agg_impl_Broker sz_impl_Broker (fun h => by cases h) rfl rfl (gle rfl)) rfl rfl (gle rfl) (fun _ _ _ _ h => h) ?_
              refine DW.q rfl (ok_field_bp (b := 0) (o' := 0) (off := 2) rfl rfl fld_impl_Broker_2) rfl rfl (gle rfl) (fun _ _ _ _ h => h) ?_
              refine DW.q rfl (ok_load_bp (b := 0) (i := 2) (ag := false) (m := 1) (ys := [.hd 1]) rfl rfl rfl agg_s_impl_Client sz_s_impl_Client (fun _ => rfl) rfl rfl (gle rfl)) rfl rfl (gle rfl) (fun _ _ _ _ h => h) ?_
              refine DW.q rfl (ok_move (v := V.one (.sc _)) (.inl rfl) rfl) rfl rfl (gle rfl) (fun _ _ _ _ h => h) ?_
              refine DW.q rfl (ok_index (n := 3) (lf := .hd 1) rfl elt_impl_Client.und sz_impl_Client rfl rfl rfl (map_at hA)) rfl rfl (gle rfl) (fun _ _ _ _ h => h) ?_
              refine DW.q rfl (ok_field_el (p := .ep 1 _ _ _) (off := 0) rfl rfl (cells_ep rfl (map_at hA) rfl rfl) fld_impl_Client_0) rfl rfl (gle rfl) (fun _ _ _ _ h => h) ?_
              refine DW.el (ag := false) (m := 1) (ys := [.sc _]) rfl rfl rfl (cells_ep rfl (map_at hA) rfl rfl) agg_int sz_int (fun _ => rfl) (gle rfl) rfl rfl rfl (gle rfl) (fun _ _ _ _ h => h) ?_
              refine DW.m [] rfl (ok_call (ls := [(false, [.sc _]), (false, [.sc _])]) rfl rfl ⟨_, _, Try.func21, rfl, by decide⟩ (h54) ⟨⟨[.sc _, .sc _, .hd 1, .hd 2], rfl, ⟨rfl, rfl, rfl, rfl, trivial⟩⟩, ⟨[.sc _], rfl, ⟨rfl, trivial⟩⟩, trivial⟩ rfl (gle rfl)) rfl (gle rfl) (gle rfl) (.inl rfl) (fun j hj => by cases hj) ?_
              refine DW.q rfl (ok_move (v := ⟨true, [(false, [.sc _]), (false, [.sc _])]⟩) (.inl rfl) rfl) rfl rfl (gle rfl) (fun _ _ _ _ h => h) ?_
              refine DW.q rfl (ok_extract (ag := false) (xs := [.sc _]) rfl rfl rfl) rfl rfl (gle rfl) (fun _ _ _ _ h => h) ?_
              refine DW.q rfl (ok_extract (ag := false) (xs := [.sc _]) rfl rfl rfl) rfl rfl (gle rfl) (fun _ _ _ _ h => h) ?_
              refine DW.q rfl (ok_move (v := V.one (.sc _)) (.inr rfl) rfl) rfl rfl (gle rfl) (fun _ _ _ _ h => h) ?_
              refine DW.q rfl (ok_move (v := V.one (.sc _)) (.inr rfl) rfl) rfl rfl (gle rfl) (fun _ _ _ _ h => h) ?_
              refine DW.stores ?_
              refine SV.zend ?_
              refine SV.tn ?_
              refine SV.seq' ?_
              refine SV.seq' ?_
              refine SV.draw [.q 0, .q 1, .q 2, .q 3, .q 4, .q 5, .q 6, .q 7, .q 8, .q 9, .q 10, .q 11, .q 12, .q 13, .q 14, .q 15, .q 16, .q 17, .q 18, .q 19, .q 20, .q 21, .q 22, .q 23, .q 24, .q 25, .q 26, .q 27, .q 28, .q 29] [] (by kernel_rfl) (by kernel_rfl) ?_
              refine DW.q rfl (ok_move (v := V.one (.sc _)) (.inl rfl) rfl) rfl rfl (gle rfl) (fun _ _ _ _ h => h) ?_
              refine DW.q rfl (ok_s1 (x := .tmp 57) (VScal.one rfl) (fun ρ h1 w => by go_simp; (try go_bits); with_reducible rfl) rfl) rfl rfl (gle rfl) (fun _ _ _ _ h => h) ?_
              refine DW.q rfl (ok_move (v := V.one (.sc _)) (.inl rfl) rfl) rfl rfl (gle rfl) (fun _ _ _ _ h => h) ?_
              refine DW.split (d := 59) rfl (fun hg1 => ?_) (fun hg1 => ?_)
              · skip   -- g1.T
                (exfalso; first | (simp at hg1; done) | (simp at hg1; omega))
              · skip   -- g1.F
                refine DW.qY rfl (ok_move (v := V.one (.sc _)) (.inl rfl) rfl) rfl rfl rfl (gle rfl) rfl rfl rfl (gle rfl) (fun _ _ _ _ h => h) ?_
                refine DW.qY rfl (ok_move (v := V.one (.hd 0)) (.inl rfl) rfl) rfl rfl rfl (gle rfl) rfl rfl rfl (gle rfl) (fun _ _ _ _ h => h) ?_
                refine DW.qY rfl (ok_move (v := V.one (.sc _)) (.inl rfl) rfl) rfl rfl rfl (gle rfl) rfl rfl rfl (gle rfl) (fun _ _ _ _ h => h) ?_
                refine DW.qY rfl (ok_index (n := 1) (lf := .hd 0) rfl elt_int.und sz_int rfl rfl rfl (map_at hx)) rfl rfl rfl (gle rfl) rfl rfl rfl (gle rfl) (fun _ _ _ _ h => h) ?_
                refine DW.el' (ag := false) (m := 1) (ys := [.sc _]) rfl rfl rfl (cells_ep rfl (map_at hx) rfl rfl) agg_int sz_int (fun _ => rfl) (gle rfl) rfl (fun hr => wantedY hr rfl rfl rfl (gle rfl) rfl rfl) rfl (gle rfl) (fun _ _ _ _ h => h) ?_
                refine DW.qY rfl (ok_s2 (x := .tmp 60) (x' := .tmp 64) (VScal.one rfl) (VScal.one rfl) (fun ρ h1 h2 w => by go_simp; (try go_bits); with_reducible rfl) rfl) rfl rfl rfl (gle rfl) rfl rfl rfl (gle rfl) (fun _ _ _ _ h => h) ?_
                refine DW.q rfl (ok_pickF (v := V.one (.sc _)) rfl rfl rfl) rfl rfl (gle rfl) (fun _ _ _ _ h => h) ?_
                refine DW.q rfl (ok_move (v := V.one (.sc _)) (.inl rfl) rfl) rfl rfl (gle rfl) (fun _ _ _ _ h => h) ?_
                refine DW.split (d := 67) rfl (fun hg2 => ?_) (fun hg2 => ?_)
                · skip   -- g2.T
                  (exfalso; first | (simp at hg2; done) | (simp at hg2; omega))
                · skip   -- g2.F
                  refine DW.qY rfl (ok_move (v := V.one (.hd 0)) (.inl rfl) rfl) rfl rfl rfl (gle rfl) rfl rfl rfl (gle rfl) (fun _ _ _ _ h => h) ?_
                  refine DW.qY rfl (ok_move (v := V.one (.sc _)) (.inl rfl) rfl) rfl rfl rfl (gle rfl) rfl rfl rfl (gle rfl) (fun _ _ _ _ h => h) ?_
                  refine DW.qY rfl (ok_index (n := 1) (lf := .hd 0) rfl elt_int.und sz_int rfl rfl rfl (map_at hx)) rfl rfl rfl (gle rfl) rfl rfl rfl (gle rfl) (fun _ _ _ _ h => h) ?_
                  refine DW.el' (ag := false) (m := 1) (ys := [.sc _]) rfl rfl rfl (cells_ep rfl (map_at hx) rfl rfl) agg_int sz_int (fun _ => rfl) (gle rfl) rfl (fun hr => wantedY hr rfl rfl rfl (gle rfl) rfl rfl) rfl (gle rfl) (fun _ _ _ _ h => h) ?_
                  refine DW.qY rfl (ok_s2 (x := .tmp 71) (x' := .const ((Value.int IntKind.i64 8))) (VScal.one rfl) (VScal.one rfl) (fun ρ h1 h2 w => by go_simp; (try go_bits); with_reducible rfl) rfl) rfl rfl rfl (gle rfl) rfl rfl rfl (gle rfl) (fun _ _ _ _ h => h) ?_
                  refine DW.q rfl (ok_pickF (v := V.one (.sc _)) rfl rfl rfl) rfl rfl (gle rfl) (fun _ _ _ _ h => h) ?_
                  refine DW.q rfl (ok_move (v := V.one (.sc _)) (.inl rfl) rfl) rfl rfl (gle rfl) (fun _ _ _ _ h => h) ?_
                  refine DW.split (d := 74) rfl (fun hg3 => ?_) (fun hg3 => ?_)
                  · skip   -- g3.T
                    (exfalso; first | (simp at hg3; done) | (simp at hg3; omega))
                  · skip   -- g3.F
                    refine DW.qY rfl (ok_move (v := V.one (.hd 0)) (.inl rfl) rfl) rfl rfl rfl (gle rfl) rfl rfl rfl (gle rfl) (fun _ _ _ _ h => h) ?_
                    refine DW.qY rfl (ok_move (v := V.one (.sc _)) (.inl rfl) rfl) rfl rfl rfl (gle rfl) rfl rfl rfl (gle rfl) (fun _ _ _ _ h => h) ?_
                    refine DW.qY rfl (ok_index (n := 1) (lf := .hd 0) rfl elt_int.und sz_int rfl rfl rfl (map_at hx)) rfl rfl rfl (gle rfl) rfl rfl rfl (gle rfl) (fun _ _ _ _ h => h) ?_
                    refine DW.el' (ag := false) (m := 1) (ys := [.sc _]) rfl rfl rfl (cells_ep rfl (map_at hx) rfl rfl) agg_int sz_int (fun _ => rfl) (gle rfl) rfl (fun hr => wantedY hr rfl rfl rfl (gle rfl) rfl rfl) rfl (gle rfl) (fun _ _ _ _ h => h) ?_
                    refine DW.qY rfl (ok_field_bp (b := 0) (o' := 0) (off := 2) rfl rfl fld_impl_Broker_2) rfl rfl rfl (gle rfl) rfl rfl rfl (gle rfl) (fun _ _ _ _ h => h) ?_
                    refine DW.qY rfl (ok_load_bp (b := 0) (i := 2) (ag := false) (m := 1) (ys := [.hd 1]) rfl rfl rfl agg_s_impl_Client sz_s_impl_Client (fun _ => rfl) rfl rfl (gle rfl)) rfl rfl rfl (gle rfl) rfl rfl rfl (gle rfl) (fun _ _ _ _ h => h) ?_
                    refine DW.qY rfl (ok_move (v := V.one (.sc _)) (.inl rfl) rfl) rfl rfl rfl (gle rfl) rfl rfl rfl (gle rfl) (fun _ _ _ _ h => h) ?_
                    refine DW.qY rfl (ok_index (n := 3) (lf := .hd 1) rfl elt_impl_Client.und sz_impl_Client rfl rfl rfl (map_at hA)) rfl rfl rfl (gle rfl) rfl rfl rfl (gle rfl) (fun _ _ _ _ h => h) ?_
                    refine DW.qY rfl (ok_field_el (p := .ep 1 _ _ _) (off := 1) rfl rfl (cells_ep rfl (map_at hA) rfl rfl) fld_impl_Client_1) rfl rfl rfl (gle rfl) rfl rfl rfl (gle rfl) (fun _ _ _ _ h => h) ?_
                    refine DW.el' (ag := false) (m := 1) (ys := [.sc _]) rfl rfl rfl (cells_ep rfl (map_at hA) rfl rfl) agg_int sz_int (fun _ => rfl) (gle rfl) rfl (fun hr => wantedY hr rfl rfl rfl (gle rfl) rfl rfl) rfl (gle rfl) (fun _ _ _ _ h => h) ?_
                    refine DW.qY rfl (ok_s2 (x := .tmp 78) (x' := .tmp 84) (VScal.one rfl) (VScal.one rfl) (fun ρ h1 h2 w => by go_simp; (try go_bits); with_reducible rfl) rfl) rfl rfl rfl (gle rfl) rfl rfl rfl (gle rfl) (fun _ _ _ _ h => h) ?_
                    refine DW.q rfl (ok_pickF (v := V.one (.sc _)) rfl rfl rfl) rfl rfl (gle rfl) (fun _ _ _ _ h => h) ?_
                    refine DW.stores ?_
                    refine SV.zend ?_
                    refine SV.tn ?_
                    refine SV.cond rfl (fun hc4 => ?_) (fun hc4 => ?_)
                    · skip   -- c4.T
                      (exfalso; first | (simp at hc4; done) | (simp at hc4; omega))
                    · skip   -- c4.F
                      refine SV.skip ?_
                      refine SV.tn ?_
                      refine SV.seq' ?_
                      refine SV.region ?_
                      refine SV.op (OpL.ok (nb := 1) (ok_move (v := V.one (.sc _)) (.inr rfl) rfl) rfl (gle rfl)) rfl ?_
                      refine SV.nil ?_
                      refine SV.tn ?_
                      refine SV.block ?_
                      refine SV.loopF (X := Nat) (fun (σ : VS) q => ((((((((((VS.nil.new (σ.tree 0)).new (σ.tree 1)).new (σ.tree 2)).box 26 [σ.bl 0 0, σ.bl 0 1, .hd 1, .hd 2]).put 2 (σ.tm 2)).put 3 (V.flat false [.bp 0 0])).put 4 (V.flat false [.hd 0])).put 5 (σ.tm 5)).put 6 (V.flat false [.sc (.int .i64 ((t : Int)))])).put 9 (V.flat false [.sc (.int .i64 ((q : Int)))]))) (fun q => q ≤ (BrokerD.grants b).length) (fun q => (BrokerD.grants b).length - q) ?_ ?_
                      · skip
                        refine SV.again (fun i => [0, 1, 2].getD i 0) 0 (Nat.zero_le _) (pins hE rfl rfl) (VS.le.mk' (le_put (le_put (le_put (le_put (le_put (le_put (le_box (le_new (le_new (le_new le_nil)))) (V.le.keep (ag := false) (xs := [.sc _]) (ys := [.sc _]) rfl rfl ⟨rfl, trivial⟩)) (V.le.keep (ag := false) (xs := [.bp 0 0]) (ys := [.bp 0 0]) rfl rfl ⟨⟨rfl, (gle rfl)⟩, trivial⟩)) (V.le.keep (ag := false) (xs := [.hd 0]) (ys := [.hd 0]) rfl rfl ⟨⟨rfl, (gle rfl), (gle rfl)⟩, trivial⟩)) (V.le.keep (ag := false) (xs := [.sc _]) (ys := [.sc _]) rfl rfl ⟨rfl, trivial⟩)) (V.le.keep (ag := false) (xs := [.sc _]) (ys := [.sc _]) rfl rfl ⟨(by first | rfl | (show Leaf.sc _ = Leaf.sc _; refine congrArg Leaf.sc ?_; first | rfl | go_num | (simp [cntAll]; done)) | (simp [cntAll]; done) | (simp; omega)), trivial⟩)) (V.le.keep (ag := false) (xs := [.sc _]) (ys := [.sc _]) rfl rfl ⟨(by first | rfl | (show Leaf.sc _ = Leaf.sc _; refine congrArg Leaf.sc ?_; first | rfl | go_num | (simp [cntAll]; done)) | (simp [cntAll]; done) | (simp; omega)), trivial⟩)) ⟨⟨rfl, ⟨rfl, rfl, ⟨rfl, (gle rfl), (gle rfl)⟩, ⟨rfl, (gle rfl), (gle rfl)⟩, trivial⟩⟩, trivial⟩ ⟨.inr ⟨_, _, rfl, rfl, (gle rfl)⟩, ⟨.inr ⟨_, _, rfl, rfl, (gle rfl)⟩, ⟨.inr ⟨_, _, rfl, rfl, (gle rfl)⟩, trivial⟩⟩⟩ (new_ob (new_ob (new_ob nil_ob))) (fun i j hi hj e => inj_list (l := [0, 1, 2]) (by decide) i j hi hj e))
                      · rintro q hq
                        refine SV.seq' ?_
                        refine SV.seq' ?_
                        refine SV.region ?_
                        refine SV.op (OpL.ok (nb := 1) (ok_move (v := V.one (.sc _)) (.inl rfl) rfl) rfl (gle rfl)) rfl ?_
                        refine SV.op (OpL.ok (nb := 1) (ok_move (v := V.one (.hd 0)) (.inl rfl) rfl) rfl (gle rfl)) rfl ?_
                        refine SV.op (OpL.ok (nb := 1) (ok_len (lf := .hd 0) rfl elt_int.und rfl rfl) rfl (gle rfl)) rfl ?_
                        refine SV.op (OpL.ok (nb := 1) (ok_s2 (x := .tmp 87) (x' := .tmp 89) (VScal.one rfl) (VScal.one rfl) (fun ρ h1 h2 w => by go_simp; (try go_bits); with_reducible rfl) rfl) rfl (gle rfl)) rfl ?_
                        refine SV.nil ?_
                        refine SV.tn ?_
                        refine SV.cond rfl (fun hc5 => ?_) (fun hc5 => ?_)
                        · skip   -- c5.T
                          have hql : q < (BrokerD.grants b).length := by simp at hc5; omega
                          have hqA : q < b.fActive.length := by omega
                          obtain ⟨hy, -, -, -, -⟩ := BrokerD.grant_at hO hqA
                          have hB : b.fActive[q]? = some b.fActive[q] := List.getElem?_eq_getElem hqA
                          refine SV.skip ?_
                          refine SV.tn ?_
                          refine SV.seq' ?_
                          refine SV.block ?_
                          refine SV.seq' ?_
                          refine SV.draw [.q 0, .q 1, .q 2, .q 3, .q 4, .q 5, .q 6, .q 7, .q 8, .q 9, .q 10, .q 11, .q 12, .q 13, .q 14, .q 15, .q 16, .q 17, .q 18, .q 19, .q 20, .q 21, .q 22, .q 23, .q 24, .q 25, .q 26, .q 27, .q 28, .q 29, .q 30, .q 31, .q 32] [] (by kernel_rfl) (by kernel_rfl) ?_
                          refine DW.q rfl (ok_field_bp (b := 0) (o' := 0) (off := 2) rfl rfl fld_impl_Broker_2) rfl rfl (gle rfl) (fun _ _ _ _ h => h) ?_
                          refine DW.q rfl (ok_load_bp (b := 0) (i := 2) (ag := false) (m := 1) (ys := [.hd 1]) rfl rfl rfl agg_s_impl_Client sz_s_impl_Client (fun _ => rfl) rfl rfl (gle rfl)) rfl rfl (gle rfl) (fun _ _ _ _ h => h) ?_
                          refine DW.q rfl (ok_move (v := V.one (.sc _)) (.inl rfl) rfl) rfl rfl (gle rfl) (fun _ _ _ _ h => h) ?_
                          refine DW.q rfl (ok_index (n := 3) (lf := .hd 1) rfl elt_impl_Client.und sz_impl_Client rfl rfl rfl (map_at hB)) rfl rfl (gle rfl) (fun _ _ _ _ h => h) ?_
                          refine DW.q rfl (ok_field_el (p := .ep 1 _ _ _) (off := 2) rfl rfl (cells_ep rfl (map_at hB) rfl rfl) fld_impl_Client_2) rfl rfl (gle rfl) (fun _ _ _ _ h => h) ?_
                          refine DW.el (ag := false) (m := 1) (ys := [.sc _]) rfl rfl rfl (cells_ep rfl (map_at hB) rfl rfl) agg_int sz_int (fun _ => rfl) (gle rfl) rfl rfl rfl (gle rfl) (fun _ _ _ _ h => h) ?_
                          refine DW.q rfl (ok_field_bp (b := 0) (o' := 0) (off := 2) rfl rfl fld_impl_Broker_2) rfl rfl (gle rfl) (fun _ _ _ _ h => h) ?_
                          refine DW.q rfl (ok_load_bp (b := 0) (i := 2) (ag := false) (m := 1) (ys := [.hd 1]) rfl rfl rfl agg_s_impl_Client sz_s_impl_Client (fun _ => rfl) rfl rfl (gle rfl)) rfl rfl (gle rfl) (fun _ _ _ _ h => h) ?_
                          refine DW.q rfl (ok_move (v := V.one (.sc _)) (.inl rfl) rfl) rfl rfl (gle rfl) (fun _ _ _ _ h => h) ?_
                          refine DW.q rfl (ok_index (n := 3) (lf := .hd 1) rfl elt_impl_Client.und sz_impl_Client rfl rfl rfl (map_at hA)) rfl rfl (gle rfl) (fun _ _ _ _ h => h) ?_
                          refine DW.q rfl (ok_field_el (p := .ep 1 _ _ _) (off := 2) rfl rfl (cells_ep rfl (map_at hA) rfl rfl) fld_impl_Client_2) rfl rfl (gle rfl) (fun _ _ _ _ h => h) ?_
                          refine DW.el (ag := false) (m := 1) (ys := [.sc _]) rfl rfl rfl (cells_ep rfl (map_at hA) rfl rfl) agg_int sz_int (fun _ => rfl) (gle rfl) rfl rfl rfl (gle rfl) (fun _ _ _ _ h => h) ?_
                          refine DW.q rfl (ok_s2 (x := .tmp 98) (x' := .tmp 104) (VScal.one rfl) (VScal.one rfl) (fun ρ h1 h2 w => by go_simp; (try go_bits); with_reducible rfl) rfl) rfl rfl (gle rfl) (fun _ _ _ _ h => h) ?_
                          refine DW.q rfl (ok_move (v := V.one (.sc _)) (.inl rfl) rfl) rfl rfl (gle rfl) (fun _ _ _ _ h => h) ?_
                          refine DW.split (d := 106) rfl (fun hg4 => ?_) (fun hg4 => ?_)
                          · skip   -- g4.T
                            refine DW.qY rfl (ok_move (v := V.one (.hd 0)) (.inl rfl) rfl) rfl rfl rfl (gle rfl) rfl rfl rfl (gle rfl) (fun _ _ _ _ h => h) ?_
                            refine DW.qY rfl (ok_move (v := V.one (.sc _)) (.inl rfl) rfl) rfl rfl rfl (gle rfl) rfl rfl rfl (gle rfl) (fun _ _ _ _ h => h) ?_
                            refine DW.qY rfl (ok_index (n := 1) (lf := .hd 0) rfl elt_int.und sz_int rfl rfl rfl (map_at hy)) rfl rfl rfl (gle rfl) rfl rfl rfl (gle rfl) (fun _ _ _ _ h => h) ?_
                            refine DW.el' (ag := false) (m := 1) (ys := [.sc _]) rfl rfl rfl (cells_ep rfl (map_at hy) rfl rfl) agg_int sz_int (fun _ => rfl) (gle rfl) rfl (fun hr => wantedY hr rfl rfl rfl (gle rfl) rfl rfl) rfl (gle rfl) (fun _ _ _ _ h => h) ?_
                            refine DW.qY rfl (ok_s2 (x := .tmp 110) (x' := .const ((Value.int IntKind.i64 8))) (VScal.one rfl) (VScal.one rfl) (fun ρ h1 h2 w => by go_simp; (try go_bits); with_reducible rfl) rfl) rfl rfl rfl (gle rfl) rfl rfl rfl (gle rfl) (fun _ _ _ _ h => h) ?_
                            refine DW.q rfl (ok_pickT (v := V.one (.sc _)) rfl rfl rfl) rfl rfl (gle rfl) (fun _ _ _ _ h => h) ?_
                            refine DW.q rfl (ok_move (v := V.one (.sc _)) (.inl rfl) rfl) rfl rfl (gle rfl) (fun _ _ _ _ h => h) ?_
                            refine DW.split (d := 113) rfl (fun hg5 => ?_) (fun hg5 => ?_)
                            · skip   -- g5.T
                              have hpp := BrokerD.grant_pr hO htA hqA (by simpa using hg4) (by simpa using hg5)
                              refine DW.qY rfl (ok_move (v := V.one (.hd 0)) (.inl rfl) rfl) rfl rfl rfl (gle rfl) rfl rfl rfl (gle rfl) (fun _ _ _ _ h => h) ?_
                              refine DW.qY rfl (ok_move (v := V.one (.sc _)) (.inl rfl) rfl) rfl rfl rfl (gle rfl) rfl rfl rfl (gle rfl) (fun _ _ _ _ h => h) ?_
                              refine DW.qY rfl (ok_index (n := 1) (lf := .hd 0) rfl elt_int.und sz_int rfl rfl rfl (map_at hx)) rfl rfl rfl (gle rfl) rfl rfl rfl (gle rfl) (fun _ _ _ _ h => h) ?_
                              refine DW.el' (ag := false) (m := 1) (ys := [.sc _]) rfl rfl rfl (cells_ep rfl (map_at hx) rfl rfl) agg_int sz_int (fun _ => rfl) (gle rfl) rfl (fun hr => wantedY hr rfl rfl rfl (gle rfl) rfl rfl) rfl (gle rfl) (fun _ _ _ _ h => h) ?_
                              refine DW.qY rfl (ok_field_bp (b := 0) (o' := 0) (off := 2) rfl rfl fld_impl_Broker_2) rfl rfl rfl (gle rfl) rfl rfl rfl (gle rfl) (fun _ _ _ _ h => h) ?_
                              refine DW.qY rfl (ok_load_bp (b := 0) (i := 2) (ag := false) (m := 1) (ys := [.hd 1]) rfl rfl rfl agg_s_impl_Client sz_s_impl_Client (fun _ => rfl) rfl rfl (gle rfl)) rfl rfl rfl (gle rfl) rfl rfl rfl (gle rfl) (fun _ _ _ _ h => h) ?_
                              refine DW.qY rfl (ok_move (v := V.one (.sc _)) (.inl rfl) rfl) rfl rfl rfl (gle rfl) rfl rfl rfl (gle rfl) (fun _ _ _ _ h => h) ?_
                              refine DW.qY rfl (ok_index (n := 3) (lf := .hd 1) rfl elt_impl_Client.und sz_impl_Client rfl rfl rfl (map_at hA)) rfl rfl rfl (gle rfl) rfl rfl rfl (gle rfl) (fun _ _ _ _ h => h) ?_
                              refine DW.qY rfl (ok_field_el (p := .ep 1 _ _ _) (off := 1) rfl rfl (cells_ep rfl (map_at hA) rfl rfl) fld_impl_Client_1) rfl rfl rfl (gle rfl) rfl rfl rfl (gle rfl) (fun _ _ _ _ h => h) ?_
                              refine DW.el' (ag := false) (m := 1) (ys := [.sc _]) rfl rfl rfl (cells_ep rfl (map_at hA) rfl rfl) agg_int sz_int (fun _ => rfl) (gle rfl) rfl (fun hr => wantedY hr rfl rfl rfl (gle rfl) rfl rfl) rfl (gle rfl) (fun _ _ _ _ h => h) ?_
                              refine DW.qY rfl (ok_s2 (x := .tmp 117) (x' := .tmp 123) (VScal.one rfl) (VScal.one rfl) (fun ρ h1 h2 w => by go_simp; (try go_bits); with_reducible rfl) rfl) rfl rfl rfl (gle rfl) rfl rfl rfl (gle rfl) (fun _ _ _ _ h => h) ?_
                              refine DW.q rfl (ok_pickT (v := V.one (.sc _)) rfl rfl rfl) rfl rfl (gle rfl) (fun _ _ _ _ h => h) ?_
                              refine DW.stores ?_
                              refine SV.zend ?_
                              refine SV.tn ?_
                              refine SV.cond rfl (fun hc6 => ?_) (fun hc6 => ?_)
                              · skip   -- c6.T
                                (exfalso; first | (simp at hc6; done) | (simp at hc6; omega))
                              · skip   -- c6.F
                                refine SV.skip ?_
                                refine SV.bn ?_
                                refine SV.tn ?_
                                refine SV.region ?_
                                refine SV.op (OpL.ok (nb := 1) (ok_move (v := V.one (.sc _)) (.inl rfl) rfl) rfl (gle rfl)) rfl ?_
                                refine SV.op (OpL.ok (nb := 1) (ok_s2 (x := .tmp 91) (x' := .const ((Value.int IntKind.i64 1))) (VScal.one rfl) (VScal.one rfl) (fun ρ h1 h2 w => by go_simp; (try go_bits); with_reducible rfl) rfl) rfl (gle rfl)) rfl ?_
                                refine SV.op (OpL.ok (nb := 1) (ok_move (v := V.one (.sc _)) (.inr rfl) rfl) rfl (gle rfl)) rfl ?_
                                refine SV.nil ?_
                                refine SV.tn ?_
                                refine SV.again (fun i => [0, 1, 2].getD i 0) (q + 1) (⟨by omega, by omega⟩) (pins hE rfl rfl) (VS.le.mk' (le_put (le_put (le_put (le_put (le_put (le_put (le_box (le_new (le_new (le_new le_nil)))) (V.le.keep (ag := false) (xs := [.sc _]) (ys := [.sc _]) rfl rfl ⟨rfl, trivial⟩)) (V.le.keep (ag := false) (xs := [.bp 0 0]) (ys := [.bp 0 0]) rfl rfl ⟨⟨rfl, (gle rfl)⟩, trivial⟩)) (V.le.keep (ag := false) (xs := [.hd 0]) (ys := [.hd 0]) rfl rfl ⟨⟨rfl, (gle rfl), (gle rfl)⟩, trivial⟩)) (V.le.keep (ag := false) (xs := [.sc _]) (ys := [.sc _]) rfl rfl ⟨rfl, trivial⟩)) (V.le.keep (ag := false) (xs := [.sc _]) (ys := [.sc _]) rfl rfl ⟨(by first | rfl | (show Leaf.sc _ = Leaf.sc _; refine congrArg Leaf.sc ?_; first | rfl | go_num | (simp [cntAll]; done)) | (simp [cntAll]; done) | (simp; omega)), trivial⟩)) (V.le.keep (ag := false) (xs := [.sc _]) (ys := [.sc _]) rfl rfl ⟨(by first | rfl | (show Leaf.sc _ = Leaf.sc _; refine congrArg Leaf.sc ?_; first | rfl | go_num | (simp [cntAll]; done)) | (simp [cntAll]; done) | (simp; omega)), trivial⟩)) ⟨⟨rfl, ⟨rfl, rfl, ⟨rfl, (gle rfl), (gle rfl)⟩, ⟨rfl, (gle rfl), (gle rfl)⟩, trivial⟩⟩, trivial⟩ ⟨.inr ⟨_, _, rfl, rfl, (gle rfl)⟩, ⟨.inr ⟨_, _, rfl, rfl, (gle rfl)⟩, ⟨.inr ⟨_, _, rfl, rfl, (gle rfl)⟩, trivial⟩⟩⟩ (new_ob (new_ob (new_ob nil_ob))) (fun i j hi hj e => inj_list (l := [0, 1, 2]) (by decide) i j hi hj e))
                            · skip   -- g5.F
                              refine DW.qN (V' := V.one .dead) rfl rfl rfl rfl (gle rfl) rfl rfl rfl (gle rfl) (fun _ _ _ _ h => h) ?_
                              refine DW.qN (V' := V.one .dead) rfl rfl rfl rfl (gle rfl) rfl rfl rfl (gle rfl) (fun _ _ _ _ h => h) ?_
                              refine DW.qN (V' := V.one .dead) rfl rfl rfl rfl (gle rfl) rfl rfl rfl (gle rfl) (fun _ _ _ _ h => h) ?_
                              refine DW.qN (V' := V.one .dead) rfl rfl rfl rfl (gle rfl) rfl rfl rfl (gle rfl) (fun _ _ _ _ h => h) ?_
                              refine DW.qN (V' := V.one .dead) rfl rfl rfl rfl (gle rfl) rfl rfl rfl (gle rfl) (fun _ _ _ _ h => h) ?_
                              refine DW.qN (V' := V.one .dead) rfl rfl rfl rfl (gle rfl) rfl rfl rfl (gle rfl) (fun _ _ _ _ h => h) ?_
                              refine DW.qN (V' := V.one .dead) rfl rfl rfl rfl (gle rfl) rfl rfl rfl (gle rfl) (fun _ _ _ _ h => h) ?_
                              refine DW.qN (V' := V.one .dead) rfl rfl rfl rfl (gle rfl) rfl rfl rfl (gle rfl) (fun _ _ _ _ h => h) ?_
                              refine DW.qN (V' := V.one .dead) rfl rfl rfl rfl (gle rfl) rfl rfl rfl (gle rfl) (fun _ _ _ _ h => h) ?_
                              refine DW.qN (V' := V.one .dead) rfl rfl rfl rfl (gle rfl) rfl rfl rfl (gle rfl) (fun _ _ _ _ h => h) ?_
                              refine DW.qN (V' := V.one .dead) rfl rfl rfl rfl (gle rfl) rfl rfl rfl (gle rfl) (fun _ _ _ _ h => h) ?_
                              refine DW.q rfl (ok_pickF (v := V.one (.sc _)) rfl rfl rfl) rfl rfl (gle rfl) (fun _ _ _ _ h => h) ?_
                              refine DW.stores ?_
                              refine SV.zend ?_
                              refine SV.tn ?_
                              refine SV.cond rfl (fun hc7 => ?_) (fun hc7 => ?_)
                              · skip   -- c7.T
                                cases hc7
                              · skip   -- c7.F
                                refine SV.skip ?_
                                refine SV.bn ?_
                                refine SV.tn ?_
                                refine SV.region ?_
                                refine SV.op (OpL.ok (nb := 1) (ok_move (v := V.one (.sc _)) (.inl rfl) rfl) rfl (gle rfl)) rfl ?_
                                refine SV.op (OpL.ok (nb := 1) (ok_s2 (x := .tmp 91) (x' := .const ((Value.int IntKind.i64 1))) (VScal.one rfl) (VScal.one rfl) (fun ρ h1 h2 w => by go_simp; (try go_bits); with_reducible rfl) rfl) rfl (gle rfl)) rfl ?_
                                refine SV.op (OpL.ok (nb := 1) (ok_move (v := V.one (.sc _)) (.inr rfl) rfl) rfl (gle rfl)) rfl ?_
                                refine SV.nil ?_
                                refine SV.tn ?_
                                refine SV.again (fun i => [0, 1, 2].getD i 0) (q + 1) (⟨by omega, by omega⟩) (pins hE rfl rfl) (VS.le.mk' (le_put (le_put (le_put (le_put (le_put (le_put (le_box (le_new (le_new (le_new le_nil)))) (V.le.keep (ag := false) (xs := [.sc _]) (ys := [.sc _]) rfl rfl ⟨rfl, trivial⟩)) (V.le.keep (ag := false) (xs := [.bp 0 0]) (ys := [.bp 0 0]) rfl rfl ⟨⟨rfl, (gle rfl)⟩, trivial⟩)) (V.le.keep (ag := false) (xs := [.hd 0]) (ys := [.hd 0]) rfl rfl ⟨⟨rfl, (gle rfl), (gle rfl)⟩, trivial⟩)) (V.le.keep (ag := false) (xs := [.sc _]) (ys := [.sc _]) rfl rfl ⟨rfl, trivial⟩)) (V.le.keep (ag := false) (xs := [.sc _]) (ys := [.sc _]) rfl rfl ⟨(by first | rfl | (show Leaf.sc _ = Leaf.sc _; refine congrArg Leaf.sc ?_; first | rfl | go_num | (simp [cntAll]; done)) | (simp [cntAll]; done) | (simp; omega)), trivial⟩)) (V.le.keep (ag := false) (xs := [.sc _]) (ys := [.sc _]) rfl rfl ⟨(by first | rfl | (show Leaf.sc _ = Leaf.sc _; refine congrArg Leaf.sc ?_; first | rfl | go_num | (simp [cntAll]; done)) | (simp [cntAll]; done) | (simp; omega)), trivial⟩)) ⟨⟨rfl, ⟨rfl, rfl, ⟨rfl, (gle rfl), (gle rfl)⟩, ⟨rfl, (gle rfl), (gle rfl)⟩, trivial⟩⟩, trivial⟩ ⟨.inr ⟨_, _, rfl, rfl, (gle rfl)⟩, ⟨.inr ⟨_, _, rfl, rfl, (gle rfl)⟩, ⟨.inr ⟨_, _, rfl, rfl, (gle rfl)⟩, trivial⟩⟩⟩ (new_ob (new_ob (new_ob nil_ob))) (fun i j hi hj e => inj_list (l := [0, 1, 2]) (by decide) i j hi hj e))
                          · skip   -- g4.F
                            refine DW.qN (V' := V.one .dead) rfl rfl rfl rfl (gle rfl) rfl rfl rfl (gle rfl) (fun _ _ _ _ h => h) ?_
                            refine DW.qN (V' := V.one .dead) rfl rfl rfl rfl (gle rfl) rfl rfl rfl (gle rfl) (fun _ _ _ _ h => h) ?_
                            refine DW.qN (V' := V.one .dead) rfl rfl rfl rfl (gle rfl) rfl rfl rfl (gle rfl) (fun _ _ _ _ h => h) ?_
                            refine DW.qN (V' := V.one .dead) rfl rfl rfl rfl (gle rfl) rfl rfl rfl (gle rfl) (fun _ _ _ _ h => h) ?_
                            refine DW.qN (V' := V.one .dead) rfl rfl rfl rfl (gle rfl) rfl rfl rfl (gle rfl) (fun _ _ _ _ h => h) ?_
                            refine DW.q rfl (ok_pickF (v := V.one (.sc _)) rfl rfl rfl) rfl rfl (gle rfl) (fun _ _ _ _ h => h) ?_
                            refine DW.q rfl (ok_move (v := V.one (.sc _)) (.inl rfl) rfl) rfl rfl (gle rfl) (fun _ _ _ _ h => h) ?_
                            refine DW.qN (V' := V.one .dead) rfl rfl rfl rfl (gle rfl) rfl rfl rfl (gle rfl) (fun _ _ _ _ h => h) ?_
                            refine DW.qN (V' := V.one .dead) rfl rfl rfl rfl (gle rfl) rfl rfl rfl (gle rfl) (fun _ _ _ _ h => h) ?_
                            refine DW.qN (V' := V.one .dead) rfl rfl rfl rfl (gle rfl) rfl rfl rfl (gle rfl) (fun _ _ _ _ h => h) ?_
                            refine DW.qN (V' := V.one .dead) rfl rfl rfl rfl (gle rfl) rfl rfl rfl (gle rfl) (fun _ _ _ _ h => h) ?_
                            refine DW.qN (V' := V.one .dead) rfl rfl rfl rfl (gle rfl) rfl rfl rfl (gle rfl) (fun _ _ _ _ h => h) ?_
                            refine DW.qN (V' := V.one .dead) rfl rfl rfl rfl (gle rfl) rfl rfl rfl (gle rfl) (fun _ _ _ _ h => h) ?_
                            refine DW.qN (V' := V.one .dead) rfl rfl rfl rfl (gle rfl) rfl rfl rfl (gle rfl) (fun _ _ _ _ h => h) ?_
                            refine DW.qN (V' := V.one .dead) rfl rfl rfl rfl (gle rfl) rfl rfl rfl (gle rfl) (fun _ _ _ _ h => h) ?_
                            refine DW.qN (V' := V.one .dead) rfl rfl rfl rfl (gle rfl) rfl rfl rfl (gle rfl) (fun _ _ _ _ h => h) ?_
                            refine DW.qN (V' := V.one .dead) rfl rfl rfl rfl (gle rfl) rfl rfl rfl (gle rfl) (fun _ _ _ _ h => h) ?_
                            refine DW.qN (V' := V.one .dead) rfl rfl rfl rfl (gle rfl) rfl rfl rfl (gle rfl) (fun _ _ _ _ h => h) ?_
                            refine DW.q rfl (ok_pickF (v := V.one (.sc _)) rfl rfl rfl) rfl rfl (gle rfl) (fun _ _ _ _ h => h) ?_
                            refine DW.stores ?_
                            refine SV.zend ?_
                            refine SV.tn ?_
                            refine SV.cond rfl (fun hc8 => ?_) (fun hc8 => ?_)
                            · skip   -- c8.T
                              cases hc8
                            · skip   -- c8.F
                              refine SV.skip ?_
                              refine SV.bn ?_
                              refine SV.tn ?_
                              refine SV.region ?_
                              refine SV.op (OpL.ok (nb := 1) (ok_move (v := V.one (.sc _)) (.inl rfl) rfl) rfl (gle rfl)) rfl ?_
                              refine SV.op (OpL.ok (nb := 1) (ok_s2 (x := .tmp 91) (x' := .const ((Value.int IntKind.i64 1))) (VScal.one rfl) (VScal.one rfl) (fun ρ h1 h2 w => by go_simp; (try go_bits); with_reducible rfl) rfl) rfl (gle rfl)) rfl ?_
                              refine SV.op (OpL.ok (nb := 1) (ok_move (v := V.one (.sc _)) (.inr rfl) rfl) rfl (gle rfl)) rfl ?_
                              refine SV.nil ?_
                              refine SV.tn ?_
                              refine SV.again (fun i => [0, 1, 2].getD i 0) (q + 1) (⟨by omega, by omega⟩) (pins hE rfl rfl) (VS.le.mk' (le_put (le_put (le_put (le_put (le_put (le_put (le_box (le_new (le_new (le_new le_nil)))) (V.le.keep (ag := false) (xs := [.sc _]) (ys := [.sc _]) rfl rfl ⟨rfl, trivial⟩)) (V.le.keep (ag := false) (xs := [.bp 0 0]) (ys := [.bp 0 0]) rfl rfl ⟨⟨rfl, (gle rfl)⟩, trivial⟩)) (V.le.keep (ag := false) (xs := [.hd 0]) (ys := [.hd 0]) rfl rfl ⟨⟨rfl, (gle rfl), (gle rfl)⟩, trivial⟩)) (V.le.keep (ag := false) (xs := [.sc _]) (ys := [.sc _]) rfl rfl ⟨rfl, trivial⟩)) (V.le.keep (ag := false) (xs := [.sc _]) (ys := [.sc _]) rfl rfl ⟨(by first | rfl | (show Leaf.sc _ = Leaf.sc _; refine congrArg Leaf.sc ?_; first | rfl | go_num | (simp [cntAll]; done)) | (simp [cntAll]; done) | (simp; omega)), trivial⟩)) (V.le.keep (ag := false) (xs := [.sc _]) (ys := [.sc _]) rfl rfl ⟨(by first | rfl | (show Leaf.sc _ = Leaf.sc _; refine congrArg Leaf.sc ?_; first | rfl | go_num | (simp [cntAll]; done)) | (simp [cntAll]; done) | (simp; omega)), trivial⟩)) ⟨⟨rfl, ⟨rfl, rfl, ⟨rfl, (gle rfl), (gle rfl)⟩, ⟨rfl, (gle rfl), (gle rfl)⟩, trivial⟩⟩, trivial⟩ ⟨.inr ⟨_, _, rfl, rfl, (gle rfl)⟩, ⟨.inr ⟨_, _, rfl, rfl, (gle rfl)⟩, ⟨.inr ⟨_, _, rfl, rfl, (gle rfl)⟩, trivial⟩⟩⟩ (new_ob (new_ob (new_ob nil_ob))) (fun i j hi hj e => inj_list (l := [0, 1, 2]) (by decide) i j hi hj e))
                        · skip   -- c5.F
                          refine SV.exit ?_
                          refine SV.te ?_
                          refine SV.te ?_
                          refine SV.bh ?_
                          refine SV.bn ?_
                          refine SV.tn ?_
                          refine SV.region ?_
                          refine SV.op (OpL.ok (nb := 1) (ok_move (v := V.one (.sc _)) (.inl rfl) rfl) rfl (gle rfl)) rfl ?_
                          refine SV.op (OpL.ok (nb := 1) (ok_s2 (x := .tmp 38) (x' := .const ((Value.int IntKind.i64 1))) (VScal.one rfl) (VScal.one rfl) (fun ρ h1 h2 w => by go_simp; (try go_bits); with_reducible rfl) rfl) rfl (gle rfl)) rfl ?_
                          refine SV.op (OpL.ok (nb := 1) (ok_move (v := V.one (.sc _)) (.inr rfl) rfl) rfl (gle rfl)) rfl ?_
                          refine SV.nil ?_
                          refine SV.tn ?_
                          refine SV.again (fun i => [0, 1, 2].getD i 0) (t + 1) (⟨by omega, by omega⟩) (pins hE rfl rfl) (VS.le.mk' (le_put (le_put (le_put (le_put (le_put (le_box (le_new (le_new (le_new le_nil)))) (V.le.keep (ag := false) (xs := [.sc _]) (ys := [.sc _]) rfl rfl ⟨rfl, trivial⟩)) (V.le.keep (ag := false) (xs := [.bp 0 0]) (ys := [.bp 0 0]) rfl rfl ⟨⟨rfl, (gle rfl)⟩, trivial⟩)) (V.le.keep (ag := false) (xs := [.hd 0]) (ys := [.hd 0]) rfl rfl ⟨⟨rfl, (gle rfl), (gle rfl)⟩, trivial⟩)) (V.le.keep (ag := false) (xs := [.sc _]) (ys := [.sc _]) rfl rfl ⟨(by first | rfl | (show Leaf.sc _ = Leaf.sc _; refine congrArg Leaf.sc ?_; first | rfl | go_num | (simp [cntAll]; done)) | (simp [cntAll]; done) | (simp; omega)), trivial⟩)) (V.le.keep (ag := false) (xs := [.sc _]) (ys := [.sc _]) rfl rfl ⟨(by first | rfl | (show Leaf.sc _ = Leaf.sc _; refine congrArg Leaf.sc ?_; first | rfl | go_num | (simp [cntAll]; done)) | (simp [cntAll]; done) | (simp; omega)), trivial⟩)) ⟨⟨rfl, ⟨rfl, rfl, ⟨rfl, (gle rfl), (gle rfl)⟩, ⟨rfl, (gle rfl), (gle rfl)⟩, trivial⟩⟩, trivial⟩ ⟨.inr ⟨_, _, rfl, rfl, (gle rfl)⟩, ⟨.inr ⟨_, _, rfl, rfl, (gle rfl)⟩, ⟨.inr ⟨_, _, rfl, rfl, (gle rfl)⟩, trivial⟩⟩⟩ (new_ob (new_ob (new_ob nil_ob))) (fun i j hi hj e => inj_list (l := [0, 1, 2]) (by decide) i j hi hj e))
            · skip   -- c3.F
              have hte : ¬ t < (BrokerD.grants b).length := by simp at hc3; omega
              have htt : t ≤ b.fActive.length ∧ b.fActive.length ≤ t := by omega
              have hsum : BrokerD.sumTo (BrokerD.grantAt (BrokerD.rest b) b.fActive) t ≤ b.fPool := by have e : t = b.fActive.length := (by omega); rw [e]; exact hO.sum
              refine SV.exit ?_
              refine SV.te ?_
              refine SV.te ?_
              refine SV.bh ?_
              refine SV.tn ?_
              refine SV.seq' ?_
              refine SV.region ?_
              refine SV.op (OpL.ok (nb := 1) (ok_move (v := V.one (.sc _)) (.inl rfl) rfl) rfl (gle rfl)) rfl ?_
              refine SV.op (OpL.ok (nb := 1) (ok_field_bp (b := 0) (o' := 0) (off := 0) rfl rfl fld_impl_Broker_0) rfl (gle rfl)) rfl ?_
              refine SV.op (OpL.ok (nb := 1) (ok_load_bp (b := 0) (i := 0) (ag := false) (m := 1) (ys := [.sc _]) rfl rfl rfl agg_int sz_int (fun _ => rfl) rfl rfl (gle rfl)) rfl (gle rfl)) rfl ?_
              refine SV.op (OpL.ok (nb := 1) (ok_s2 (x := .tmp 126) (x' := .tmp 128) (VScal.one rfl) (VScal.one rfl) (fun ρ h1 h2 w => by go_simp; (try go_bits); with_reducible rfl) rfl) rfl (gle rfl)) rfl ?_
              refine SV.op (OpL.ok (nb := 1) (ok_move (v := V.one (.sc _)) (.inl rfl) rfl) rfl (gle rfl)) rfl ?_
              refine SV.split (d := 130) rfl (fun hg6 => ?_) (fun hg6 => ?_)
              · skip   -- g6.T
                refine SV.opY (OpL.ok (nb := 1) (ok_move (v := V.one (.hd 0)) (.inl rfl) rfl) rfl (gle rfl)) rfl rfl rfl (gle rfl) rfl rfl ?_
                refine SV.opY (OpL.ok (nb := 1) (ok_len (lf := .hd 0) rfl elt_int.und rfl rfl) rfl (gle rfl)) rfl rfl rfl (gle rfl) rfl rfl ?_
                refine SV.opY (OpL.ok (nb := 1) (ok_field_bp (b := 0) (o' := 0) (off := 2) rfl rfl fld_impl_Broker_2) rfl (gle rfl)) rfl rfl rfl (gle rfl) rfl rfl ?_
                refine SV.opY (OpL.ok (nb := 1) (ok_load_bp (b := 0) (i := 2) (ag := false) (m := 1) (ys := [.hd 1]) rfl rfl rfl agg_s_impl_Client sz_s_impl_Client (fun _ => rfl) rfl rfl (gle rfl)) rfl (gle rfl)) rfl rfl rfl (gle rfl) rfl rfl ?_
                refine SV.opY (OpL.ok (nb := 1) (ok_len (lf := .hd 1) rfl elt_impl_Client.und rfl rfl) rfl (gle rfl)) rfl rfl rfl (gle rfl) rfl rfl ?_
                refine SV.opY (OpL.ok (nb := 1) (ok_s2 (x := .tmp 132) (x' := .tmp 135) (VScal.one rfl) (VScal.one rfl) (fun ρ h1 h2 w => by go_simp; (try go_bits); with_reducible rfl) rfl) rfl (gle rfl)) rfl rfl rfl (gle rfl) rfl rfl ?_
                refine SV.op (OpL.ok (nb := 1) (ok_pickT (v := V.one (.sc _)) rfl rfl rfl) rfl (gle rfl)) rfl ?_
                refine SV.op (OpL.ok (nb := 1) (ok_move (v := V.one (.sc _)) (.inr rfl) rfl) rfl (gle rfl)) rfl ?_
                refine SV.nil ?_
                refine SV.tn ?_
                refine SV.ret ?_
                apply SV.done (hf := Try.results3) (ht := rfl) (he := .inl rfl)
                case hr => exact (ResAll.cons (ResOk.tmp (ag := false) (xs := [.sc _]) rfl) ResAll.nil')
                case h2 => simp [two]
                refine ⟨rfl, ⟨?_, trivial⟩, trivial⟩ <;> first | rfl | ((show some (T.lit (Value.bool _)) = some (T.lit (Value.bool _)); refine congrArg (fun z => some (T.lit (Value.bool z))) ?_; first | (rw [hge]; rfl) | (simp; omega) | (rw [decide_eq_true_iff]; omega)))
              · skip   -- g6.F
                (exfalso; first | (simp at hg6; done) | (simp at hg6; omega))
end Go.Proofs.Ytfghhjcfmmhacaa
/- Clients that lie in memory, as cells; a slice of clients told by trees lies so. -/
namespace Go.Proofs.Ytfghhjcfmmhacaa
open Go Go.RowKit V
set_option linter.unusedVariables false
def ClIn (w : World) (a : Option Addr) (L : List ClientD) : Prop := ∀ (t : Nat) (c : ClientD), L[t]? = some c → ∃ b o : Nat, a = some ⟨b, o, none⟩ ∧ b < w.heap.size ∧
  w.cell? ⟨b, o + t * 3, none⟩ = some (.int .i64 c.fID) ∧ w.cell? ⟨b, o + t * 3 + 1, none⟩ = some (.int .i64 c.fRequested) ∧ w.cell? ⟨b, o + t * 3 + 2, none⟩ = some (.int .i64 c.fPriority)
theorem ClIn.keep {w w' : World} {a : Option Addr} {L : List ClientD} (h : ClIn w a L) (hb : Below w.heap.size w w') : ClIn w' a L := fun t c ht => by
  obtain ⟨b, o, h1, h2, h3, h4, h5⟩ := h t c ht
  exact ⟨b, o, h1, Nat.lt_of_lt_of_le h2 hb.size, (hb.cell h2).trans h3, (hb.cell h2).trans h4, (hb.cell h2).trans h5⟩
theorem inn_cl {ok : Nat → Prop} {w : World} {L : List ClientD} {v : Value} (h : Inn ok w (.seq 35 (L.map tClient)) v) : ∃ a c, v = .slice a L.length c ∧ L.length ≤ c ∧ c ≤ maxLen ∧ ClIn w a L := by
  cases h with
  | @seq _ _ a c n hp hz hn hc hm h0 b o us ha hb hcell hr =>
    have h3 : n = 3 := hz.eq sz_impl_Client
    subst h3
    rw [List.length_map] at hc
    refine ⟨a, c, by rw [List.length_map], hc, hm, fun t x hx => ?_⟩
    have hxl := V.get_lt hx
    have hne : L.map tClient ≠ [] := fun e => by have := congrArg List.length e; simp at this; subst this; simp at hxl
    obtain ⟨-, hbw⟩ := hb hne
    have hmx : (L.map tClient)[t]? = some (tClient x) := by rw [List.getElem?_map, hx]; rfl
    have hc0 := hcell t (tClient x) 0 _ hmx rfl
    have hc1 := hcell t (tClient x) 1 _ hmx rfl
    have hc2 := hcell t (tClient x) 2 _ hmx rfl
    rw [inn_lit (hr t (tClient x) 0 _ hmx rfl)] at hc0
    rw [inn_lit (hr t (tClient x) 1 _ hmx rfl)] at hc1
    rw [inn_lit (hr t (tClient x) 2 _ hmx rfl)] at hc2
    cases a with
    | none => have := h0 rfl; omega
    | some ad => exact ⟨b, o, by rw [ha ad rfl hne], hbw, hc0, hc1, hc2⟩
theorem VC.clients {P : Program} {f : FuncId} {L : List ClientD} {ns : List Int} {tup : Bool} {rs : List (Bool × List T)}
    (h : ∀ (w : World) (a : Option Addr) (c : Nat), L.length ≤ c → c ≤ maxLen → ClIn w a L → Calls P f (#[.slice a L.length c] ++ (ns.map fun x => Value.int .i64 x).toArray) w (V.Gives (Env.of w) tup rs)) :
    VC P f ((false, [.seq 35 (L.map tClient)]) :: ns.map fun x => (false, [T.lit (.int .i64 x)])) tup rs := fun w vs hv => by
  obtain ⟨hl, ha⟩ := hv
  cases vs with
  | nil => simp at hl
  | cons v us =>
    obtain ⟨ws, e1, e2, e3⟩ := ha 0 false _ v rfl rfl
    match ws, e2 with
    | [x], _ =>
      obtain ⟨a, c, hx, h1, h2, h3⟩ := inn_cl (e3 0 _ x rfl rfl)
      have hus : us = ns.map fun x => Value.int .i64 x := by
        apply List.ext_getElem?
        intro j
        have hlu : us.length = ns.length := by simpa using hl
        rcases Nat.lt_or_ge j ns.length with hj | hj
        · have hj' : j < us.length := by omega
          obtain ⟨ws, f1, f2, f3⟩ := ha (j + 1) false [.lit (.int .i64 ns[j])] us[j] (by simp [hj]) (by simp [hj'])
          match ws, f2 with
          | [y], _ =>
            have f4 := inn_lit (f3 0 _ y rfl rfl)
            rw [List.getElem?_eq_getElem hj', f1, f4, List.getElem?_map, List.getElem?_eq_getElem hj]
            rfl
        · rw [List.getElem?_eq_none (by omega), List.getElem?_eq_none (by simpa using hj)]
      have := h w a c h1 h2 h3
      rw [e1, show cval false [x] = x from rfl, hx, hus]
      simpa using this
end Go.Proofs.Ytfghhjcfmmhacaa
/- The program's place of a client among others (a closure and slices.IndexFunc), by contract. -/
namespace Go.Proofs.Ytfghhjcfmmhacaa
open Go Go.RowKit V
set_option linter.unusedVariables false
theorem ihas (x0 x1 x2 : Int) (nb : Nat) (id : Int) (w : World) (h : w.cell? ⟨nb, 0, none⟩ = some (.int .i64 id)) (hb : nb < w.heap.size) :
    Calls Try.prog 83 #[.agg #[.int .i64 x0, .int .i64 x1, .int .i64 x2], .pointer (some ⟨nb, 0, none⟩)] w fun e w' => e = .returned (.bool (x0 == id)) ∧ Below w.heap.size w w' := by
  have hne : nb ≠ w.heap.size := by omega
  have b0 : Below w.heap.size w (w.alloc (.cells #[.int .i64 x0, .int .i64 x1, .int .i64 x2] 35)) := (Below.refl _ _).alloc (Nat.le_refl _) _
  have B0 := Lib.hid b0
  have h1 : (w.alloc (.cells #[.int .i64 x0, .int .i64 x1, .int .i64 x2] 35)).cell? ⟨nb, 0, none⟩ = some (.int .i64 id) := Lib.cell?_alloc_some _ h
  clear b0 h
  go_enter Try.func83, Try.ntmps83
  go_wp2_with fail
  go_ret
  exact ⟨rfl, B0.out⟩
set_option maxRecDepth 100000 in
set_option maxHeartbeats 1000000 in
theorem iidxfn (a : Option Addr) (c : Nat) (L : List ClientD) (nb : Nat) (id : Int) (w : World) (hi : ClIn w a L) (hn : L.length ≤ 1000000000) (h : w.cell? ⟨nb, 0, none⟩ = some (.int .i64 id)) (hb : nb < w.heap.size) :
    Calls Try.prog 82 #[.slice a L.length c, .func (.func 83) #[] #[.pointer (some ⟨nb, 0, none⟩)]] w fun e w' => e = .returned (.int .i64 (BrokerD.atI L id)) ∧ Below w.heap.size w w' := by
  obtain ⟨n, hnl⟩ : ∃ n, n = L.length := ⟨_, rfl⟩
  rw [← hnl] at hn ⊢
  have HI := Lib.hid hi
  have HC := Lib.hid h
  have HB := Lib.hid hb
  have HL := Lib.hid hnl
  clear hi h hb hnl
  go_enter Try.func82, Try.ntmps82
  go_wp2_with fail
  go_loopw [8] (fun i wr => ∃ (t : Nat), i = .int .i64 t ∧ t ≤ n ∧ Hid (∀ (s : Nat) (g : ClientD), s < t → L[s]? = some g → g.fID ≠ id) ∧ Hid (Below w.heap.size w wr)) (fun i _ => n - (intOf i).toNat)
  case atStart => exact ⟨0, rfl, Nat.zero_le _, fun s g hs => absurd hs (Nat.not_lt_zero _), Below.refl _ _⟩
  case round =>
    obtain ⟨t, rfl, ht, hno, hwr⟩ := hrel
    by_cases hlt : t < n
    · have htl : t < L.length := by have := HL.out; omega
      obtain ⟨f, hf⟩ : ∃ f, L[t]? = some f := ⟨L[t], by simp [htl]⟩
      obtain ⟨b, o, rfl, hbl, hce0, hce1, hce2⟩ := HI.out t f hf
      have HF := Lib.hid hf
      obtain ⟨x0, x1, x2⟩ := f
      have d0 : wr.cell? ⟨b, o + t * 3, none⟩ = some (.int .i64 x0) := (hwr.out.cell hbl).trans hce0
      have d1 : wr.cell? ⟨b, o + t * 3 + 1, none⟩ = some (.int .i64 x1) := (hwr.out.cell hbl).trans hce1
      have d2 : wr.cell? ⟨b, o + t * 3 + 2, none⟩ = some (.int .i64 x2) := (hwr.out.cell hbl).trans hce2
      clear hf hce0 hce1 hce2
      go_wp2_with fail
      clear d0 d1 d2
      refine (ihas x0 x1 x2 nb id wr ((hwr.out.cell HB.out).trans HC.out) (Nat.lt_of_lt_of_le HB.out hwr.out.size)).mono ?_
      rintro e w5 ⟨rfl, b5⟩
      have B5 := Lib.hid (hwr.out.trans (b5.mono hwr.out.size))
      clear b5
      by_cases he : x0 = id
      · have HA := Lib.hid (show BrokerD.atI L id = t from BrokerD.atI_some (BrokerD.at_some htl (by have := HF.out; rw [List.getElem?_eq_getElem htl] at this; rw [Option.some.inj this]; exact he) hno.out))
        have he' : (x0 == id) = true := by simpa using he
        clear he
        go_wp2_with fail
        go_ret
        exact ⟨by rw [HA.out]; rfl, B5.out⟩
      · have hne : (x0 == id) = false := by simpa using he
        have HE := Lib.hid he
        clear he
        go_wp2_with fail
        go_roundw
        case rel =>
          refine ⟨t + 1, by go_num, by omega, fun s g hs hg => ?_, B5⟩
          rcases Nat.lt_or_ge s t with h1 | h1
          · exact hno.out s g h1 hg
          · obtain rfl : s = t := by omega
            rw [HF.out] at hg
            cases hg
            exact HE.out
        case measure => simp [intOf]; omega
    · have HA := Lib.hid (show BrokerD.atI L id = -1 from BrokerD.atI_none (BrokerD.at_none fun g hg => by
        obtain ⟨s, hs, rfl⟩ := List.mem_iff_getElem.1 hg
        exact hno.out s _ (by have := HL.out; omega) (List.getElem?_eq_getElem hs)))
      go_wp2_with fail
      go_ret
      exact ⟨by rw [HA.out]; rfl, hwr.out⟩
theorem iidx (a : Option Addr) (c : Nat) (L : List ClientD) (id : Int) (w : World) (hi : ClIn w a L) (hn : L.length ≤ 1000000000) :
    Calls Try.prog 58 #[.slice a L.length c, .int .i64 id] w fun e w' => e = .returned (.int .i64 (BrokerD.atI L id)) ∧ Below w.heap.size w w' := by
  have b0 : Below w.heap.size w (w.alloc (.cells #[.int .i64 id] 3)) := (Below.refl _ _).alloc (Nat.le_refl _) _
  have k0 : (w.alloc (.cells #[.int .i64 id] 3)).heap[w.heap.size]? = some (.cells #[.int .i64 id] 3 (0, 0)) := heap_alloc_new _ _
  have hcall := iidxfn a c L w.heap.size id (w.alloc (.cells #[.int .i64 id] 3)) (hi.keep b0) hn (box_cell k0 0 _ rfl) (lt_of_block k0)
  have B0 := Lib.hid b0
  have HC := Lib.hid hcall
  obtain ⟨n, hnl⟩ : ∃ n, n = L.length := ⟨_, rfl⟩
  rw [← hnl] at HC ⊢
  clear b0 k0 hi hn hcall hnl
  go_enter Try.func58, Try.ntmps58
  go_wp2_with fail
  refine HC.out.mono ?_
  rintro e w5 ⟨rfl, b5⟩
  have B5 := Lib.hid (B0.out.trans (b5.mono B0.out.size))
  clear b5
  go_wp2_with fail
  go_ret
  exact ⟨rfl, B5.out⟩
theorem vatc_i (l : List ClientD) (id : Int) (hL : l.length ≤ 1000000000) : VC Try.prog 58 [(false, [.seq 35 (l.map tClient)]), (false, [.lit (.int .i64 id)])] false [(false, [.lit (.int .i64 (BrokerD.atI l id))])] :=
  VC.clients (ns := [id]) fun w a c h1 h2 h3 => (iidx a c l id w h3 hL).mono fun e w' ⟨he, hb⟩ => gives_plain (ag := false) (rs := [.int .i64 (BrokerD.atI l id)]) (fun u hu => by rw [List.mem_singleton.1 hu]; rfl) he hb
end Go.Proofs.Ytfghhjcfmmhacaa
/- The program's small functions of brokers: told by trees. -/
namespace Go.Proofs.Ytfghhjcfmmhacaa
open Go Go.RowKit V
set_option linter.unusedVariables false
set_option maxRecDepth 100000 in
set_option maxHeartbeats 2000000 in
theorem vispool_i (p : Int) : VC Try.prog 51 [(false, [.lit (.int .i64 (p))])] false [(false, [.lit (.bool (BrokerD.isPool p))])] := by
  refine VC.enter Try.func51 rfl Try.ntmps51 (gle rfl) fun E hE => ?_
  refine SV.seq' ?_
  refine SV.region ?_
  refine SV.op (OpL.ok (nb := 0) (ok_move (v := V.one (.sc _)) (.inr rfl) rfl) rfl (gle rfl)) rfl ?_
  refine SV.nil ?_
  refine SV.tn ?_
  refine SV.seq' ?_
  refine SV.region ?_
  refine SV.op (OpL.ok (nb := 0) (ok_move (v := V.one (.sc _)) (.inl rfl) rfl) rfl (gle rfl)) rfl ?_
  refine SV.op (OpL.ok (nb := 0) (ok_s2 (x := .tmp 3) (x' := .const ((Value.int IntKind.i64 8))) (VScal.one rfl) (VScal.one rfl) (fun ρ h1 h2 w => by go_simp; (try go_bits); with_reducible rfl) rfl) rfl (gle rfl)) rfl ?_
  refine SV.op (OpL.ok (nb := 0) (ok_move (v := V.one (.sc _)) (.inl rfl) rfl) rfl (gle rfl)) rfl ?_
  refine SV.split (d := 5) rfl (fun hg0 => ?_) (fun hg0 => ?_)
  · skip   -- g0.T
    refine SV.opY (OpL.ok (nb := 0) (ok_move (v := V.one (.sc _)) (.inl rfl) rfl) rfl (gle rfl)) rfl rfl rfl (gle rfl) rfl rfl ?_
    refine SV.opY (OpL.ok (nb := 0) (ok_s2 (x := .tmp 6) (x' := .const ((Value.int IntKind.i64 120))) (VScal.one rfl) (VScal.one rfl) (fun ρ h1 h2 w => by go_simp; (try go_bits); with_reducible rfl) rfl) rfl (gle rfl)) rfl rfl rfl (gle rfl) rfl rfl ?_
    refine SV.op (OpL.ok (nb := 0) (ok_pickT (v := V.one (.sc _)) rfl rfl rfl) rfl (gle rfl)) rfl ?_
    refine SV.op (OpL.ok (nb := 0) (ok_move (v := V.one (.sc _)) (.inr rfl) rfl) rfl (gle rfl)) rfl ?_
    refine SV.nil ?_
    refine SV.tn ?_
    refine SV.ret ?_
    apply SV.done (hf := Try.results51) (ht := rfl) (he := .inl rfl)
    case hr => exact (ResAll.cons (ResOk.tmp (ag := false) (xs := [.sc _]) rfl) ResAll.nil')
    case h2 => simp [two]
    refine ⟨rfl, ⟨?_, trivial⟩, trivial⟩ <;> (show some (T.lit (Value.bool _)) = some (T.lit (Value.bool _)); refine congrArg (fun z => some (T.lit (Value.bool z))) ?_; (unfold BrokerD.isPool; simp at hg0; simp; omega))
  · skip   -- g0.F
    refine SV.opN rfl rfl rfl (gle rfl) rfl rfl rfl (gle rfl) ?_
    refine SV.opN rfl rfl rfl (gle rfl) rfl rfl rfl (gle rfl) ?_
    refine SV.op (OpL.ok (nb := 0) (ok_pickF (v := V.one (.sc _)) rfl rfl rfl) rfl (gle rfl)) rfl ?_
    refine SV.op (OpL.ok (nb := 0) (ok_move (v := V.one (.sc _)) (.inr rfl) rfl) rfl (gle rfl)) rfl ?_
    refine SV.nil ?_
    refine SV.tn ?_
    refine SV.ret ?_
    apply SV.done (hf := Try.results51) (ht := rfl) (he := .inl rfl)
    case hr => exact (ResAll.cons (ResOk.tmp (ag := false) (xs := [.sc _]) rfl) ResAll.nil')
    case h2 => simp [two]
    refine ⟨rfl, ⟨?_, trivial⟩, trivial⟩ <;> (show some (T.lit (Value.bool _)) = some (T.lit (Value.bool _)); refine congrArg (fun z => some (T.lit (Value.bool z))) ?_; (unfold BrokerD.isPool; simp at hg0; simp; omega))
set_option maxRecDepth 100000 in
set_option maxHeartbeats 2000000 in
theorem vuptob_i (x m : Int) : VC Try.prog 52 [(false, [.lit (.int .i64 (x))]), (false, [.lit (.int .i64 (m))])] false [(false, [.lit (.bool (decide (0 ≤ x ∧ x ≤ m)))])] := by
  refine VC.enter Try.func52 rfl Try.ntmps52 (gle rfl) fun E hE => ?_
  refine SV.seq' ?_
  refine SV.region ?_
  refine SV.op (OpL.ok (nb := 0) (ok_move (v := V.one (.sc _)) (.inr rfl) rfl) rfl (gle rfl)) rfl ?_
  refine SV.nil ?_
  refine SV.tn ?_
  refine SV.seq' ?_
  refine SV.region ?_
  refine SV.op (OpL.ok (nb := 0) (ok_move (v := V.one (.sc _)) (.inl rfl) rfl) rfl (gle rfl)) rfl ?_
  refine SV.op (OpL.ok (nb := 0) (ok_s2 (x := .tmp 5) (x' := .const ((Value.int IntKind.i64 0))) (VScal.one rfl) (VScal.one rfl) (fun ρ h1 h2 w => by go_simp; (try go_bits); with_reducible rfl) rfl) rfl (gle rfl)) rfl ?_
  refine SV.op (OpL.ok (nb := 0) (ok_move (v := V.one (.sc _)) (.inl rfl) rfl) rfl (gle rfl)) rfl ?_
  refine SV.split (d := 7) rfl (fun hg0 => ?_) (fun hg0 => ?_)
  · skip   -- g0.T
    refine SV.opY (OpL.ok (nb := 0) (ok_move (v := V.one (.sc _)) (.inl rfl) rfl) rfl (gle rfl)) rfl rfl rfl (gle rfl) rfl rfl ?_
    refine SV.opY (OpL.ok (nb := 0) (ok_move (v := V.one (.sc _)) (.inl rfl) rfl) rfl (gle rfl)) rfl rfl rfl (gle rfl) rfl rfl ?_
    refine SV.opY (OpL.ok (nb := 0) (ok_s2 (x := .tmp 8) (x' := .tmp 9) (VScal.one rfl) (VScal.one rfl) (fun ρ h1 h2 w => by go_simp; (try go_bits); with_reducible rfl) rfl) rfl (gle rfl)) rfl rfl rfl (gle rfl) rfl rfl ?_
    refine SV.op (OpL.ok (nb := 0) (ok_pickT (v := V.one (.sc _)) rfl rfl rfl) rfl (gle rfl)) rfl ?_
    refine SV.op (OpL.ok (nb := 0) (ok_move (v := V.one (.sc _)) (.inr rfl) rfl) rfl (gle rfl)) rfl ?_
    refine SV.nil ?_
    refine SV.tn ?_
    refine SV.ret ?_
    apply SV.done (hf := Try.results52) (ht := rfl) (he := .inl rfl)
    case hr => exact (ResAll.cons (ResOk.tmp (ag := false) (xs := [.sc _]) rfl) ResAll.nil')
    case h2 => simp [two]
    refine ⟨rfl, ⟨?_, trivial⟩, trivial⟩ <;> (show some (T.lit (Value.bool _)) = some (T.lit (Value.bool _)); refine congrArg (fun z => some (T.lit (Value.bool z))) ?_; (simp at hg0; simp; omega))
  · skip   -- g0.F
    refine SV.opN rfl rfl rfl (gle rfl) rfl rfl rfl (gle rfl) ?_
    refine SV.opN rfl rfl rfl (gle rfl) rfl rfl rfl (gle rfl) ?_
    refine SV.opN rfl rfl rfl (gle rfl) rfl rfl rfl (gle rfl) ?_
    refine SV.op (OpL.ok (nb := 0) (ok_pickF (v := V.one (.sc _)) rfl rfl rfl) rfl (gle rfl)) rfl ?_
    refine SV.op (OpL.ok (nb := 0) (ok_move (v := V.one (.sc _)) (.inr rfl) rfl) rfl (gle rfl)) rfl ?_
    refine SV.nil ?_
    refine SV.tn ?_
    refine SV.ret ?_
    apply SV.done (hf := Try.results52) (ht := rfl) (he := .inl rfl)
    case hr => exact (ResAll.cons (ResOk.tmp (ag := false) (xs := [.sc _]) rfl) ResAll.nil')
    case h2 => simp [two]
    refine ⟨rfl, ⟨?_, trivial⟩, trivial⟩ <;> (show some (T.lit (Value.bool _)) = some (T.lit (Value.bool _)); refine congrArg (fun z => some (T.lit (Value.bool z))) ?_; (simp at hg0; simp; omega))
set_option maxRecDepth 100000 in
set_option maxHeartbeats 2000000 in
theorem viswant_i (x : Int) : VC Try.prog 71 [(false, [.lit (.int .i64 (x))])] false [(false, [.lit (.bool (BrokerD.isWant x))])] := by
  refine VC.enter Try.func71 rfl Try.ntmps71 (gle rfl) fun E hE => ?_
  refine SV.seq' ?_
  refine SV.region ?_
  refine SV.op (OpL.ok (nb := 0) (ok_move (v := V.one (.sc _)) (.inr rfl) rfl) rfl (gle rfl)) rfl ?_
  refine SV.nil ?_
  refine SV.tn ?_
  refine SV.seq' ?_
  refine SV.region ?_
  refine SV.op (OpL.ok (nb := 0) (ok_move (v := V.one (.sc _)) (.inl rfl) rfl) rfl (gle rfl)) rfl ?_
  refine SV.op (OpL.ok (nb := 0) (ok_s2 (x := .tmp 3) (x' := .const ((Value.int IntKind.i64 8))) (VScal.one rfl) (VScal.one rfl) (fun ρ h1 h2 w => by go_simp; (try go_bits); with_reducible rfl) rfl) rfl (gle rfl)) rfl ?_
  refine SV.op (OpL.ok (nb := 0) (ok_move (v := V.one (.sc _)) (.inl rfl) rfl) rfl (gle rfl)) rfl ?_
  refine SV.split (d := 5) rfl (fun hg0 => ?_) (fun hg0 => ?_)
  · skip   -- g0.T
    refine SV.opY (OpL.ok (nb := 0) (ok_move (v := V.one (.sc _)) (.inl rfl) rfl) rfl (gle rfl)) rfl rfl rfl (gle rfl) rfl rfl ?_
    refine SV.opY (OpL.ok (nb := 0) (ok_s2 (x := .tmp 6) (x' := .const ((Value.int IntKind.i64 60))) (VScal.one rfl) (VScal.one rfl) (fun ρ h1 h2 w => by go_simp; (try go_bits); with_reducible rfl) rfl) rfl (gle rfl)) rfl rfl rfl (gle rfl) rfl rfl ?_
    refine SV.op (OpL.ok (nb := 0) (ok_pickT (v := V.one (.sc _)) rfl rfl rfl) rfl (gle rfl)) rfl ?_
    refine SV.op (OpL.ok (nb := 0) (ok_move (v := V.one (.sc _)) (.inr rfl) rfl) rfl (gle rfl)) rfl ?_
    refine SV.nil ?_
    refine SV.tn ?_
    refine SV.ret ?_
    apply SV.done (hf := Try.results71) (ht := rfl) (he := .inl rfl)
    case hr => exact (ResAll.cons (ResOk.tmp (ag := false) (xs := [.sc _]) rfl) ResAll.nil')
    case h2 => simp [two]
    refine ⟨rfl, ⟨?_, trivial⟩, trivial⟩ <;> (show some (T.lit (Value.bool _)) = some (T.lit (Value.bool _)); refine congrArg (fun z => some (T.lit (Value.bool z))) ?_; (unfold BrokerD.isWant; simp at hg0; simp; omega))
  · skip   -- g0.F
    refine SV.opN rfl rfl rfl (gle rfl) rfl rfl rfl (gle rfl) ?_
    refine SV.opN rfl rfl rfl (gle rfl) rfl rfl rfl (gle rfl) ?_
    refine SV.op (OpL.ok (nb := 0) (ok_pickF (v := V.one (.sc _)) rfl rfl rfl) rfl (gle rfl)) rfl ?_
    refine SV.op (OpL.ok (nb := 0) (ok_move (v := V.one (.sc _)) (.inr rfl) rfl) rfl (gle rfl)) rfl ?_
    refine SV.nil ?_
    refine SV.tn ?_
    refine SV.ret ?_
    apply SV.done (hf := Try.results71) (ht := rfl) (he := .inl rfl)
    case hr => exact (ResAll.cons (ResOk.tmp (ag := false) (xs := [.sc _]) rfl) ResAll.nil')
    case h2 => simp [two]
    refine ⟨rfl, ⟨?_, trivial⟩, trivial⟩ <;> (show some (T.lit (Value.bool _)) = some (T.lit (Value.bool _)); refine congrArg (fun z => some (T.lit (Value.bool z))) ?_; (unfold BrokerD.isWant; simp at hg0; simp; omega))
set_option maxRecDepth 100000 in
set_option maxHeartbeats 2000000 in
theorem visdem_i (w p : Int) : VC Try.prog 61 [(false, [.lit (.int .i64 (w))]), (false, [.lit (.int .i64 (p))])] false [(false, [.lit (.bool (BrokerD.isWant w && decide (0 ≤ p ∧ p ≤ 9)))])] := by
  refine VC.enter Try.func61 rfl Try.ntmps61 (gle rfl) fun E hE => ?_
  refine SV.seq' ?_
  refine SV.region ?_
  refine SV.op (OpL.ok (nb := 0) (ok_move (v := V.one (.sc _)) (.inr rfl) rfl) rfl (gle rfl)) rfl ?_
  refine SV.nil ?_
  refine SV.tn ?_
  refine SV.seq' ?_
  refine SV.region ?_
  refine SV.op (OpL.ok (nb := 0) (ok_move (v := V.one (.sc _)) (.inl rfl) rfl) rfl (gle rfl)) rfl ?_
  refine SV.op (OpMk.ok (ok_call (ls := [(false, [.sc _])]) rfl rfl ⟨_, _, Try.func71, rfl, by decide⟩ (viswant_i w) ⟨⟨[.sc _], rfl, ⟨rfl, trivial⟩⟩, trivial⟩ rfl (gle rfl))) rfl ?_
  refine SV.op (OpL.ok (nb := 0) (ok_move (v := V.one (.sc _)) (.inl rfl) rfl) rfl (gle rfl)) rfl ?_
  refine SV.split (d := 7) rfl (fun hg0 => ?_) (fun hg0 => ?_)
  · skip   -- g0.T
    refine SV.opY (OpL.ok (nb := 0) (ok_move (v := V.one (.sc _)) (.inl rfl) rfl) rfl (gle rfl)) rfl rfl rfl (gle rfl) rfl rfl ?_
    refine SV.opY (OpMk.ok (ok_call (ls := [(false, [.sc _])]) rfl rfl ⟨_, _, Try.func52, rfl, by decide⟩ (vuptob_i p 9) ⟨⟨[.sc _], rfl, ⟨rfl, trivial⟩⟩, ⟨[.sc _], rfl, ⟨rfl, trivial⟩⟩, trivial⟩ rfl (gle rfl))) rfl rfl rfl (gle rfl) rfl rfl ?_
    refine SV.op (OpL.ok (nb := 0) (ok_pickT (v := V.one (.sc _)) rfl rfl rfl) rfl (gle rfl)) rfl ?_
    refine SV.op (OpL.ok (nb := 0) (ok_move (v := V.one (.sc _)) (.inr rfl) rfl) rfl (gle rfl)) rfl ?_
    refine SV.nil ?_
    refine SV.tn ?_
    refine SV.ret ?_
    apply SV.done (hf := Try.results61) (ht := rfl) (he := .inl rfl)
    case hr => exact (ResAll.cons (ResOk.tmp (ag := false) (xs := [.sc _]) rfl) ResAll.nil')
    case h2 => simp [two]
    refine ⟨rfl, ⟨?_, trivial⟩, trivial⟩ <;> (show some (T.lit (Value.bool _)) = some (T.lit (Value.bool _)); refine congrArg (fun z => some (T.lit (Value.bool z))) ?_; (rw [hg0]; simp; done))
  · skip   -- g0.F
    refine SV.opN rfl rfl rfl (gle rfl) rfl rfl rfl (gle rfl) ?_
    refine SV.opN rfl rfl rfl (gle rfl) rfl rfl rfl (gle rfl) ?_
    refine SV.op (OpL.ok (nb := 0) (ok_pickF (v := V.one (.sc _)) rfl rfl rfl) rfl (gle rfl)) rfl ?_
    refine SV.op (OpL.ok (nb := 0) (ok_move (v := V.one (.sc _)) (.inr rfl) rfl) rfl (gle rfl)) rfl ?_
    refine SV.nil ?_
    refine SV.tn ?_
    refine SV.ret ?_
    apply SV.done (hf := Try.results61) (ht := rfl) (he := .inl rfl)
    case hr => exact (ResAll.cons (ResOk.tmp (ag := false) (xs := [.sc _]) rfl) ResAll.nil')
    case h2 => simp [two]
    refine ⟨rfl, ⟨?_, trivial⟩, trivial⟩ <;> (show some (T.lit (Value.bool _)) = some (T.lit (Value.bool _)); refine congrArg (fun z => some (T.lit (Value.bool z))) ?_; (rw [hg0]; simp; done))
set_option maxRecDepth 100000 in
set_option maxHeartbeats 2000000 in
theorem vcap_i (b : BrokerD) (h0 : 0 ≤ b.fPool) (h1 : b.fPool ≤ 1000000) : VC Try.prog 62 [(true, tBroker b)] false [(false, [.lit (.int .i64 (BrokerD.room b.fPool))])] := by
  refine VC.enter Try.func62 rfl Try.ntmps62 (gle rfl) fun E hE => ?_
  refine SV.seq' ?_
  refine SV.region ?_
  refine SV.op (OpMk.ok (ok_box (kk := 0) (ag := true) (xs := [.sc _, .sc _, .ro _, .ro _]) rfl rfl rfl (fun h => by cases h) rfl rfl (gle rfl))) rfl ?_
  refine SV.op (OpL.ok (nb := 1) (ok_move (v := V.one (.sc _)) (.inr rfl) rfl) rfl (gle rfl)) rfl ?_
  refine SV.nil ?_
  refine SV.tn ?_
  refine SV.seq' ?_
  refine SV.region ?_
  refine SV.op (OpL.ok (nb := 1) (ok_field_bp (b := 0) (o' := 0) (off := 0) rfl rfl fld_impl_Broker_0) rfl (gle rfl)) rfl ?_
  refine SV.op (OpL.ok (nb := 1) (ok_load_bp (b := 0) (i := 0) (ag := false) (m := 1) (ys := [.sc _]) rfl rfl rfl agg_int sz_int (fun _ => rfl) rfl rfl (gle rfl)) rfl (gle rfl)) rfl ?_
  refine SV.op (OpL.ok (nb := 1) (ok_s2 (v := .int .i64 (b.fPool / 8)) (x := .tmp 4) (x' := .const ((Value.int IntKind.i64 8))) (VScal.one rfl) (VScal.one rfl) (fun ρ h1 h2 w => by go_simp; simp [Int.tdiv_eq_ediv_of_nonneg h0]; rw [IntWalk.i64_left, IntWalk.wrap64_in _ ⟨by omega, by omega⟩]) rfl) rfl (gle rfl)) rfl ?_
  refine SV.op (OpL.ok (nb := 1) (ok_s2 (x := .tmp 5) (x' := .const ((Value.int IntKind.i64 5))) (VScal.one rfl) (VScal.one rfl) (fun ρ h1 h2 w => by go_simp; (try go_bits); with_reducible rfl) rfl) rfl (gle rfl)) rfl ?_
  refine SV.op (OpL.ok (nb := 1) (ok_move (v := V.one (.sc _)) (.inr rfl) rfl) rfl (gle rfl)) rfl ?_
  refine SV.nil ?_
  refine SV.tn ?_
  refine SV.ret ?_
  apply SV.done (hf := Try.results62) (ht := rfl) (he := .inl rfl)
  case hr => exact (ResAll.cons (ResOk.tmp (ag := false) (xs := [.sc _]) rfl) ResAll.nil')
  case h2 => simp [two]
  refine ⟨rfl, ⟨?_, trivial⟩, trivial⟩ <;> (show some (T.lit (Value.int .i64 _)) = some (T.lit (Value.int .i64 _)); refine congrArg (fun z => some (T.lit (Value.int .i64 z))) ?_; (unfold BrokerD.room; first | omega | (rw [Int.min_def]; split <;> split <;> omega) | (rw [Int.min_def]; split <;> omega)))
set_option maxRecDepth 100000 in
set_option maxHeartbeats 2000000 in
theorem vwithin_i (b : BrokerD) (h0 : 0 ≤ b.fPool) (h1 : b.fPool ≤ 1000000) (hA : b.fActive.length ≤ 1000000000) (hW : b.fWaiting.length ≤ 1000000000) : VC Try.prog 53 [(true, tBroker b)] false [(false, [.lit (.bool (decide (((b.fActive.length : Int) < BrokerD.room b.fPool ∧ b.fWaiting.length = 0) ∨ (¬ (b.fActive.length : Int) < BrokerD.room b.fPool ∧ (b.fActive.length : Int) = BrokerD.room b.fPool ∧ b.fWaiting.length ≤ 5))))])] := by
  refine VC.enter Try.func53 rfl Try.ntmps53 (gle rfl) fun E hE => ?_
  refine SV.seq' ?_
  refine SV.region ?_
  refine SV.op (OpMk.ok (ok_box (kk := 0) (ag := true) (xs := [.sc _, .sc _, .ro _, .ro _]) rfl rfl rfl (fun h => by cases h) rfl rfl (gle rfl))) rfl ?_
  refine SV.op (OpL.ok (nb := 1) (ok_move (v := V.one (.sc _)) (.inr rfl) rfl) rfl (gle rfl)) rfl ?_
  refine SV.nil ?_
  refine SV.tn ?_
  refine SV.seq' ?_
  refine SV.seq' ?_
  refine SV.draw [.q 0, .q 1, .q 2, .q 3, .m 4, .q 5] [] (by kernel_rfl) (by kernel_rfl) ?_
  refine DW.q rfl (ok_field_bp (b := 0) (o' := 0) (off := 2) rfl rfl fld_impl_Broker_2) rfl rfl (gle rfl) (fun _ _ _ _ h => h) ?_
  refine DW.q rfl (ok_load_bp (b := 0) (i := 2) (ag := false) (m := 1) (ys := [.ro _]) rfl rfl rfl agg_s_impl_Client sz_s_impl_Client (fun _ => rfl) rfl rfl (gle rfl)) rfl rfl (gle rfl) (fun _ _ _ _ h => h) ?_
  refine DW.q rfl (ok_len (lf := .ro _) rfl elt_impl_Client.und rfl rfl) rfl rfl (gle rfl) (fun _ _ _ _ h => h) ?_
  refine DW.q rfl (ok_load_bp (b := 0) (i := 0) (ag := true) (m := 4) (ys := [.sc _, .sc _, .ro _, .ro _]) rfl rfl rfl agg_impl_Broker sz_impl_Broker (fun h => by cases h) rfl rfl (gle rfl)) rfl rfl (gle rfl) (fun _ _ _ _ h => h) ?_
  refine DW.m [] rfl (ok_call (ls := [(false, [.sc _])]) rfl rfl ⟨_, _, Try.func62, rfl, by decide⟩ (vcap_i b h0 h1) ⟨⟨[.sc _, .sc _, .ro _, .ro _], rfl, ⟨rfl, rfl, rfl, rfl, trivial⟩⟩, trivial⟩ rfl (gle rfl)) rfl (gle rfl) (gle rfl) (.inl rfl) (fun j hj => by cases hj) ?_
  refine DW.q rfl (ok_s2 (x := .tmp 5) (x' := .tmp 7) (VScal.one rfl) (VScal.one rfl) (fun ρ h1 h2 w => by go_simp; (try go_bits); with_reducible rfl) rfl) rfl rfl (gle rfl) (fun _ _ _ _ h => h) ?_
  refine DW.stores ?_
  refine SV.zend ?_
  refine SV.tn ?_
  refine SV.cond rfl (fun hc0 => ?_) (fun hc0 => ?_)
  · skip   -- c0.T
    refine SV.seq' ?_
    refine SV.region ?_
    refine SV.op (OpL.ok (nb := 1) (ok_field_bp (b := 0) (o' := 0) (off := 3) rfl rfl fld_impl_Broker_3) rfl (gle rfl)) rfl ?_
    refine SV.op (OpL.ok (nb := 1) (ok_load_bp (b := 0) (i := 3) (ag := false) (m := 1) (ys := [.ro _]) rfl rfl rfl agg_s_impl_Client sz_s_impl_Client (fun _ => rfl) rfl rfl (gle rfl)) rfl (gle rfl)) rfl ?_
    refine SV.op (OpL.ok (nb := 1) (ok_len (lf := .ro _) rfl elt_impl_Client.und rfl rfl) rfl (gle rfl)) rfl ?_
    refine SV.op (OpL.ok (nb := 1) (ok_s2 (x := .tmp 11) (x' := .const ((Value.int IntKind.i64 0))) (VScal.one rfl) (VScal.one rfl) (fun ρ h1 h2 w => by go_simp; (try go_bits); with_reducible rfl) rfl) rfl (gle rfl)) rfl ?_
    refine SV.op (OpL.ok (nb := 1) (ok_move (v := V.one (.sc _)) (.inr rfl) rfl) rfl (gle rfl)) rfl ?_
    refine SV.nil ?_
    refine SV.tn ?_
    refine SV.ret ?_
    refine SV.tr ?_
    apply SV.done (hf := Try.results53) (ht := rfl) (he := .inl rfl)
    case hr => exact (ResAll.cons (ResOk.tmp (ag := false) (xs := [.sc _]) rfl) ResAll.nil')
    case h2 => simp [two]
    refine ⟨rfl, ⟨?_, trivial⟩, trivial⟩ <;> (show some (T.lit (Value.bool _)) = some (T.lit (Value.bool _)); refine congrArg (fun z => some (T.lit (Value.bool z))) ?_; (rw [Bool.eq_iff_iff]; simp at *; first | done | omega | (simp_all; done) | (simp_all; omega)))
  · skip   -- c0.F
    refine SV.skip ?_
    refine SV.tn ?_
    refine SV.seq' ?_
    refine SV.draw [.q 0, .q 1, .q 2, .q 3, .m 4, .q 5, .q 6, .q 7, .q 8, .q 9, .q 10, .q 11, .q 12] [] (by kernel_rfl) (by kernel_rfl) ?_
    refine DW.q rfl (ok_field_bp (b := 0) (o' := 0) (off := 2) rfl rfl fld_impl_Broker_2) rfl rfl (gle rfl) (fun _ _ _ _ h => h) ?_
    refine DW.q rfl (ok_load_bp (b := 0) (i := 2) (ag := false) (m := 1) (ys := [.ro _]) rfl rfl rfl agg_s_impl_Client sz_s_impl_Client (fun _ => rfl) rfl rfl (gle rfl)) rfl rfl (gle rfl) (fun _ _ _ _ h => h) ?_
    refine DW.q rfl (ok_len (lf := .ro _) rfl elt_impl_Client.und rfl rfl) rfl rfl (gle rfl) (fun _ _ _ _ h => h) ?_
    refine DW.q rfl (ok_load_bp (b := 0) (i := 0) (ag := true) (m := 4) (ys := [.sc _, .sc _, .ro _, .ro _]) rfl rfl rfl agg_impl_Broker sz_impl_Broker (fun h => by cases h) rfl rfl (gle rfl)) rfl rfl (gle rfl) (fun _ _ _ _ h => h) ?_
    refine DW.m [] rfl (ok_call (ls := [(false, [.sc _])]) rfl rfl ⟨_, _, Try.func62, rfl, by decide⟩ (vcap_i b h0 h1) ⟨⟨[.sc _, .sc _, .ro _, .ro _], rfl, ⟨rfl, rfl, rfl, rfl, trivial⟩⟩, trivial⟩ rfl (gle rfl)) rfl (gle rfl) (gle rfl) (.inl rfl) (fun j hj => by cases hj) ?_
    refine DW.q rfl (ok_s2 (x := .tmp 15) (x' := .tmp 17) (VScal.one rfl) (VScal.one rfl) (fun ρ h1 h2 w => by go_simp; (try go_bits); with_reducible rfl) rfl) rfl rfl (gle rfl) (fun _ _ _ _ h => h) ?_
    refine DW.q rfl (ok_move (v := V.one (.sc _)) (.inl rfl) rfl) rfl rfl (gle rfl) (fun _ _ _ _ h => h) ?_
    refine DW.split (d := 19) rfl (fun hg0 => ?_) (fun hg0 => ?_)
    · skip   -- g0.T
      refine DW.qY rfl (ok_field_bp (b := 0) (o' := 0) (off := 3) rfl rfl fld_impl_Broker_3) rfl rfl rfl (gle rfl) rfl rfl rfl (gle rfl) (fun _ _ _ _ h => h) ?_
      refine DW.qY rfl (ok_load_bp (b := 0) (i := 3) (ag := false) (m := 1) (ys := [.ro _]) rfl rfl rfl agg_s_impl_Client sz_s_impl_Client (fun _ => rfl) rfl rfl (gle rfl)) rfl rfl rfl (gle rfl) rfl rfl rfl (gle rfl) (fun _ _ _ _ h => h) ?_
      refine DW.qY rfl (ok_len (lf := .ro _) rfl elt_impl_Client.und rfl rfl) rfl rfl rfl (gle rfl) rfl rfl rfl (gle rfl) (fun _ _ _ _ h => h) ?_
      refine DW.qY rfl (ok_s2 (x := .tmp 22) (x' := .const ((Value.int IntKind.i64 5))) (VScal.one rfl) (VScal.one rfl) (fun ρ h1 h2 w => by go_simp; (try go_bits); with_reducible rfl) rfl) rfl rfl rfl (gle rfl) rfl rfl rfl (gle rfl) (fun _ _ _ _ h => h) ?_
      refine DW.q rfl (ok_pickT (v := V.one (.sc _)) rfl rfl rfl) rfl rfl (gle rfl) (fun _ _ _ _ h => h) ?_
      refine DW.q rfl (ok_move (v := V.one (.sc _)) (.inr rfl) rfl) rfl rfl (gle rfl) (fun _ _ _ _ h => h) ?_
      refine DW.stores ?_
      refine SV.zend ?_
      refine SV.tn ?_
      refine SV.ret ?_
      apply SV.done (hf := Try.results53) (ht := rfl) (he := .inl rfl)
      case hr => exact (ResAll.cons (ResOk.tmp (ag := false) (xs := [.sc _]) rfl) ResAll.nil')
      case h2 => simp [two]
      refine ⟨rfl, ⟨?_, trivial⟩, trivial⟩ <;> (show some (T.lit (Value.bool _)) = some (T.lit (Value.bool _)); refine congrArg (fun z => some (T.lit (Value.bool z))) ?_; (rw [Bool.eq_iff_iff]; simp at *; first | done | omega | (simp_all; done) | (simp_all; omega)))
    · skip   -- g0.F
      refine DW.qN (V' := V.one .dead) rfl rfl rfl rfl (gle rfl) rfl rfl rfl (gle rfl) (fun _ _ _ _ h => h) ?_
      refine DW.qN (V' := V.one .dead) rfl rfl rfl rfl (gle rfl) rfl rfl rfl (gle rfl) (fun _ _ _ _ h => h) ?_
      refine DW.qN (V' := V.one .dead) rfl rfl rfl rfl (gle rfl) rfl rfl rfl (gle rfl) (fun _ _ _ _ h => h) ?_
      refine DW.qN (V' := V.one .dead) rfl rfl rfl rfl (gle rfl) rfl rfl rfl (gle rfl) (fun _ _ _ _ h => h) ?_
      refine DW.q rfl (ok_pickF (v := V.one (.sc _)) rfl rfl rfl) rfl rfl (gle rfl) (fun _ _ _ _ h => h) ?_
      refine DW.q rfl (ok_move (v := V.one (.sc _)) (.inr rfl) rfl) rfl rfl (gle rfl) (fun _ _ _ _ h => h) ?_
      refine DW.stores ?_
      refine SV.zend ?_
      refine SV.tn ?_
      refine SV.ret ?_
      apply SV.done (hf := Try.results53) (ht := rfl) (he := .inl rfl)
      case hr => exact (ResAll.cons (ResOk.tmp (ag := false) (xs := [.sc _]) rfl) ResAll.nil')
      case h2 => simp [two]
      refine ⟨rfl, ⟨?_, trivial⟩, trivial⟩ <;> (show some (T.lit (Value.bool _)) = some (T.lit (Value.bool _)); refine congrArg (fun z => some (T.lit (Value.bool z))) ?_; (rw [Bool.eq_iff_iff]; simp at *; first | done | omega | (simp_all; done) | (simp_all; omega)))
set_option maxRecDepth 100000 in
set_option maxHeartbeats 2000000 in
theorem vnewb_i (n : Int) : VC Try.prog 35 [(false, [.lit (.int .i64 (n))])] true [(true, tBroker (BrokerD.new n)), (false, [.lit (.bool (BrokerD.isPool n))])] := by
  refine VC.enter Try.func35 rfl Try.ntmps35 (gle rfl) fun E hE => ?_
  refine SV.seq' ?_
  refine SV.region ?_
  refine SV.op (OpMk.ok (ok_alloc (kk := 0) (xs := [.sc _, .sc _, .nl _, .nl _]) rfl rfl zero_impl_Broker ⟨rfl, rfl, rfl, rfl, rfl, ⟨3, by decide, sz_impl_Client⟩, rfl, ⟨3, by decide, sz_impl_Client⟩, trivial⟩ rfl (gle rfl))) rfl ?_
  refine SV.op (OpL.ok (nb := 1) (ok_move (v := V.one (.sc _)) (.inr rfl) rfl) rfl (gle rfl)) rfl ?_
  refine SV.nil ?_
  refine SV.tn ?_
  refine SV.seq' ?_
  refine SV.seq' ?_
  refine SV.region ?_
  refine SV.op (OpL.ok (nb := 1) (ok_move (v := V.one (.sc _)) (.inl rfl) rfl) rfl (gle rfl)) rfl ?_
  refine SV.op (OpMk.ok (ok_call (ls := [(false, [.sc _])]) rfl rfl ⟨_, _, Try.func51, rfl, by decide⟩ (vispool_i n) ⟨⟨[.sc _], rfl, ⟨rfl, trivial⟩⟩, trivial⟩ rfl (gle rfl))) rfl ?_
  refine SV.op (OpL.ok (nb := 1) (ok_s1 (x := .tmp 5) (VScal.one rfl) (fun ρ h1 w => by go_simp; (try go_bits); with_reducible rfl) rfl) rfl (gle rfl)) rfl ?_
  refine SV.nil ?_
  refine SV.tn ?_
  refine SV.cond rfl (fun hc0 => ?_) (fun hc0 => ?_)
  · skip   -- c0.T
    have ho : BrokerD.isPool n = false := by simpa using hc0
    refine SV.seq' ?_
    refine SV.region ?_
    refine SV.op (OpL.ok (nb := 1) (ok_build (zs := [.sc _, .sc _, .nl _, .nl _]) (ys := [.sc _, .sc _, .nl _, .nl _]) (qs := []) (pl := fun i => ([(0, 1), (1, 1), (2, 1), (3, 1)] : List (Nat × Nat))[i]?) rfl zero_impl_Broker ⟨rfl, rfl, rfl, rfl, rfl, ⟨3, by decide, sz_impl_Client⟩, rfl, ⟨3, by decide, sz_impl_Client⟩, trivial⟩ trivial bld_impl_Broker rfl) rfl (gle rfl)) rfl ?_
    refine SV.op (ok_store_bp (b := 0) (i := 0) (m := 4) (ag := true) (zs := [.sc _, .sc _, .nl _, .nl _]) (ys := [.sc _, .sc _, .nl _, .nl _]) rfl rfl rfl rfl sz_impl_Broker (fun h => by cases h) rfl (gle rfl) rfl rfl rfl) rfl ?_
    refine SV.op (OpL.ok (nb := 1) (ok_move (v := V.one (.sc _)) (.inr rfl) rfl) rfl (gle rfl)) rfl ?_
    refine SV.nil ?_
    refine SV.tn ?_
    refine SV.ret ?_
    refine SV.tr ?_
    apply SV.done (hf := Try.results35) (ht := rfl) (he := .inl rfl)
    case hr => exact (ResAll.cons (ResOk.cell (b := 0) (ag := true) (xs := [.sc _, .sc _, .nl _, .nl _]) rfl rfl agg_impl_Broker sz_impl_Broker (fun h => by cases h)) (ResAll.cons (ResOk.tmp (ag := false) (xs := [.sc _]) rfl) ResAll.nil'))
    case h2 => simp [two]
    refine ⟨rfl, ⟨?_, ?_, ?_, ?_, trivial⟩, ⟨rfl, ⟨?_, trivial⟩, trivial⟩⟩ <;> first | rfl | (unfold BrokerD.new; first | (rw [if_pos ho]; rfl) | (rw [if_neg (by rw [ho]; decide)]; rfl)) | ((show some (T.lit (Value.bool _)) = some (T.lit (Value.bool _)); refine congrArg (fun z => some (T.lit (Value.bool z))) ?_; rw [ho]))
  · skip   -- c0.F
    have ho : BrokerD.isPool n = true := by simpa using hc0
    refine SV.skip ?_
    refine SV.tn ?_
    refine SV.seq' ?_
    refine SV.region ?_
    refine SV.op (OpL.ok (nb := 1) (ok_move (v := V.one (.sc _)) (.inl rfl) rfl) rfl (gle rfl)) rfl ?_
    refine SV.op (OpL.ok (nb := 1) (ok_build (zs := [.sc _, .sc _, .nl _, .nl _]) (ys := [.sc _, .sc _, .nl _, .nl _]) (qs := [(0, [.sc _])]) (pl := fun i => ([(0, 1), (1, 1), (2, 1), (3, 1)] : List (Nat × Nat))[i]?) rfl zero_impl_Broker ⟨rfl, rfl, rfl, rfl, rfl, ⟨3, by decide, sz_impl_Client⟩, rfl, ⟨3, by decide, sz_impl_Client⟩, trivial⟩ ⟨⟨rfl, false, rfl, (fun _ => rfl), rfl⟩, trivial⟩ bld_impl_Broker rfl) rfl (gle rfl)) rfl ?_
    refine SV.op (ok_store_bp (b := 0) (i := 0) (m := 4) (ag := true) (zs := [.sc _, .sc _, .nl _, .nl _]) (ys := [.sc _, .sc _, .nl _, .nl _]) rfl rfl rfl rfl sz_impl_Broker (fun h => by cases h) rfl (gle rfl) rfl rfl rfl) rfl ?_
    refine SV.op (OpL.ok (nb := 1) (ok_move (v := V.one (.sc _)) (.inr rfl) rfl) rfl (gle rfl)) rfl ?_
    refine SV.nil ?_
    refine SV.tn ?_
    refine SV.ret ?_
    apply SV.done (hf := Try.results35) (ht := rfl) (he := .inl rfl)
    case hr => exact (ResAll.cons (ResOk.cell (b := 0) (ag := true) (xs := [.sc _, .sc _, .nl _, .nl _]) rfl rfl agg_impl_Broker sz_impl_Broker (fun h => by cases h)) (ResAll.cons (ResOk.tmp (ag := false) (xs := [.sc _]) rfl) ResAll.nil'))
    case h2 => simp [two]
    refine ⟨rfl, ⟨?_, ?_, ?_, ?_, trivial⟩, ⟨rfl, ⟨?_, trivial⟩, trivial⟩⟩ <;> first | rfl | (unfold BrokerD.new; first | (rw [if_pos ho]; rfl) | (rw [if_neg (by rw [ho]; decide)]; rfl)) | ((show some (T.lit (Value.bool _)) = some (T.lit (Value.bool _)); refine congrArg (fun z => some (T.lit (Value.bool z))) ?_; rw [ho]))
end Go.Proofs.Ytfghhjcfmmhacaa
/- The program's valid brokers: told by trees. -/
namespace Go.Proofs.Ytfghhjcfmmhacaa
open Go Go.RowKit V
set_option linter.unusedVariables false
def lowAt (l : List ClientD) (t : Nat) : Int := if t = 0 then 0 else match l[t - 1]? with
  | some c => c.fID + 1
  | none => 0
theorem lowAt_zero (l : List ClientD) : lowAt l 0 = 0 := rfl
theorem lowAt_succ {l : List ClientD} {t : Nat} {c : ClientD} (h : l[t]? = some c) : lowAt l (t + 1) = c.fID + 1 := by
  unfold lowAt
  rw [if_neg (Nat.succ_ne_zero t), Nat.add_sub_cancel, h]
theorem okAt_low {n : Int} {l : List ClientD} {t : Nat} {c : ClientD} (h : l[t]? = some c) (hb : ∀ k, k < t → BrokerD.okAt n l k = true) : BrokerD.okAt n l t = decide (lowAt l t ≤ c.fID ∧ c.fID < n ∧ (BrokerD.isWant c.fRequested && decide (0 ≤ c.fPriority ∧ c.fPriority ≤ 9)) = true) := by
  rw [BrokerD.okAt_some h, Bool.eq_iff_iff]
  simp only [Bool.and_eq_true, Bool.or_eq_true, beq_iff_eq, BrokerD.okC_iff, decide_eq_true_eq, BrokerD.isWant]
  cases t with
  | zero =>
    rw [lowAt_zero]
    constructor
    · rintro ⟨h1, -⟩; omega
    · intro h1; exact ⟨by omega, .inl rfl⟩
  | succ t =>
    have hl := V.get_lt h
    obtain ⟨d, hd⟩ : ∃ d, l[t]? = some d := ⟨_, List.getElem?_eq_getElem (by omega)⟩
    have hk := hb t (Nat.lt_succ_self t)
    rw [BrokerD.okAt_some hd] at hk
    simp only [Bool.and_eq_true, BrokerD.okC_iff] at hk
    rw [lowAt_succ hd, Nat.add_sub_cancel, hd]
    simp only [decide_eq_true_eq]
    constructor
    · rintro ⟨h1, h2⟩
      rcases h2 with h2 | h2
      · exact absurd h2 (Nat.succ_ne_zero t)
      · omega
    · intro h1; exact ⟨by omega, .inr (by omega)⟩
set_option maxRecDepth 100000 in
set_option maxHeartbeats 2000000 in
theorem vare_i (l : List ClientD) (n : Int) (hn : n ≤ 1000) (hL : l.length ≤ 1000000000) : VC Try.prog 54 [(false, [.seq 35 ((l).map tClient)]), (false, [.lit (.int .i64 (n))])] false [(false, [.lit (.bool (BrokerD.okL n l))])] := by
  refine VC.enter Try.func54 rfl Try.ntmps54 (gle rfl) fun E hE => ?_
  refine SV.seq' ?_
  refine SV.region ?_
  refine SV.op (OpL.ok (nb := 0) (ok_move (v := V.one (.sc _)) (.inr rfl) rfl) rfl (gle rfl)) rfl ?_
  refine SV.nil ?_
  refine SV.tn ?_
  refine SV.seq' ?_
  refine SV.region ?_
  refine SV.op (OpL.ok (nb := 0) (ok_move (v := V.one (.sc _)) (.inr rfl) rfl) rfl (gle rfl)) rfl ?_
  refine SV.nil ?_
  refine SV.tn ?_
  refine SV.seq' ?_
  refine SV.seq' ?_
  refine SV.region ?_
  refine SV.op (OpL.ok (nb := 0) (ok_move (v := V.one (.ro _)) (.inl rfl) rfl) rfl (gle rfl)) rfl ?_
  refine SV.op (OpL.ok (nb := 0) (ok_len (lf := .ro _) rfl elt_impl_Client.und rfl rfl) rfl (gle rfl)) rfl ?_
  refine SV.op (OpL.ok (nb := 0) (ok_move (v := V.one (.sc _)) (.inl rfl) rfl) rfl (gle rfl)) rfl ?_
  refine SV.nil ?_
  refine SV.tn ?_
  refine SV.block ?_
  refine SV.loopF (X := Nat) (fun (σ : VS) t => ((((((VS.nil.put 1 (σ.tm 1)).put 4 (σ.tm 4)).put 5 (V.flat false [.sc (.int .i64 (lowAt l t))])).put 8 (σ.tm 8)).put 9 (σ.tm 9)).put 10 (V.flat false [.sc (.int .i64 ((t : Int)))]))) (fun t => t ≤ l.length ∧ ∀ k, k < t → BrokerD.okAt n l k = true) (fun t => l.length - t) ?_ ?_
  · skip
    refine SV.again (fun i => [].getD i 0) 0 (⟨Nat.zero_le _, fun k h => absurd h (Nat.not_lt_zero k)⟩) (pins hE rfl rfl) (VS.le.mk' (le_put (le_put (le_put (le_put (le_put (le_put le_nil (V.le.keep (ag := false) (xs := [.sc _]) (ys := [.sc _]) rfl rfl ⟨rfl, trivial⟩)) (V.le.keep (ag := false) (xs := [.sc _]) (ys := [.sc _]) rfl rfl ⟨rfl, trivial⟩)) (V.le.keep (ag := false) (xs := [.sc _]) (ys := [.sc _]) rfl rfl ⟨(by first | rfl | (show Leaf.sc _ = Leaf.sc _; refine congrArg Leaf.sc ?_; first | rfl | go_num | (rw [hlow]; first | done | rfl | go_num | (simp; done) | (simp; omega)) | (simp [cntAll]; done)) | (simp [cntAll]; done) | (simp; omega)), trivial⟩)) (V.le.keep (ag := false) (xs := [.ro _]) (ys := [.ro _]) rfl rfl ⟨rfl, trivial⟩)) (V.le.keep (ag := false) (xs := [.sc _]) (ys := [.sc _]) rfl rfl ⟨rfl, trivial⟩)) (V.le.keep (ag := false) (xs := [.sc _]) (ys := [.sc _]) rfl rfl ⟨(by first | rfl | (show Leaf.sc _ = Leaf.sc _; refine congrArg Leaf.sc ?_; first | rfl | go_num | (rw [hlow]; first | done | rfl | go_num | (simp; done) | (simp; omega)) | (simp [cntAll]; done)) | (simp [cntAll]; done) | (simp; omega)), trivial⟩)) trivial trivial nil_ob (fun i j hi hj e => absurd hi (Nat.not_lt_zero i)))
  · rintro t ⟨ht, hok⟩
    refine SV.seq' ?_
    refine SV.region ?_
    refine SV.op (OpL.ok (nb := 0) (ok_s2 (x := .tmp 10) (x' := .tmp 9) (VScal.one rfl) (VScal.one rfl) (fun ρ h1 h2 w => by go_simp; (try go_bits); with_reducible rfl) rfl) rfl (gle rfl)) rfl ?_
    refine SV.nil ?_
    refine SV.tn ?_
    refine SV.seq' ?_
    refine SV.cond rfl (fun hc0 => ?_) (fun hc0 => ?_)
    · skip   -- c0.T
      have htl : t < l.length := by simpa using hc0
      obtain ⟨c, hx⟩ : ∃ c, l[t]? = some c := ⟨_, List.getElem?_eq_getElem htl⟩
      have hat := okAt_low (n := n) hx hok
      refine SV.skip ?_
      refine SV.tn ?_
      refine SV.seq' ?_
      refine SV.block ?_
      refine SV.seq' ?_
      refine SV.region ?_
      refine SV.op (OpL.ok (nb := 0) (ok_index (n := 3) (lf := .ro _) rfl elt_impl_Client.und sz_impl_Client rfl rfl rfl (map_at hx)) rfl (gle rfl)) rfl ?_
      refine SV.op (OpL.ok (nb := 0) (ok_load_rp (ag := true) (m := 3) (ys := [.sc _, .sc _, .sc _]) rfl rfl agg_impl_Client sz_impl_Client (fun h => by cases h) (gle rfl) rfl) rfl (gle rfl)) rfl ?_
      refine SV.op (OpMk.ok (ok_alloc (kk := 0) (xs := [.sc _, .sc _, .sc _]) rfl rfl zero_impl_Client ⟨rfl, rfl, rfl, rfl, rfl, rfl, trivial⟩ rfl (gle rfl))) rfl ?_
      refine SV.op (ok_store_bp (b := 0) (i := 0) (m := 3) (ag := true) (zs := [.sc _, .sc _, .sc _]) (ys := [.sc _, .sc _, .sc _]) rfl rfl rfl rfl sz_impl_Client (fun h => by cases h) rfl (gle rfl) rfl rfl rfl) rfl ?_
      refine SV.nil ?_
      refine SV.tn ?_
      refine SV.seq' ?_
      refine SV.seq' ?_
      refine SV.region ?_
      refine SV.op (OpL.ok (nb := 1) (ok_field_bp (b := 0) (o' := 0) (off := 0) rfl rfl fld_impl_Client_0) rfl (gle rfl)) rfl ?_
      refine SV.op (OpL.ok (nb := 1) (ok_load_bp (b := 0) (i := 0) (ag := false) (m := 1) (ys := [.sc _]) rfl rfl rfl agg_int sz_int (fun _ => rfl) rfl rfl (gle rfl)) rfl (gle rfl)) rfl ?_
      refine SV.op (OpL.ok (nb := 1) (ok_move (v := V.one (.sc _)) (.inl rfl) rfl) rfl (gle rfl)) rfl ?_
      refine SV.op (OpL.ok (nb := 1) (ok_s2 (x := .tmp 15) (x' := .tmp 16) (VScal.one rfl) (VScal.one rfl) (fun ρ h1 h2 w => by go_simp; (try go_bits); with_reducible rfl) rfl) rfl (gle rfl)) rfl ?_
      refine SV.op (OpL.ok (nb := 1) (ok_move (v := V.one (.sc _)) (.inl rfl) rfl) rfl (gle rfl)) rfl ?_
      refine SV.split (d := 18) rfl (fun hg0 => ?_) (fun hg0 => ?_)
      · skip   -- g0.T
        refine SV.opN rfl rfl rfl (gle rfl) rfl rfl rfl (gle rfl) ?_
        refine SV.opN rfl rfl rfl (gle rfl) rfl rfl rfl (gle rfl) ?_
        refine SV.opN rfl rfl rfl (gle rfl) rfl rfl rfl (gle rfl) ?_
        refine SV.opN rfl rfl rfl (gle rfl) rfl rfl rfl (gle rfl) ?_
        refine SV.op (OpL.ok (nb := 1) (ok_pickT (v := V.one (.sc _)) rfl rfl rfl) rfl (gle rfl)) rfl ?_
        refine SV.op (OpL.ok (nb := 1) (ok_move (v := V.one (.sc _)) (.inl rfl) rfl) rfl (gle rfl)) rfl ?_
        refine SV.opN rfl rfl rfl (gle rfl) rfl rfl rfl (gle rfl) ?_
        refine SV.opN rfl rfl rfl (gle rfl) rfl rfl rfl (gle rfl) ?_
        refine SV.opN rfl rfl rfl (gle rfl) rfl rfl rfl (gle rfl) ?_
        refine SV.opN rfl rfl rfl (gle rfl) rfl rfl rfl (gle rfl) ?_
        refine SV.opN rfl rfl rfl (gle rfl) rfl rfl rfl (gle rfl) ?_
        refine SV.opN rfl rfl rfl (gle rfl) rfl rfl rfl (gle rfl) ?_
        refine SV.op (OpL.ok (nb := 1) (ok_pickT (v := V.one (.sc _)) rfl rfl rfl) rfl (gle rfl)) rfl ?_
        refine SV.nil ?_
        refine SV.tn ?_
        refine SV.cond rfl (fun hc1 => ?_) (fun hc1 => ?_)
        · skip   -- c1.T
          have hbad : BrokerD.okL n l = false := by
            refine BrokerD.okL_bad htl ?_
            rw [hat, decide_eq_false_iff_not]
            rintro ⟨h1, h2, h3⟩
            simp only [Bool.and_eq_true, decide_eq_true_eq] at h3
            obtain ⟨h4, h5, h6⟩ := h3
            clear hat
            simp [h4] at *
            try omega
          refine SV.seq' ?_
          refine SV.region ?_
          refine SV.op (OpL.ok (nb := 1) (ok_move (v := V.one (.sc _)) (.inr rfl) rfl) rfl (gle rfl)) rfl ?_
          refine SV.nil ?_
          refine SV.tn ?_
          refine SV.ret ?_
          refine SV.tr ?_
          refine SV.br ?_
          refine SV.tr ?_
          refine SV.tr ?_
          refine SV.br ?_
          refine SV.tr ?_
          apply SV.done (hf := Try.results54) (ht := rfl) (he := .inl rfl)
          case hr => exact (ResAll.cons (ResOk.tmp (ag := false) (xs := [.sc _]) rfl) ResAll.nil')
          case h2 => simp [two]
          refine ⟨rfl, ⟨?_, trivial⟩, trivial⟩ <;> first | ((show some (T.lit (Value.bool _)) = some (T.lit (Value.bool _)); refine congrArg (fun z => some (T.lit (Value.bool z))) ?_; rw [hbad])) | ((show some (T.lit (Value.bool _)) = some (T.lit (Value.bool _)); refine congrArg (fun z => some (T.lit (Value.bool z))) ?_; rw [hall]))
        · skip   -- c1.F
          cases hc1
      · skip   -- g0.F
        refine SV.opY (OpL.ok (nb := 1) (ok_field_bp (b := 0) (o' := 0) (off := 0) rfl rfl fld_impl_Client_0) rfl (gle rfl)) rfl rfl rfl (gle rfl) rfl rfl ?_
        refine SV.opY (OpL.ok (nb := 1) (ok_load_bp (b := 0) (i := 0) (ag := false) (m := 1) (ys := [.sc _]) rfl rfl rfl agg_int sz_int (fun _ => rfl) rfl rfl (gle rfl)) rfl (gle rfl)) rfl rfl rfl (gle rfl) rfl rfl ?_
        refine SV.opY (OpL.ok (nb := 1) (ok_move (v := V.one (.sc _)) (.inl rfl) rfl) rfl (gle rfl)) rfl rfl rfl (gle rfl) rfl rfl ?_
        refine SV.opY (OpL.ok (nb := 1) (ok_s2 (x := .tmp 20) (x' := .tmp 21) (VScal.one rfl) (VScal.one rfl) (fun ρ h1 h2 w => by go_simp; (try go_bits); with_reducible rfl) rfl) rfl (gle rfl)) rfl rfl rfl (gle rfl) rfl rfl ?_
        refine SV.op (OpL.ok (nb := 1) (ok_pickF (v := V.one (.sc _)) rfl rfl rfl) rfl (gle rfl)) rfl ?_
        refine SV.op (OpL.ok (nb := 1) (ok_move (v := V.one (.sc _)) (.inl rfl) rfl) rfl (gle rfl)) rfl ?_
        refine SV.split (d := 24) rfl (fun hg1 => ?_) (fun hg1 => ?_)
        · skip   -- g1.T
          refine SV.opN rfl rfl rfl (gle rfl) rfl rfl rfl (gle rfl) ?_
          refine SV.opN rfl rfl rfl (gle rfl) rfl rfl rfl (gle rfl) ?_
          refine SV.opN rfl rfl rfl (gle rfl) rfl rfl rfl (gle rfl) ?_
          refine SV.opN rfl rfl rfl (gle rfl) rfl rfl rfl (gle rfl) ?_
          refine SV.opN rfl rfl rfl (gle rfl) rfl rfl rfl (gle rfl) ?_
          refine SV.opN rfl rfl rfl (gle rfl) rfl rfl rfl (gle rfl) ?_
          refine SV.op (OpL.ok (nb := 1) (ok_pickT (v := V.one (.sc _)) rfl rfl rfl) rfl (gle rfl)) rfl ?_
          refine SV.nil ?_
          refine SV.tn ?_
          refine SV.cond rfl (fun hc2 => ?_) (fun hc2 => ?_)
          · skip   -- c2.T
            have hbad : BrokerD.okL n l = false := by
              refine BrokerD.okL_bad htl ?_
              rw [hat, decide_eq_false_iff_not]
              rintro ⟨h1, h2, h3⟩
              simp only [Bool.and_eq_true, decide_eq_true_eq] at h3
              obtain ⟨h4, h5, h6⟩ := h3
              clear hat
              simp [h4] at *
              try omega
            refine SV.seq' ?_
            refine SV.region ?_
            refine SV.op (OpL.ok (nb := 1) (ok_move (v := V.one (.sc _)) (.inr rfl) rfl) rfl (gle rfl)) rfl ?_
            refine SV.nil ?_
            refine SV.tn ?_
            refine SV.ret ?_
            refine SV.tr ?_
            refine SV.br ?_
            refine SV.tr ?_
            refine SV.tr ?_
            refine SV.br ?_
            refine SV.tr ?_
            apply SV.done (hf := Try.results54) (ht := rfl) (he := .inl rfl)
            case hr => exact (ResAll.cons (ResOk.tmp (ag := false) (xs := [.sc _]) rfl) ResAll.nil')
            case h2 => simp [two]
            refine ⟨rfl, ⟨?_, trivial⟩, trivial⟩ <;> first | ((show some (T.lit (Value.bool _)) = some (T.lit (Value.bool _)); refine congrArg (fun z => some (T.lit (Value.bool z))) ?_; rw [hbad])) | ((show some (T.lit (Value.bool _)) = some (T.lit (Value.bool _)); refine congrArg (fun z => some (T.lit (Value.bool z))) ?_; rw [hall]))
          · skip   -- c2.F
            cases hc2
        · skip   -- g1.F
          refine SV.opY (OpL.ok (nb := 1) (ok_field_bp (b := 0) (o' := 0) (off := 1) rfl rfl fld_impl_Client_1) rfl (gle rfl)) rfl rfl rfl (gle rfl) rfl rfl ?_
          refine SV.opY (OpL.ok (nb := 1) (ok_load_bp (b := 0) (i := 1) (ag := false) (m := 1) (ys := [.sc _]) rfl rfl rfl agg_int sz_int (fun _ => rfl) rfl rfl (gle rfl)) rfl (gle rfl)) rfl rfl rfl (gle rfl) rfl rfl ?_
          refine SV.opY (OpL.ok (nb := 1) (ok_field_bp (b := 0) (o' := 0) (off := 2) rfl rfl fld_impl_Client_2) rfl (gle rfl)) rfl rfl rfl (gle rfl) rfl rfl ?_
          refine SV.opY (OpL.ok (nb := 1) (ok_load_bp (b := 0) (i := 2) (ag := false) (m := 1) (ys := [.sc _]) rfl rfl rfl agg_int sz_int (fun _ => rfl) rfl rfl (gle rfl)) rfl (gle rfl)) rfl rfl rfl (gle rfl) rfl rfl ?_
          refine SV.opY (OpMk.ok (ok_call (ls := [(false, [.sc _])]) rfl rfl ⟨_, _, Try.func61, rfl, by decide⟩ (visdem_i c.fRequested c.fPriority) ⟨⟨[.sc _], rfl, ⟨rfl, trivial⟩⟩, ⟨[.sc _], rfl, ⟨rfl, trivial⟩⟩, trivial⟩ rfl (gle rfl))) rfl rfl rfl (gle rfl) rfl rfl ?_
          refine SV.opY (OpL.ok (nb := 1) (ok_s1 (x := .tmp 29) (VScal.one rfl) (fun ρ h1 w => by go_simp; (try go_bits); with_reducible rfl) rfl) rfl (gle rfl)) rfl rfl rfl (gle rfl) rfl rfl ?_
          refine SV.op (OpL.ok (nb := 1) (ok_pickF (v := V.one (.sc _)) rfl rfl rfl) rfl (gle rfl)) rfl ?_
          refine SV.nil ?_
          refine SV.tn ?_
          refine SV.cond rfl (fun hc3 => ?_) (fun hc3 => ?_)
          · skip   -- c3.T
            have hbad : BrokerD.okL n l = false := by
              refine BrokerD.okL_bad htl ?_
              rw [hat, decide_eq_false_iff_not]
              rintro ⟨h1, h2, h3⟩
              simp only [Bool.and_eq_true, decide_eq_true_eq] at h3
              obtain ⟨h4, h5, h6⟩ := h3
              clear hat
              simp [h4] at *
              try omega
            refine SV.seq' ?_
            refine SV.region ?_
            refine SV.op (OpL.ok (nb := 1) (ok_move (v := V.one (.sc _)) (.inr rfl) rfl) rfl (gle rfl)) rfl ?_
            refine SV.nil ?_
            refine SV.tn ?_
            refine SV.ret ?_
            refine SV.tr ?_
            refine SV.br ?_
            refine SV.tr ?_
            refine SV.tr ?_
            refine SV.br ?_
            refine SV.tr ?_
            apply SV.done (hf := Try.results54) (ht := rfl) (he := .inl rfl)
            case hr => exact (ResAll.cons (ResOk.tmp (ag := false) (xs := [.sc _]) rfl) ResAll.nil')
            case h2 => simp [two]
            refine ⟨rfl, ⟨?_, trivial⟩, trivial⟩ <;> first | ((show some (T.lit (Value.bool _)) = some (T.lit (Value.bool _)); refine congrArg (fun z => some (T.lit (Value.bool z))) ?_; rw [hbad])) | ((show some (T.lit (Value.bool _)) = some (T.lit (Value.bool _)); refine congrArg (fun z => some (T.lit (Value.bool z))) ?_; rw [hall]))
          · skip   -- c3.F
            have hgood : BrokerD.okAt n l t = true := by
              rw [hat, decide_eq_true_iff]
              clear hat
              simp only [Bool.and_eq_true, decide_eq_true_eq]
              simp at *
              exact ⟨by omega, by omega, by simp_all, by omega, by omega⟩
            have hcn : c.fID < n := by have := hgood; rw [hat, decide_eq_true_iff] at this; exact this.2.1
            have hc0n : 0 ≤ c.fID := by
              have := hgood
              rw [BrokerD.okAt_some hx] at this
              simp only [Bool.and_eq_true, BrokerD.okC_iff] at this
              omega
            have hlow := lowAt_succ hx
            refine SV.skip ?_
            refine SV.tn ?_
            refine SV.region ?_
            refine SV.op (OpL.ok (nb := 1) (ok_field_bp (b := 0) (o' := 0) (off := 0) rfl rfl fld_impl_Client_0) rfl (gle rfl)) rfl ?_
            refine SV.op (OpL.ok (nb := 1) (ok_load_bp (b := 0) (i := 0) (ag := false) (m := 1) (ys := [.sc _]) rfl rfl rfl agg_int sz_int (fun _ => rfl) rfl rfl (gle rfl)) rfl (gle rfl)) rfl ?_
            refine SV.op (OpL.ok (nb := 1) (ok_s2 (v := .int .i64 (c.fID + 1)) (x := .tmp 33) (x' := .const ((Value.int IntKind.i64 1))) (VScal.one rfl) (VScal.one rfl) (fun ρ h1 h2 w => by go_simp; rw [IntWalk.i64_left, IntWalk.wrap64_in _ ⟨by omega, by omega⟩]) rfl) rfl (gle rfl)) rfl ?_
            refine SV.op (OpL.ok (nb := 1) (ok_move (v := V.one (.sc _)) (.inr rfl) rfl) rfl (gle rfl)) rfl ?_
            refine SV.nil ?_
            refine SV.bn ?_
            refine SV.tn ?_
            refine SV.region ?_
            refine SV.op (OpL.ok (nb := 1) (ok_s2 (x := .tmp 10) (x' := .const ((Value.int IntKind.i64 1))) (VScal.one rfl) (VScal.one rfl) (fun ρ h1 h2 w => by go_simp; (try go_bits); with_reducible rfl) rfl) rfl (gle rfl)) rfl ?_
            refine SV.op (OpL.ok (nb := 1) (ok_move (v := V.one (.sc _)) (.inl rfl) rfl) rfl (gle rfl)) rfl ?_
            refine SV.nil ?_
            refine SV.tn ?_
            refine SV.again (fun i => [].getD i 0) (t + 1) (⟨⟨by omega, fun k hk => by rcases Nat.lt_or_ge k t with h1 | h1; (exact hok k h1); (have h2 : k = t := (by omega); subst h2; exact hgood)⟩, by omega⟩) (pins hE rfl rfl) (VS.le.mk' (le_put (le_put (le_put (le_put (le_put (le_put le_nil (V.le.keep (ag := false) (xs := [.sc _]) (ys := [.sc _]) rfl rfl ⟨rfl, trivial⟩)) (V.le.keep (ag := false) (xs := [.sc _]) (ys := [.sc _]) rfl rfl ⟨rfl, trivial⟩)) (V.le.keep (ag := false) (xs := [.sc _]) (ys := [.sc _]) rfl rfl ⟨(by first | rfl | (show Leaf.sc _ = Leaf.sc _; refine congrArg Leaf.sc ?_; first | rfl | go_num | (rw [hlow]; first | done | rfl | go_num | (simp; done) | (simp; omega)) | (simp [cntAll]; done)) | (simp [cntAll]; done) | (simp; omega)), trivial⟩)) (V.le.keep (ag := false) (xs := [.ro _]) (ys := [.ro _]) rfl rfl ⟨rfl, trivial⟩)) (V.le.keep (ag := false) (xs := [.sc _]) (ys := [.sc _]) rfl rfl ⟨rfl, trivial⟩)) (V.le.keep (ag := false) (xs := [.sc _]) (ys := [.sc _]) rfl rfl ⟨(by first | rfl | (show Leaf.sc _ = Leaf.sc _; refine congrArg Leaf.sc ?_; first | rfl | go_num | (rw [hlow]; first | done | rfl | go_num | (simp; done) | (simp; omega)) | (simp [cntAll]; done)) | (simp [cntAll]; done) | (simp; omega)), trivial⟩)) trivial trivial nil_ob (fun i j hi hj e => absurd hi (Nat.not_lt_zero i)))
    · skip   -- c0.F
      have hte : ¬ t < l.length := by simpa using hc0
      have hall : BrokerD.okL n l = true := BrokerD.okL_all fun k hk => hok k (by omega)
      refine SV.exit ?_
      refine SV.te ?_
      refine SV.te ?_
      refine SV.bh ?_
      refine SV.tn ?_
      refine SV.seq' ?_
      refine SV.region ?_
      refine SV.op (OpL.ok (nb := 0) (ok_move (v := V.one (.sc _)) (.inr rfl) rfl) rfl (gle rfl)) rfl ?_
      refine SV.nil ?_
      refine SV.tn ?_
      refine SV.ret ?_
      apply SV.done (hf := Try.results54) (ht := rfl) (he := .inl rfl)
      case hr => exact (ResAll.cons (ResOk.tmp (ag := false) (xs := [.sc _]) rfl) ResAll.nil')
      case h2 => simp [two]
      refine ⟨rfl, ⟨?_, trivial⟩, trivial⟩ <;> first | ((show some (T.lit (Value.bool _)) = some (T.lit (Value.bool _)); refine congrArg (fun z => some (T.lit (Value.bool z))) ?_; rw [hbad])) | ((show some (T.lit (Value.bool _)) = some (T.lit (Value.bool _)); refine congrArg (fun z => some (T.lit (Value.bool z))) ?_; rw [hall]))
set_option maxRecDepth 100000 in
set_option maxHeartbeats 2000000 in
theorem vshare_i (A B : List ClientD) (hA : A.length ≤ 1000000000) (hB : B.length ≤ 1000000000) : VC Try.prog 55 [(false, [.seq 35 ((A).map tClient)]), (false, [.seq 35 ((B).map tClient)])] false [(false, [.lit (.bool (BrokerD.meets A B))])] := by
  refine VC.enter Try.func55 rfl Try.ntmps55 (gle rfl) fun E hE => ?_
  refine SV.seq' ?_
  refine SV.region ?_
  refine SV.op (OpL.ok (nb := 0) (ok_move (v := V.one (.sc _)) (.inr rfl) rfl) rfl (gle rfl)) rfl ?_
  refine SV.nil ?_
  refine SV.tn ?_
  refine SV.seq' ?_
  refine SV.seq' ?_
  refine SV.region ?_
  refine SV.op (OpL.ok (nb := 0) (ok_move (v := V.one (.ro _)) (.inl rfl) rfl) rfl (gle rfl)) rfl ?_
  refine SV.op (OpL.ok (nb := 0) (ok_len (lf := .ro _) rfl elt_impl_Client.und rfl rfl) rfl (gle rfl)) rfl ?_
  refine SV.op (OpL.ok (nb := 0) (ok_move (v := V.one (.sc _)) (.inl rfl) rfl) rfl (gle rfl)) rfl ?_
  refine SV.nil ?_
  refine SV.tn ?_
  refine SV.block ?_
  refine SV.loopF (X := Nat) (fun (σ : VS) t => (((((VS.nil.put 1 (σ.tm 1)).put 4 (σ.tm 4)).put 7 (σ.tm 7)).put 8 (σ.tm 8)).put 9 (V.flat false [.sc (.int .i64 ((t : Int)))]))) (fun t => t ≤ A.length ∧ ∀ u c, u < t → A[u]? = some c → BrokerD.at? B c.fID = none) (fun t => A.length - t) ?_ ?_
  · skip
    refine SV.again (fun i => [].getD i 0) 0 (⟨Nat.zero_le _, fun u c h => absurd h (Nat.not_lt_zero u)⟩) (pins hE rfl rfl) (VS.le.mk' (le_put (le_put (le_put (le_put (le_put le_nil (V.le.keep (ag := false) (xs := [.ro _]) (ys := [.ro _]) rfl rfl ⟨rfl, trivial⟩)) (V.le.keep (ag := false) (xs := [.sc _]) (ys := [.sc _]) rfl rfl ⟨rfl, trivial⟩)) (V.le.keep (ag := false) (xs := [.ro _]) (ys := [.ro _]) rfl rfl ⟨rfl, trivial⟩)) (V.le.keep (ag := false) (xs := [.sc _]) (ys := [.sc _]) rfl rfl ⟨rfl, trivial⟩)) (V.le.keep (ag := false) (xs := [.sc _]) (ys := [.sc _]) rfl rfl ⟨(by first | rfl | (show Leaf.sc _ = Leaf.sc _; refine congrArg Leaf.sc ?_; first | rfl | go_num | (simp [cntAll]; done)) | (simp [cntAll]; done) | (simp; omega)), trivial⟩)) trivial trivial nil_ob (fun i j hi hj e => absurd hi (Nat.not_lt_zero i)))
  · rintro t ⟨ht, hno⟩
    refine SV.seq' ?_
    refine SV.region ?_
    refine SV.op (OpL.ok (nb := 0) (ok_s2 (x := .tmp 9) (x' := .tmp 8) (VScal.one rfl) (VScal.one rfl) (fun ρ h1 h2 w => by go_simp; (try go_bits); with_reducible rfl) rfl) rfl (gle rfl)) rfl ?_
    refine SV.nil ?_
    refine SV.tn ?_
    refine SV.seq' ?_
    refine SV.cond rfl (fun hc0 => ?_) (fun hc0 => ?_)
    · skip   -- c0.T
      have htl : t < A.length := by simpa using hc0
      obtain ⟨c, hx⟩ : ∃ c, A[t]? = some c := ⟨_, List.getElem?_eq_getElem htl⟩
      refine SV.skip ?_
      refine SV.tn ?_
      refine SV.seq' ?_
      refine SV.block ?_
      refine SV.seq' ?_
      refine SV.region ?_
      refine SV.op (OpL.ok (nb := 0) (ok_index (n := 3) (lf := .ro _) rfl elt_impl_Client.und sz_impl_Client rfl rfl rfl (map_at hx)) rfl (gle rfl)) rfl ?_
      refine SV.op (OpL.ok (nb := 0) (ok_load_rp (ag := true) (m := 3) (ys := [.sc _, .sc _, .sc _]) rfl rfl agg_impl_Client sz_impl_Client (fun h => by cases h) (gle rfl) rfl) rfl (gle rfl)) rfl ?_
      refine SV.op (OpMk.ok (ok_alloc (kk := 0) (xs := [.sc _, .sc _, .sc _]) rfl rfl zero_impl_Client ⟨rfl, rfl, rfl, rfl, rfl, rfl, trivial⟩ rfl (gle rfl))) rfl ?_
      refine SV.op (ok_store_bp (b := 0) (i := 0) (m := 3) (ag := true) (zs := [.sc _, .sc _, .sc _]) (ys := [.sc _, .sc _, .sc _]) rfl rfl rfl rfl sz_impl_Client (fun h => by cases h) rfl (gle rfl) rfl rfl rfl) rfl ?_
      refine SV.nil ?_
      refine SV.tn ?_
      refine SV.seq' ?_
      refine SV.region ?_
      refine SV.op (OpL.ok (nb := 1) (ok_move (v := V.one (.ro _)) (.inl rfl) rfl) rfl (gle rfl)) rfl ?_
      refine SV.op (OpL.ok (nb := 1) (ok_field_bp (b := 0) (o' := 0) (off := 0) rfl rfl fld_impl_Client_0) rfl (gle rfl)) rfl ?_
      refine SV.op (OpL.ok (nb := 1) (ok_load_bp (b := 0) (i := 0) (ag := false) (m := 1) (ys := [.sc _]) rfl rfl rfl agg_int sz_int (fun _ => rfl) rfl rfl (gle rfl)) rfl (gle rfl)) rfl ?_
      refine SV.op (OpMk.ok (ok_call (ls := [(false, [.sc _])]) rfl rfl ⟨_, _, Try.func58, rfl, by decide⟩ (vatc_i B c.fID hB) ⟨⟨[.ro _], rfl, ⟨rfl, trivial⟩⟩, ⟨[.sc _], rfl, ⟨rfl, trivial⟩⟩, trivial⟩ rfl (gle rfl))) rfl ?_
      refine SV.op (OpL.ok (nb := 1) (ok_s2 (x := .tmp 16) (x' := .const ((Value.int IntKind.i64 0))) (VScal.one rfl) (VScal.one rfl) (fun ρ h1 h2 w => by go_simp; (try go_bits); with_reducible rfl) rfl) rfl (gle rfl)) rfl ?_
      refine SV.nil ?_
      refine SV.tn ?_
      refine SV.cond rfl (fun hc1 => ?_) (fun hc1 => ?_)
      · skip   -- c1.T
        obtain ⟨k, hk0, hk⟩ := BrokerD.at_pos (l := B) (id := c.fID) rfl (by simpa using hc1)
        have hm : BrokerD.meets A B = true := by
          obtain ⟨d, hd, e, -⟩ := BrokerD.of_at hk
          exact BrokerD.meets_iff.2 ⟨c, List.mem_of_getElem? hx, d, List.mem_of_getElem? hd, e.symm⟩
        refine SV.seq' ?_
        refine SV.region ?_
        refine SV.op (OpL.ok (nb := 1) (ok_move (v := V.one (.sc _)) (.inr rfl) rfl) rfl (gle rfl)) rfl ?_
        refine SV.nil ?_
        refine SV.tn ?_
        refine SV.ret ?_
        refine SV.br ?_
        refine SV.tr ?_
        refine SV.tr ?_
        refine SV.br ?_
        refine SV.tr ?_
        apply SV.done (hf := Try.results55) (ht := rfl) (he := .inl rfl)
        case hr => exact (ResAll.cons (ResOk.tmp (ag := false) (xs := [.sc _]) rfl) ResAll.nil')
        case h2 => simp [two]
        refine ⟨rfl, ⟨?_, trivial⟩, trivial⟩ <;> (show some (T.lit (Value.bool _)) = some (T.lit (Value.bool _)); refine congrArg (fun z => some (T.lit (Value.bool z))) ?_; rw [hm])
      · skip   -- c1.F
        have hnone := BrokerD.at_neg (l := B) (id := c.fID) rfl (by simpa using hc1)
        refine SV.skip ?_
        refine SV.bn ?_
        refine SV.tn ?_
        refine SV.region ?_
        refine SV.op (OpL.ok (nb := 1) (ok_s2 (x := .tmp 9) (x' := .const ((Value.int IntKind.i64 1))) (VScal.one rfl) (VScal.one rfl) (fun ρ h1 h2 w => by go_simp; (try go_bits); with_reducible rfl) rfl) rfl (gle rfl)) rfl ?_
        refine SV.op (OpL.ok (nb := 1) (ok_move (v := V.one (.sc _)) (.inl rfl) rfl) rfl (gle rfl)) rfl ?_
        refine SV.nil ?_
        refine SV.tn ?_
        refine SV.again (fun i => [].getD i 0) (t + 1) (⟨⟨by omega, fun u d hu hd => by rcases Nat.lt_or_ge u t with h1 | h1; (exact hno u d h1 hd); (have h2 : u = t := (by omega); subst h2; rw [hx] at hd; cases hd; exact hnone)⟩, by omega⟩) (pins hE rfl rfl) (VS.le.mk' (le_put (le_put (le_put (le_put (le_put le_nil (V.le.keep (ag := false) (xs := [.ro _]) (ys := [.ro _]) rfl rfl ⟨rfl, trivial⟩)) (V.le.keep (ag := false) (xs := [.sc _]) (ys := [.sc _]) rfl rfl ⟨rfl, trivial⟩)) (V.le.keep (ag := false) (xs := [.ro _]) (ys := [.ro _]) rfl rfl ⟨rfl, trivial⟩)) (V.le.keep (ag := false) (xs := [.sc _]) (ys := [.sc _]) rfl rfl ⟨rfl, trivial⟩)) (V.le.keep (ag := false) (xs := [.sc _]) (ys := [.sc _]) rfl rfl ⟨(by first | rfl | (show Leaf.sc _ = Leaf.sc _; refine congrArg Leaf.sc ?_; first | rfl | go_num | (simp [cntAll]; done)) | (simp [cntAll]; done) | (simp; omega)), trivial⟩)) trivial trivial nil_ob (fun i j hi hj e => absurd hi (Nat.not_lt_zero i)))
    · skip   -- c0.F
      have hte : ¬ t < A.length := by simpa using hc0
      have hm : BrokerD.meets A B = false := by
        rw [Bool.eq_false_iff]
        intro h
        obtain ⟨c, hc, d, hd, e⟩ := BrokerD.meets_iff.1 h
        obtain ⟨u, hu, rfl⟩ := List.mem_iff_getElem.1 hc
        exact BrokerD.of_at_none (hno u _ (by omega) (List.getElem?_eq_getElem hu)) d hd e.symm
      refine SV.exit ?_
      refine SV.te ?_
      refine SV.te ?_
      refine SV.bh ?_
      refine SV.tn ?_
      refine SV.seq' ?_
      refine SV.region ?_
      refine SV.op (OpL.ok (nb := 0) (ok_move (v := V.one (.sc _)) (.inr rfl) rfl) rfl (gle rfl)) rfl ?_
      refine SV.nil ?_
      refine SV.tn ?_
      refine SV.ret ?_
      apply SV.done (hf := Try.results55) (ht := rfl) (he := .inl rfl)
      case hr => exact (ResAll.cons (ResOk.tmp (ag := false) (xs := [.sc _]) rfl) ResAll.nil')
      case h2 => simp [two]
      refine ⟨rfl, ⟨?_, trivial⟩, trivial⟩ <;> (show some (T.lit (Value.bool _)) = some (T.lit (Value.bool _)); refine congrArg (fun z => some (T.lit (Value.bool z))) ?_; rw [hm])
theorem ok_split (b : BrokerD) : BrokerD.ok b = (BrokerD.isPool b.fPool && (decide (0 ≤ b.fNextID ∧ b.fNextID ≤ 1000) && (decide (((b.fActive.length : Int) < BrokerD.room b.fPool ∧ b.fWaiting.length = 0) ∨ (¬ (b.fActive.length : Int) < BrokerD.room b.fPool ∧ (b.fActive.length : Int) = BrokerD.room b.fPool ∧ b.fWaiting.length ≤ 5)) && (BrokerD.okL b.fNextID b.fActive && (BrokerD.okL b.fNextID b.fWaiting && !BrokerD.meets b.fActive b.fWaiting))))) := by
  unfold BrokerD.ok BrokerD.okN BrokerD.isPool
  simp only [← Bool.and_assoc]
  congr 3
  rw [Bool.eq_iff_iff]
  simp only [Bool.and_eq_true, decide_eq_true_eq]
  omega
set_option maxRecDepth 100000 in
set_option maxHeartbeats 2000000 in
theorem vokb_i (b : BrokerD) (hA : b.fActive.length ≤ 1000000000) (hW : b.fWaiting.length ≤ 1000000000) : VC Try.prog 19 [(true, tBroker b)] false [(false, [.lit (.bool (BrokerD.ok b))])] := by
  refine VC.enter Try.func19 rfl Try.ntmps19 (gle rfl) fun E hE => ?_
  refine SV.seq' ?_
  refine SV.region ?_
  refine SV.op (OpMk.ok (ok_box (kk := 0) (ag := true) (xs := [.sc _, .sc _, .ro _, .ro _]) rfl rfl rfl (fun h => by cases h) rfl rfl (gle rfl))) rfl ?_
  refine SV.op (OpL.ok (nb := 1) (ok_move (v := V.one (.sc _)) (.inr rfl) rfl) rfl (gle rfl)) rfl ?_
  refine SV.nil ?_
  refine SV.tn ?_
  refine SV.seq' ?_
  refine SV.region ?_
  refine SV.op (OpL.ok (nb := 1) (ok_field_bp (b := 0) (o' := 0) (off := 0) rfl rfl fld_impl_Broker_0) rfl (gle rfl)) rfl ?_
  refine SV.op (OpL.ok (nb := 1) (ok_load_bp (b := 0) (i := 0) (ag := false) (m := 1) (ys := [.sc _]) rfl rfl rfl agg_int sz_int (fun _ => rfl) rfl rfl (gle rfl)) rfl (gle rfl)) rfl ?_
  refine SV.op (OpMk.ok (ok_call (ls := [(false, [.sc _])]) rfl rfl ⟨_, _, Try.func51, rfl, by decide⟩ (vispool_i b.fPool) ⟨⟨[.sc _], rfl, ⟨rfl, trivial⟩⟩, trivial⟩ rfl (gle rfl))) rfl ?_
  refine SV.op (OpL.ok (nb := 1) (ok_move (v := V.one (.sc _)) (.inl rfl) rfl) rfl (gle rfl)) rfl ?_
  refine SV.split (d := 6) rfl (fun hg0 => ?_) (fun hg0 => ?_)
  · skip   -- g0.T
    have hp : 8 ≤ b.fPool ∧ b.fPool ≤ 120 := by unfold BrokerD.isPool at hg0; simpa using hg0
    refine SV.opY (OpL.ok (nb := 1) (ok_field_bp (b := 0) (o' := 0) (off := 1) rfl rfl fld_impl_Broker_1) rfl (gle rfl)) rfl rfl rfl (gle rfl) rfl rfl ?_
    refine SV.opY (OpL.ok (nb := 1) (ok_load_bp (b := 0) (i := 1) (ag := false) (m := 1) (ys := [.sc _]) rfl rfl rfl agg_int sz_int (fun _ => rfl) rfl rfl (gle rfl)) rfl (gle rfl)) rfl rfl rfl (gle rfl) rfl rfl ?_
    refine SV.opY (OpMk.ok (ok_call (ls := [(false, [.sc _])]) rfl rfl ⟨_, _, Try.func52, rfl, by decide⟩ (vuptob_i b.fNextID 1000) ⟨⟨[.sc _], rfl, ⟨rfl, trivial⟩⟩, ⟨[.sc _], rfl, ⟨rfl, trivial⟩⟩, trivial⟩ rfl (gle rfl))) rfl rfl rfl (gle rfl) rfl rfl ?_
    refine SV.op (OpL.ok (nb := 1) (ok_pickT (v := V.one (.sc _)) rfl rfl rfl) rfl (gle rfl)) rfl ?_
    refine SV.op (OpL.ok (nb := 1) (ok_move (v := V.one (.sc _)) (.inl rfl) rfl) rfl (gle rfl)) rfl ?_
    refine SV.split (d := 11) rfl (fun hg1 => ?_) (fun hg1 => ?_)
    · skip   -- g1.T
      have hn : 0 ≤ b.fNextID ∧ b.fNextID ≤ 1000 := by simpa using hg1
      refine SV.opY (OpL.ok (nb := 1) (ok_load_bp (b := 0) (i := 0) (ag := true) (m := 4) (ys := [.sc _, .sc _, .ro _, .ro _]) rfl rfl rfl agg_impl_Broker sz_impl_Broker (fun h => by cases h) rfl rfl (gle rfl)) rfl (gle rfl)) rfl rfl rfl (gle rfl) rfl rfl ?_
      refine SV.opY (OpMk.ok (ok_call (ls := [(false, [.sc _])]) rfl rfl ⟨_, _, Try.func53, rfl, by decide⟩ (vwithin_i b (by omega) (by omega) hA hW) ⟨⟨[.sc _, .sc _, .ro _, .ro _], rfl, ⟨rfl, rfl, rfl, rfl, trivial⟩⟩, trivial⟩ rfl (gle rfl))) rfl rfl rfl (gle rfl) rfl rfl ?_
      refine SV.op (OpL.ok (nb := 1) (ok_pickT (v := V.one (.sc _)) rfl rfl rfl) rfl (gle rfl)) rfl ?_
      refine SV.op (OpL.ok (nb := 1) (ok_move (v := V.one (.sc _)) (.inl rfl) rfl) rfl (gle rfl)) rfl ?_
      refine SV.split (d := 15) rfl (fun hg2 => ?_) (fun hg2 => ?_)
      · skip   -- g2.T
        refine SV.opY (OpL.ok (nb := 1) (ok_field_bp (b := 0) (o' := 0) (off := 2) rfl rfl fld_impl_Broker_2) rfl (gle rfl)) rfl rfl rfl (gle rfl) rfl rfl ?_
        refine SV.opY (OpL.ok (nb := 1) (ok_load_bp (b := 0) (i := 2) (ag := false) (m := 1) (ys := [.ro _]) rfl rfl rfl agg_s_impl_Client sz_s_impl_Client (fun _ => rfl) rfl rfl (gle rfl)) rfl (gle rfl)) rfl rfl rfl (gle rfl) rfl rfl ?_
        refine SV.opY (OpL.ok (nb := 1) (ok_field_bp (b := 0) (o' := 0) (off := 1) rfl rfl fld_impl_Broker_1) rfl (gle rfl)) rfl rfl rfl (gle rfl) rfl rfl ?_
        refine SV.opY (OpL.ok (nb := 1) (ok_load_bp (b := 0) (i := 1) (ag := false) (m := 1) (ys := [.sc _]) rfl rfl rfl agg_int sz_int (fun _ => rfl) rfl rfl (gle rfl)) rfl (gle rfl)) rfl rfl rfl (gle rfl) rfl rfl ?_
        refine SV.opY (OpMk.ok (ok_call (ls := [(false, [.sc _])]) rfl rfl ⟨_, _, Try.func54, rfl, by decide⟩ (vare_i b.fActive b.fNextID (by omega) (by omega)) ⟨⟨[.ro _], rfl, ⟨rfl, trivial⟩⟩, ⟨[.sc _], rfl, ⟨rfl, trivial⟩⟩, trivial⟩ rfl (gle rfl))) rfl rfl rfl (gle rfl) rfl rfl ?_
        refine SV.op (OpL.ok (nb := 1) (ok_pickT (v := V.one (.sc _)) rfl rfl rfl) rfl (gle rfl)) rfl ?_
        refine SV.op (OpL.ok (nb := 1) (ok_move (v := V.one (.sc _)) (.inl rfl) rfl) rfl (gle rfl)) rfl ?_
        refine SV.split (d := 22) rfl (fun hg3 => ?_) (fun hg3 => ?_)
        · skip   -- g3.T
          refine SV.opY (OpL.ok (nb := 1) (ok_field_bp (b := 0) (o' := 0) (off := 3) rfl rfl fld_impl_Broker_3) rfl (gle rfl)) rfl rfl rfl (gle rfl) rfl rfl ?_
          refine SV.opY (OpL.ok (nb := 1) (ok_load_bp (b := 0) (i := 3) (ag := false) (m := 1) (ys := [.ro _]) rfl rfl rfl agg_s_impl_Client sz_s_impl_Client (fun _ => rfl) rfl rfl (gle rfl)) rfl (gle rfl)) rfl rfl rfl (gle rfl) rfl rfl ?_
          refine SV.opY (OpL.ok (nb := 1) (ok_field_bp (b := 0) (o' := 0) (off := 1) rfl rfl fld_impl_Broker_1) rfl (gle rfl)) rfl rfl rfl (gle rfl) rfl rfl ?_
          refine SV.opY (OpL.ok (nb := 1) (ok_load_bp (b := 0) (i := 1) (ag := false) (m := 1) (ys := [.sc _]) rfl rfl rfl agg_int sz_int (fun _ => rfl) rfl rfl (gle rfl)) rfl (gle rfl)) rfl rfl rfl (gle rfl) rfl rfl ?_
          refine SV.opY (OpMk.ok (ok_call (ls := [(false, [.sc _])]) rfl rfl ⟨_, _, Try.func54, rfl, by decide⟩ (vare_i b.fWaiting b.fNextID (by omega) (by omega)) ⟨⟨[.ro _], rfl, ⟨rfl, trivial⟩⟩, ⟨[.sc _], rfl, ⟨rfl, trivial⟩⟩, trivial⟩ rfl (gle rfl))) rfl rfl rfl (gle rfl) rfl rfl ?_
          refine SV.op (OpL.ok (nb := 1) (ok_pickT (v := V.one (.sc _)) rfl rfl rfl) rfl (gle rfl)) rfl ?_
          refine SV.op (OpL.ok (nb := 1) (ok_move (v := V.one (.sc _)) (.inl rfl) rfl) rfl (gle rfl)) rfl ?_
          refine SV.split (d := 29) rfl (fun hg4 => ?_) (fun hg4 => ?_)
          · skip   -- g4.T
            refine SV.opY (OpL.ok (nb := 1) (ok_field_bp (b := 0) (o' := 0) (off := 2) rfl rfl fld_impl_Broker_2) rfl (gle rfl)) rfl rfl rfl (gle rfl) rfl rfl ?_
            refine SV.opY (OpL.ok (nb := 1) (ok_load_bp (b := 0) (i := 2) (ag := false) (m := 1) (ys := [.ro _]) rfl rfl rfl agg_s_impl_Client sz_s_impl_Client (fun _ => rfl) rfl rfl (gle rfl)) rfl (gle rfl)) rfl rfl rfl (gle rfl) rfl rfl ?_
            refine SV.opY (OpL.ok (nb := 1) (ok_field_bp (b := 0) (o' := 0) (off := 3) rfl rfl fld_impl_Broker_3) rfl (gle rfl)) rfl rfl rfl (gle rfl) rfl rfl ?_
            refine SV.opY (OpL.ok (nb := 1) (ok_load_bp (b := 0) (i := 3) (ag := false) (m := 1) (ys := [.ro _]) rfl rfl rfl agg_s_impl_Client sz_s_impl_Client (fun _ => rfl) rfl rfl (gle rfl)) rfl (gle rfl)) rfl rfl rfl (gle rfl) rfl rfl ?_
            refine SV.opY (OpMk.ok (ok_call (ls := [(false, [.sc _])]) rfl rfl ⟨_, _, Try.func55, rfl, by decide⟩ (vshare_i b.fActive b.fWaiting hA hW) ⟨⟨[.ro _], rfl, ⟨rfl, trivial⟩⟩, ⟨[.ro _], rfl, ⟨rfl, trivial⟩⟩, trivial⟩ rfl (gle rfl))) rfl rfl rfl (gle rfl) rfl rfl ?_
            refine SV.opY (OpL.ok (nb := 1) (ok_s1 (x := .tmp 34) (VScal.one rfl) (fun ρ h1 w => by go_simp; (try go_bits); with_reducible rfl) rfl) rfl (gle rfl)) rfl rfl rfl (gle rfl) rfl rfl ?_
            refine SV.op (OpL.ok (nb := 1) (ok_pickT (v := V.one (.sc _)) rfl rfl rfl) rfl (gle rfl)) rfl ?_
            refine SV.op (OpL.ok (nb := 1) (ok_move (v := V.one (.sc _)) (.inr rfl) rfl) rfl (gle rfl)) rfl ?_
            refine SV.nil ?_
            refine SV.tn ?_
            refine SV.ret ?_
            apply SV.done (hf := Try.results19) (ht := rfl) (he := .inl rfl)
            case hr => exact (ResAll.cons (ResOk.tmp (ag := false) (xs := [.sc _]) rfl) ResAll.nil')
            case h2 => simp [two]
            refine ⟨rfl, ⟨?_, trivial⟩, trivial⟩ <;> (show some (T.lit (Value.bool _)) = some (T.lit (Value.bool _)); refine congrArg (fun z => some (T.lit (Value.bool z))) ?_; (rw [ok_split b]; first | (rw [hg0]; simp; done) | (rw [hg0, hg1]; simp; done) | (rw [hg0, hg1, hg2]; simp; done) | (rw [hg0, hg1, hg2, hg3]; simp; done) | (rw [hg0, hg1, hg2, hg3, hg4]; simp; done)))
          · skip   -- g4.F
            refine SV.opN rfl rfl rfl (gle rfl) rfl rfl rfl (gle rfl) ?_
            refine SV.opN rfl rfl rfl (gle rfl) rfl rfl rfl (gle rfl) ?_
            refine SV.opN rfl rfl rfl (gle rfl) rfl rfl rfl (gle rfl) ?_
            refine SV.opN rfl rfl rfl (gle rfl) rfl rfl rfl (gle rfl) ?_
            refine SV.opN rfl rfl rfl (gle rfl) rfl rfl rfl (gle rfl) ?_
            refine SV.opN rfl rfl rfl (gle rfl) rfl rfl rfl (gle rfl) ?_
            refine SV.op (OpL.ok (nb := 1) (ok_pickF (v := V.one (.sc _)) rfl rfl rfl) rfl (gle rfl)) rfl ?_
            refine SV.op (OpL.ok (nb := 1) (ok_move (v := V.one (.sc _)) (.inr rfl) rfl) rfl (gle rfl)) rfl ?_
            refine SV.nil ?_
            refine SV.tn ?_
            refine SV.ret ?_
            apply SV.done (hf := Try.results19) (ht := rfl) (he := .inl rfl)
            case hr => exact (ResAll.cons (ResOk.tmp (ag := false) (xs := [.sc _]) rfl) ResAll.nil')
            case h2 => simp [two]
            refine ⟨rfl, ⟨?_, trivial⟩, trivial⟩ <;> (show some (T.lit (Value.bool _)) = some (T.lit (Value.bool _)); refine congrArg (fun z => some (T.lit (Value.bool z))) ?_; (rw [ok_split b]; first | (rw [hg0]; simp; done) | (rw [hg0, hg1]; simp; done) | (rw [hg0, hg1, hg2]; simp; done) | (rw [hg0, hg1, hg2, hg3]; simp; done) | (rw [hg0, hg1, hg2, hg3, hg4]; simp; done)))
        · skip   -- g3.F
          refine SV.opN rfl rfl rfl (gle rfl) rfl rfl rfl (gle rfl) ?_
          refine SV.opN rfl rfl rfl (gle rfl) rfl rfl rfl (gle rfl) ?_
          refine SV.opN rfl rfl rfl (gle rfl) rfl rfl rfl (gle rfl) ?_
          refine SV.opN rfl rfl rfl (gle rfl) rfl rfl rfl (gle rfl) ?_
          refine SV.opN rfl rfl rfl (gle rfl) rfl rfl rfl (gle rfl) ?_
          refine SV.op (OpL.ok (nb := 1) (ok_pickF (v := V.one (.sc _)) rfl rfl rfl) rfl (gle rfl)) rfl ?_
          refine SV.op (OpL.ok (nb := 1) (ok_move (v := V.one (.sc _)) (.inl rfl) rfl) rfl (gle rfl)) rfl ?_
          refine SV.opN rfl rfl rfl (gle rfl) rfl rfl rfl (gle rfl) ?_
          refine SV.opN rfl rfl rfl (gle rfl) rfl rfl rfl (gle rfl) ?_
          refine SV.opN rfl rfl rfl (gle rfl) rfl rfl rfl (gle rfl) ?_
          refine SV.opN rfl rfl rfl (gle rfl) rfl rfl rfl (gle rfl) ?_
          refine SV.opN rfl rfl rfl (gle rfl) rfl rfl rfl (gle rfl) ?_
          refine SV.opN rfl rfl rfl (gle rfl) rfl rfl rfl (gle rfl) ?_
          refine SV.op (OpL.ok (nb := 1) (ok_pickF (v := V.one (.sc _)) rfl rfl rfl) rfl (gle rfl)) rfl ?_
          refine SV.op (OpL.ok (nb := 1) (ok_move (v := V.one (.sc _)) (.inr rfl) rfl) rfl (gle rfl)) rfl ?_
          refine SV.nil ?_
          refine SV.tn ?_
          refine SV.ret ?_
          apply SV.done (hf := Try.results19) (ht := rfl) (he := .inl rfl)
          case hr => exact (ResAll.cons (ResOk.tmp (ag := false) (xs := [.sc _]) rfl) ResAll.nil')
          case h2 => simp [two]
          refine ⟨rfl, ⟨?_, trivial⟩, trivial⟩ <;> (show some (T.lit (Value.bool _)) = some (T.lit (Value.bool _)); refine congrArg (fun z => some (T.lit (Value.bool z))) ?_; (rw [ok_split b]; first | (rw [hg0]; simp; done) | (rw [hg0, hg1]; simp; done) | (rw [hg0, hg1, hg2]; simp; done) | (rw [hg0, hg1, hg2, hg3]; simp; done) | (rw [hg0, hg1, hg2, hg3, hg4]; simp; done)))
      · skip   -- g2.F
        refine SV.opN rfl rfl rfl (gle rfl) rfl rfl rfl (gle rfl) ?_
        refine SV.opN rfl rfl rfl (gle rfl) rfl rfl rfl (gle rfl) ?_
        refine SV.opN rfl rfl rfl (gle rfl) rfl rfl rfl (gle rfl) ?_
        refine SV.opN rfl rfl rfl (gle rfl) rfl rfl rfl (gle rfl) ?_
        refine SV.opN rfl rfl rfl (gle rfl) rfl rfl rfl (gle rfl) ?_
        refine SV.op (OpL.ok (nb := 1) (ok_pickF (v := V.one (.sc _)) rfl rfl rfl) rfl (gle rfl)) rfl ?_
        refine SV.op (OpL.ok (nb := 1) (ok_move (v := V.one (.sc _)) (.inl rfl) rfl) rfl (gle rfl)) rfl ?_
        refine SV.opN rfl rfl rfl (gle rfl) rfl rfl rfl (gle rfl) ?_
        refine SV.opN rfl rfl rfl (gle rfl) rfl rfl rfl (gle rfl) ?_
        refine SV.opN rfl rfl rfl (gle rfl) rfl rfl rfl (gle rfl) ?_
        refine SV.opN rfl rfl rfl (gle rfl) rfl rfl rfl (gle rfl) ?_
        refine SV.opN rfl rfl rfl (gle rfl) rfl rfl rfl (gle rfl) ?_
        refine SV.op (OpL.ok (nb := 1) (ok_pickF (v := V.one (.sc _)) rfl rfl rfl) rfl (gle rfl)) rfl ?_
        refine SV.op (OpL.ok (nb := 1) (ok_move (v := V.one (.sc _)) (.inl rfl) rfl) rfl (gle rfl)) rfl ?_
        refine SV.opN rfl rfl rfl (gle rfl) rfl rfl rfl (gle rfl) ?_
        refine SV.opN rfl rfl rfl (gle rfl) rfl rfl rfl (gle rfl) ?_
        refine SV.opN rfl rfl rfl (gle rfl) rfl rfl rfl (gle rfl) ?_
        refine SV.opN rfl rfl rfl (gle rfl) rfl rfl rfl (gle rfl) ?_
        refine SV.opN rfl rfl rfl (gle rfl) rfl rfl rfl (gle rfl) ?_
        refine SV.opN rfl rfl rfl (gle rfl) rfl rfl rfl (gle rfl) ?_
        refine SV.op (OpL.ok (nb := 1) (ok_pickF (v := V.one (.sc _)) rfl rfl rfl) rfl (gle rfl)) rfl ?_
        refine SV.op (OpL.ok (nb := 1) (ok_move (v := V.one (.sc _)) (.inr rfl) rfl) rfl (gle rfl)) rfl ?_
        refine SV.nil ?_
        refine SV.tn ?_
        refine SV.ret ?_
        apply SV.done (hf := Try.results19) (ht := rfl) (he := .inl rfl)
        case hr => exact (ResAll.cons (ResOk.tmp (ag := false) (xs := [.sc _]) rfl) ResAll.nil')
        case h2 => simp [two]
        refine ⟨rfl, ⟨?_, trivial⟩, trivial⟩ <;> (show some (T.lit (Value.bool _)) = some (T.lit (Value.bool _)); refine congrArg (fun z => some (T.lit (Value.bool z))) ?_; (rw [ok_split b]; first | (rw [hg0]; simp; done) | (rw [hg0, hg1]; simp; done) | (rw [hg0, hg1, hg2]; simp; done) | (rw [hg0, hg1, hg2, hg3]; simp; done) | (rw [hg0, hg1, hg2, hg3, hg4]; simp; done)))
    · skip   -- g1.F
      refine SV.opN rfl rfl rfl (gle rfl) rfl rfl rfl (gle rfl) ?_
      refine SV.opN rfl rfl rfl (gle rfl) rfl rfl rfl (gle rfl) ?_
      refine SV.op (OpL.ok (nb := 1) (ok_pickF (v := V.one (.sc _)) rfl rfl rfl) rfl (gle rfl)) rfl ?_
      refine SV.op (OpL.ok (nb := 1) (ok_move (v := V.one (.sc _)) (.inl rfl) rfl) rfl (gle rfl)) rfl ?_
      refine SV.opN rfl rfl rfl (gle rfl) rfl rfl rfl (gle rfl) ?_
      refine SV.opN rfl rfl rfl (gle rfl) rfl rfl rfl (gle rfl) ?_
      refine SV.opN rfl rfl rfl (gle rfl) rfl rfl rfl (gle rfl) ?_
      refine SV.opN rfl rfl rfl (gle rfl) rfl rfl rfl (gle rfl) ?_
      refine SV.opN rfl rfl rfl (gle rfl) rfl rfl rfl (gle rfl) ?_
      refine SV.op (OpL.ok (nb := 1) (ok_pickF (v := V.one (.sc _)) rfl rfl rfl) rfl (gle rfl)) rfl ?_
      refine SV.op (OpL.ok (nb := 1) (ok_move (v := V.one (.sc _)) (.inl rfl) rfl) rfl (gle rfl)) rfl ?_
      refine SV.opN rfl rfl rfl (gle rfl) rfl rfl rfl (gle rfl) ?_
      refine SV.opN rfl rfl rfl (gle rfl) rfl rfl rfl (gle rfl) ?_
      refine SV.opN rfl rfl rfl (gle rfl) rfl rfl rfl (gle rfl) ?_
      refine SV.opN rfl rfl rfl (gle rfl) rfl rfl rfl (gle rfl) ?_
      refine SV.opN rfl rfl rfl (gle rfl) rfl rfl rfl (gle rfl) ?_
      refine SV.op (OpL.ok (nb := 1) (ok_pickF (v := V.one (.sc _)) rfl rfl rfl) rfl (gle rfl)) rfl ?_
      refine SV.op (OpL.ok (nb := 1) (ok_move (v := V.one (.sc _)) (.inl rfl) rfl) rfl (gle rfl)) rfl ?_
      refine SV.opN rfl rfl rfl (gle rfl) rfl rfl rfl (gle rfl) ?_
      refine SV.opN rfl rfl rfl (gle rfl) rfl rfl rfl (gle rfl) ?_
      refine SV.opN rfl rfl rfl (gle rfl) rfl rfl rfl (gle rfl) ?_
      refine SV.opN rfl rfl rfl (gle rfl) rfl rfl rfl (gle rfl) ?_
      refine SV.opN rfl rfl rfl (gle rfl) rfl rfl rfl (gle rfl) ?_
      refine SV.opN rfl rfl rfl (gle rfl) rfl rfl rfl (gle rfl) ?_
      refine SV.op (OpL.ok (nb := 1) (ok_pickF (v := V.one (.sc _)) rfl rfl rfl) rfl (gle rfl)) rfl ?_
      refine SV.op (OpL.ok (nb := 1) (ok_move (v := V.one (.sc _)) (.inr rfl) rfl) rfl (gle rfl)) rfl ?_
      refine SV.nil ?_
      refine SV.tn ?_
      refine SV.ret ?_
      apply SV.done (hf := Try.results19) (ht := rfl) (he := .inl rfl)
      case hr => exact (ResAll.cons (ResOk.tmp (ag := false) (xs := [.sc _]) rfl) ResAll.nil')
      case h2 => simp [two]
      refine ⟨rfl, ⟨?_, trivial⟩, trivial⟩ <;> (show some (T.lit (Value.bool _)) = some (T.lit (Value.bool _)); refine congrArg (fun z => some (T.lit (Value.bool z))) ?_; (rw [ok_split b]; first | (rw [hg0]; simp; done) | (rw [hg0, hg1]; simp; done) | (rw [hg0, hg1, hg2]; simp; done) | (rw [hg0, hg1, hg2, hg3]; simp; done) | (rw [hg0, hg1, hg2, hg3, hg4]; simp; done)))
  · skip   -- g0.F
    refine SV.opN rfl rfl rfl (gle rfl) rfl rfl rfl (gle rfl) ?_
    refine SV.opN rfl rfl rfl (gle rfl) rfl rfl rfl (gle rfl) ?_
    refine SV.opN rfl rfl rfl (gle rfl) rfl rfl rfl (gle rfl) ?_
    refine SV.op (OpL.ok (nb := 1) (ok_pickF (v := V.one (.sc _)) rfl rfl rfl) rfl (gle rfl)) rfl ?_
    refine SV.op (OpL.ok (nb := 1) (ok_move (v := V.one (.sc _)) (.inl rfl) rfl) rfl (gle rfl)) rfl ?_
    refine SV.opN rfl rfl rfl (gle rfl) rfl rfl rfl (gle rfl) ?_
    refine SV.opN rfl rfl rfl (gle rfl) rfl rfl rfl (gle rfl) ?_
    refine SV.op (OpL.ok (nb := 1) (ok_pickF (v := V.one (.sc _)) rfl rfl rfl) rfl (gle rfl)) rfl ?_
    refine SV.op (OpL.ok (nb := 1) (ok_move (v := V.one (.sc _)) (.inl rfl) rfl) rfl (gle rfl)) rfl ?_
    refine SV.opN rfl rfl rfl (gle rfl) rfl rfl rfl (gle rfl) ?_
    refine SV.opN rfl rfl rfl (gle rfl) rfl rfl rfl (gle rfl) ?_
    refine SV.opN rfl rfl rfl (gle rfl) rfl rfl rfl (gle rfl) ?_
    refine SV.opN rfl rfl rfl (gle rfl) rfl rfl rfl (gle rfl) ?_
    refine SV.opN rfl rfl rfl (gle rfl) rfl rfl rfl (gle rfl) ?_
    refine SV.op (OpL.ok (nb := 1) (ok_pickF (v := V.one (.sc _)) rfl rfl rfl) rfl (gle rfl)) rfl ?_
    refine SV.op (OpL.ok (nb := 1) (ok_move (v := V.one (.sc _)) (.inl rfl) rfl) rfl (gle rfl)) rfl ?_
    refine SV.opN rfl rfl rfl (gle rfl) rfl rfl rfl (gle rfl) ?_
    refine SV.opN rfl rfl rfl (gle rfl) rfl rfl rfl (gle rfl) ?_
    refine SV.opN rfl rfl rfl (gle rfl) rfl rfl rfl (gle rfl) ?_
    refine SV.opN rfl rfl rfl (gle rfl) rfl rfl rfl (gle rfl) ?_
    refine SV.opN rfl rfl rfl (gle rfl) rfl rfl rfl (gle rfl) ?_
    refine SV.op (OpL.ok (nb := 1) (ok_pickF (v := V.one (.sc _)) rfl rfl rfl) rfl (gle rfl)) rfl ?_
    refine SV.op (OpL.ok (nb := 1) (ok_move (v := V.one (.sc _)) (.inl rfl) rfl) rfl (gle rfl)) rfl ?_
    refine SV.opN rfl rfl rfl (gle rfl) rfl rfl rfl (gle rfl) ?_
    refine SV.opN rfl rfl rfl (gle rfl) rfl rfl rfl (gle rfl) ?_
    refine SV.opN rfl rfl rfl (gle rfl) rfl rfl rfl (gle rfl) ?_
    refine SV.opN rfl rfl rfl (gle rfl) rfl rfl rfl (gle rfl) ?_
    refine SV.opN rfl rfl rfl (gle rfl) rfl rfl rfl (gle rfl) ?_
    refine SV.opN rfl rfl rfl (gle rfl) rfl rfl rfl (gle rfl) ?_
    refine SV.op (OpL.ok (nb := 1) (ok_pickF (v := V.one (.sc _)) rfl rfl rfl) rfl (gle rfl)) rfl ?_
    refine SV.op (OpL.ok (nb := 1) (ok_move (v := V.one (.sc _)) (.inr rfl) rfl) rfl (gle rfl)) rfl ?_
    refine SV.nil ?_
    refine SV.tn ?_
    refine SV.ret ?_
    apply SV.done (hf := Try.results19) (ht := rfl) (he := .inl rfl)
    case hr => exact (ResAll.cons (ResOk.tmp (ag := false) (xs := [.sc _]) rfl) ResAll.nil')
    case h2 => simp [two]
    refine ⟨rfl, ⟨?_, trivial⟩, trivial⟩ <;> (show some (T.lit (Value.bool _)) = some (T.lit (Value.bool _)); refine congrArg (fun z => some (T.lit (Value.bool z))) ?_; (rw [ok_split b]; first | (rw [hg0]; simp; done) | (rw [hg0, hg1]; simp; done) | (rw [hg0, hg1, hg2]; simp; done) | (rw [hg0, hg1, hg2, hg3]; simp; done) | (rw [hg0, hg1, hg2, hg3, hg4]; simp; done)))
end Go.Proofs.Ytfghhjcfmmhacaa
/- Total orders told by a comparison, and sorting by them, as plain mathematics; no function of program or reference is walked here. -/
namespace Go.Proofs.Ytfghhjcfmmhacaa
structure IsOrd {α : Type} (cmp : α → α → Int) : Prop where
  zero : ∀ a b, cmp a b = 0 ↔ a = b
  anti : ∀ a b, cmp b a = - cmp a b
  trans : ∀ a b c, cmp a b ≤ 0 → cmp b c ≤ 0 → cmp a c ≤ 0
namespace Ord
variable {α : Type} {cmp : α → α → Int}
def leb (cmp : α → α → Int) (a b : α) : Bool := decide (cmp a b ≤ 0)
theorem leb_iff {a b : α} : leb cmp a b = true ↔ cmp a b ≤ 0 := by simp [leb]
def sort (cmp : α → α → Int) (L : List α) : List α := L.mergeSort (leb cmp)
theorem sort_perm (L : List α) : (sort cmp L).Perm L := List.mergeSort_perm L _
theorem sort_asc (H : IsOrd cmp) (L : List α) : (sort cmp L).Pairwise fun a b => leb cmp a b = true :=
  List.pairwise_mergeSort (le := leb cmp) (fun a b c h h' => leb_iff.2 (H.trans _ _ _ (leb_iff.1 h) (leb_iff.1 h'))) (fun a b => by
    rcases (show cmp a b ≤ 0 ∨ cmp b a ≤ 0 by have := H.anti a b; omega) with h | h
    · simp [leb_iff.2 h]
    · simp [leb_iff.2 h]) L
theorem sort_unique (H : IsOrd cmp) {M L : List α} (hp : M.Perm L) (hs : M.Pairwise fun a b => leb cmp a b = true) : M = sort cmp L :=
  List.Perm.eq_of_pairwise (fun a b _ _ h h' => (H.zero a b).1 (by have h1 := leb_iff.1 h; have h2 := leb_iff.1 h'; have := H.anti a b; omega)) hs (sort_asc H L) (hp.trans (sort_perm L).symm)
end Ord
end Go.Proofs.Ytfghhjcfmmhacaa
/- The order in which clients are served, as mathematics: by falling priority, then by place; an insertion sort by the priority alone gives it. -/
namespace Go.Proofs.Ytfghhjcfmmhacaa
open Go Go.RowKit Go.Sort
set_option linter.unusedVariables false
section
variable {α : Type} [Inhabited α] {v : α → Nat} {lt lt2 : α → α → Bool}
theorem swp_at {d : Array α} {i j p : Nat} (hi : i < d.size) (hj : j < d.size) : (swp d i j)[p]! = if p = j then d[i]! else if p = i then d[j]! else d[p]! := by
  unfold swp
  rcases Nat.lt_or_ge p d.size with hp | hp
  · rw [getElem!_pos _ p (by simpa using hp), Array.getElem_setIfInBounds (by simpa using hp)]
    by_cases e1 : j = p
    · rw [if_pos e1, if_pos e1.symm]
    · rw [if_neg e1, if_neg (fun e => e1 e.symm), Array.getElem_setIfInBounds]
      by_cases e2 : i = p
      · rw [if_pos e2, if_pos e2.symm]
      · rw [if_neg e2, if_neg (fun e => e2 e.symm), getElem!_pos d p hp]
  · have e1 : ¬ p = j := by omega
    have e2 : ¬ p = i := by omega
    rw [if_neg e1, if_neg e2]
    simp [Array.getElem!_eq_getD, Array.getD, Nat.not_lt.2 hp]
theorem inner_eq (h2 : ∀ x y, v y < v x → lt2 x y = lt x y) : ∀ (j : Nat) (d : Array α), j < d.size → (∀ p, p < j → v d[p]! < v d[j]!) → insInner lt 0 j d = insInner lt2 0 j d
  | 0, d, _, _ => rfl
  | j + 1, d, hj, hb => by
    unfold insInner
    rw [h2 _ _ (hb j (Nat.lt_succ_self j))]
    split
    · refine inner_eq h2 j _ (by rw [swp_size]; omega) fun p hp => ?_
      rw [swp_at hj (by omega), swp_at hj (by omega), if_neg (by omega), if_neg (by omega), if_pos rfl]
      exact hb p (by omega)
    · rfl
theorem inner_mem : ∀ (j : Nat) (d : Array α), j < d.size → (insInner lt 0 j d).size = d.size ∧ (∀ q, j < q → (insInner lt 0 j d)[q]! = d[q]!) ∧ ∀ p, p ≤ j → ∃ p', p' ≤ j ∧ (insInner lt 0 j d)[p]! = d[p']!
  | 0, d, _ => ⟨rfl, fun q _ => rfl, fun p hp => ⟨p, hp, rfl⟩⟩
  | j + 1, d, hj => by
    unfold insInner
    split
    · obtain ⟨i1, i2, i3⟩ := inner_mem j (swp d (j + 1) j) (by rw [swp_size]; omega)
      refine ⟨by rw [i1, swp_size], fun q hq => ?_, fun p hp => ?_⟩
      · rw [i2 q (by omega), swp_at hj (by omega), if_neg (by omega), if_neg (by omega)]
      · rcases Nat.lt_or_ge j p with h | h
        · have e : p = j + 1 := by omega
          subst e
          refine ⟨j, by omega, ?_⟩
          rw [i2 _ (by omega), swp_at hj (by omega), if_neg (by omega), if_pos rfl]
        · obtain ⟨p', hp', e⟩ := i3 p h
          rw [e, swp_at hj (by omega)]
          by_cases e1 : p' = j
          · exact ⟨j + 1, Nat.le_refl _, by rw [if_pos e1]⟩
          · exact ⟨p', by omega, by rw [if_neg e1, if_neg (by omega)]⟩
    · exact ⟨rfl, fun q _ => rfl, fun p hp => ⟨p, hp, rfl⟩⟩
theorem outer_eq (h2 : ∀ x y, v y < v x → lt2 x y = lt x y) (b : Nat) : ∀ (n i : Nat) (d : Array α), b - i = n → b ≤ d.size → (∀ p q, p < q → i ≤ q → q < b → v d[p]! < v d[q]!) → insOuter lt 0 b i d = insOuter lt2 0 b i d
  | 0, i, d, hn, _, _ => by
    have e1 : insOuter lt 0 b i d = d := by rw [insOuter, if_neg (by omega)]
    have e2 : insOuter lt2 0 b i d = d := by rw [insOuter, if_neg (by omega)]
    rw [e1, e2]
  | n + 1, i, d, hn, hb, hd => by
    have e1 : insOuter lt 0 b i d = insOuter lt 0 b (i + 1) (insInner lt 0 i d) := by rw [insOuter, if_pos (by omega)]
    have e2 : insOuter lt2 0 b i d = insOuter lt2 0 b (i + 1) (insInner lt2 0 i d) := by rw [insOuter, if_pos (by omega)]
    rw [e1, e2, ← inner_eq h2 i d (by omega) fun p hp => hd p i hp (Nat.le_refl i) (by omega)]
    obtain ⟨i1, i2, i3⟩ := inner_mem (lt := lt) i d (by omega)
    refine outer_eq h2 b n (i + 1) _ (by omega) (by rw [i1]; exact hb) fun p q hpq hq hqb => ?_
    rw [i2 q (by omega)]
    rcases Nat.lt_or_ge i p with h | h
    · rw [i2 p h]
      exact hd p q hpq (by omega) hqb
    · obtain ⟨p', hp', e⟩ := i3 p h
      rw [e]
      exact hd p' q (by omega) (by omega) hqb
end
def cmpOrd (L : List ClientD) (i j : Nat) : Int := if BrokerD.prio L j < BrokerD.prio L i then -1 else if BrokerD.prio L i < BrokerD.prio L j then 1 else if i < j then -1 else if j < i then 1 else 0
theorem isOrd_cmpOrd (L : List ClientD) : IsOrd (cmpOrd L) where
  zero a b := by unfold cmpOrd; constructor <;> intro h <;> (first | (subst h; simp) | (repeat' split at h) <;> first | omega | (exfalso; omega))
  anti a b := by unfold cmpOrd; repeat' split <;> first | omega | rfl
  trans a b c h1 h2 := by unfold cmpOrd at *; repeat' split at h1 <;> repeat' split at h2 <;> repeat' split <;> omega
def ordOf (L : List ClientD) : List Nat := Ord.sort (cmpOrd L) (List.range L.length)
theorem ordOf_perm (L : List ClientD) : (ordOf L).Perm (List.range L.length) := Ord.sort_perm _
theorem ordOf_length (L : List ClientD) : (ordOf L).length = L.length := by rw [(ordOf_perm L).length_eq, List.length_range]
end Go.Proofs.Ytfghhjcfmmhacaa
/- Clients in a row of the call's own, by what stands at each index; such a row as a tree, and back. -/
namespace Go.Proofs.Ytfghhjcfmmhacaa
open Go Go.RowKit V
set_option linter.unusedVariables false
theorem rowIs_setCells {b : Nat} {t : TypeId} {n : Nat} : ∀ (vs : List Value) (o : Nat) (w : World) (f : Nat → Value), w.rowIs b t n f → (w.setCells b o vs).rowIs b t n (fun j => if o ≤ j ∧ j < o + vs.length then vs.getD (j - o) undef else f j)
  | [], o, w, f, h => h.congr fun i _ => by rw [if_neg (fun e => by simp at e; omega)]
  | v :: r, o, w, f, h => by
    have ih := rowIs_setCells r (o + 1) _ _ (h.set o v)
    refine ih.congr fun j hj => ?_
    by_cases h1 : o + 1 ≤ j ∧ j < o + 1 + r.length
    · have h2 : o ≤ j ∧ j < o + (v :: r).length := by simp; omega
      rw [if_pos h1, if_pos h2, show j - o = (j - (o + 1)) + 1 by omega]
      rfl
    · rw [if_neg h1]
      by_cases h3 : j = o
      · subst h3
        have h2 : j ≤ j ∧ j < j + (v :: r).length := by simp
        rw [if_pos rfl, if_pos h2, Nat.sub_self]
        rfl
      · have h2 : ¬ (o ≤ j ∧ j < o + (v :: r).length) := by simp; omega
        rw [if_neg h3, if_neg h2]
def ClF (f : Nat → Value) (L : List ClientD) : Prop := ∀ (t : Nat) (c : ClientD), L[t]? = some c → f (t * 3) = .int .i64 c.fID ∧ f (t * 3 + 1) = .int .i64 c.fRequested ∧ f (t * 3 + 2) = .int .i64 c.fPriority
theorem third (j : Nat) : j = j / 3 * 3 ∨ j = j / 3 * 3 + 1 ∨ j = j / 3 * 3 + 2 := by omega
theorem ClF.int {f : Nat → Value} {L : List ClientD} (h : ClF f L) {j : Nat} (hj : j < L.length * 3) : ∃ x, f j = .int .i64 x := by
  have hq : j / 3 < L.length := by omega
  obtain ⟨h0, h1, h2⟩ := h (j / 3) L[j / 3] (List.getElem?_eq_getElem hq)
  rcases third j with e | e | e
  · exact ⟨_, by rw [e]; exact h0⟩
  · exact ⟨_, by rw [e]; exact h1⟩
  · exact ⟨_, by rw [e]; exact h2⟩
theorem ClF.one {f : Nat → Value} {L : List ClientD} (h : ClF f L) {j : Nat} (hj : j < L.length * 3) : (f j).oneCell' = true := by
  obtain ⟨x, hx⟩ := h.int hj
  rw [hx]; rfl
theorem ClF.congr {f g : Nat → Value} {L : List ClientD} (h : ClF f L) (e : ∀ j, j < L.length * 3 → g j = f j) : ClF g L := fun t c ht => by
  have hl := V.get_lt ht
  obtain ⟨h0, h1, h2⟩ := h t c ht
  exact ⟨(e _ (by omega)).trans h0, (e _ (by omega)).trans h1, (e _ (by omega)).trans h2⟩
theorem own_row {w : World} {L : List ClientD} {v : Value} {F : Nat → Prop} (h : Own w 0 (.seq 35 (L.map tClient)) v F) :
    (v = .slice none 0 0 ∧ L = []) ∨ ∃ (g cap : Nat) (f : Nat → Value), v = .slice (some ⟨g, 0, none⟩) L.length cap ∧ F g ∧ L.length ≤ cap ∧ cap ≤ maxLen ∧ w.rowIs g 35 (cap * 3) f ∧ ClF f L := by
  cases h with
  | seq n hp hz hn xs hown Gs hr hone hF hG hne hd =>
    have h3 : n = 3 := hz.eq sz_impl_Client
    subst h3
    obtain ⟨hxl, ⟨rfl, h0⟩ | ⟨g, cap, cur, rfl, -, hh, hc, hm, hs, ht⟩⟩ := hown
    · refine .inl ⟨rfl, ?_⟩
      rw [List.length_map] at h0
      exact List.eq_nil_of_length_eq_zero h0
    · rw [List.length_map] at hc ht hxl
      refine .inr ⟨g, cap, fun i => cur.getD i undef, by rw [List.length_map], hF g rfl, hc, hm, ⟨cur, hh, hs, fun i hi => by simp [Array.getD, hs, hi]⟩, fun t c htc => ?_⟩
      have htl := V.get_lt htc
      have key : ∀ (j : Nat) (u : Value), j < 3 → (tClient c)[j]? = some (.lit u) → cur.getD (t * 3 + j) undef = u := fun j u hj hu => by
        have hlt : t * 3 + j < xs.length := by omega
        have h1 := hr t (tClient c) j (.lit u) xs[t * 3 + j] (by rw [List.getElem?_map, htc]; rfl) hu (List.getElem?_eq_getElem hlt)
        have h2 : xs[t * 3 + j] = u := by cases h1; rfl
        have h3 : xs[t * 3 + j]? = some u := by rw [List.getElem?_eq_getElem hlt, h2]
        rw [← ht, List.getElem?_take, if_pos (by omega)] at h3
        have h4 : t * 3 + j < cur.size := by omega
        rw [Array.getElem?_toList, Array.getElem?_eq_getElem h4] at h3
        simp [Array.getD, h4, Option.some.inj h3]
      exact ⟨key 0 _ (by omega) rfl, key 1 _ (by omega) rfl, key 2 _ (by omega) rfl⟩
theorem row_own {w : World} {L : List ClientD} {g cap : Nat} {f : Nat → Value} {F : Nat → Prop} (hF : F g) (hc : L.length ≤ cap) (hm : cap ≤ maxLen) (hrow : w.rowIs g 35 (cap * 3) f) (hf : ClF f L) : Own w 0 (.seq 35 (L.map tClient)) (.slice (some ⟨g, 0, none⟩) L.length cap) F := by
  obtain ⟨cur, hh, hs, hcell⟩ := hrow
  have htl : cur.toList.take (L.length * 3) = (List.range (L.length * 3)).map f := by
    apply List.ext_getElem?
    intro j
    rw [List.getElem?_take]
    by_cases hj : j < L.length * 3
    · rw [if_pos hj, Array.getElem?_toList, hcell j (by omega), List.getElem?_map, List.getElem?_range hj]; rfl
    · rw [if_neg hj, List.getElem?_eq_none (by simp; omega)]
  refine .seq 3 (by decide) sz_impl_Client (fun e he => by obtain ⟨x, -, rfl⟩ := List.mem_map.1 he; rfl) ((List.range (L.length * 3)).map f) ⟨by simp, .inr ⟨g, cap, cur, by rw [List.length_map], Nat.zero_le _, hh, by rw [List.length_map]; exact hc, hm, hs, by rw [List.length_map]; exact htl⟩⟩ (fun _ _ => False) (fun k e j t u h1 h2 h3 => ?_) (fun u hu => ?_) (fun b hb => by cases hb; exact hF) (fun q b hb => hb.elim) (fun q b hb => hb.elim) fun q q' b hb => hb.elim
  · rw [List.getElem?_map] at h1
    obtain ⟨c, hc', rfl⟩ := Option.map_eq_some_iff.1 h1
    have hk := V.get_lt hc'
    have hj : j < 3 := by simpa [tClient] using V.get_lt h2
    rw [List.getElem?_map, List.getElem?_range (by omega)] at h3
    have hu : f (k * 3 + j) = u := Option.some.inj h3
    obtain ⟨e0, e1, e2⟩ := hf k c hc'
    match j, hj with
    | 0, _ => cases h2; rw [← hu, show k * 3 + 0 = k * 3 from rfl, e0]; exact .lit rfl
    | 1, _ => cases h2; rw [← hu, e1]; exact .lit rfl
    | 2, _ => cases h2; rw [← hu, e2]; exact .lit rfl
  · obtain ⟨j, hj, rfl⟩ := List.mem_map.1 hu
    exact hf.one (List.mem_range.1 hj)
end Go.Proofs.Ytfghhjcfmmhacaa
/- States told by trees: contracts of functions that are handed a slice to keep (it is appended to, and comes back in the answer), and their calls. -/
namespace Go.Proofs.Ytfghhjcfmmhacaa.V
open Go Go.RowKit
set_option linter.unusedVariables false
def VX (P : Program) (f : FuncId) (ins : List (Bool × List AC)) (ls : List T) (tup : Bool) (rs : List (Bool × List T)) : Prop :=
  ∀ (w : World) (lv : Nat → Value) (F : Nat → Nat → Prop) (hF : ∀ i b, i < ls.length → F i b → b < w.heap.size) (vs : List Value), (∀ i t, ls[i]? = some t → Own w 0 t (lv i) (F i) ∧ ∃ ty es, t = .seq ty es) → (∀ i j b, i < ls.length → j < ls.length → i ≠ j → F i b → ¬ F j b) → ArgsM (Env.lend w lv F ls.length hF) ins vs →
    Calls P f vs.toArray w (Gives (Env.lend w lv F ls.length hF) tup rs)
def Env.free (E : Env) : Env := { E with nl := 0 }
variable {P : Program} {E : Env} {N : Nat} {σ σ' : VS} {o : Oper} {a : Act} {w : World} {G : Ghost}
theorem Rel.free (h : Rel E N σ a w G) : Rel E.free N σ a w G :=
  ⟨⟨h.below.os, h.below.tape, h.below.output, h.below.size, fun k hk => h.below.block k hk⟩, h.dfr, h.nsz, h.tmps, h.boxes, h.inj, h.boxft, h.objs, h.disj, h.ftlt, ⟨Nat.zero_le _, fun i hi => absurd hi (Nat.not_lt_zero i), h.lent.2.2⟩⟩
theorem VX.enter {f : FuncId} {fn : Func} {c : Go.Code} {n : Nat} {ins : List (Bool × List AC)} {ls : List T} {tup : Bool} {rs : List (Bool × List T)} (hf : P.funcs[f]? = some fn) (hb : fn.body = some c) (hn : fn.ntmps = n) (hl : ins.length ≤ n)
    (h : ∀ E, E.plain 0 → SV E n (VS.initM (ins.map fun p => V.flat p.1 (p.2.map AC.leaf)) ls) (c.wp P (bodyPost P fn (Gives E tup rs)))) : VX P f ins ls tup rs := fun w lv F hF vs h1 h2 hv => by
  refine calls_of_wp hf hb ?_
  obtain ⟨G, hG⟩ := init_relM (E := Env.lend w lv F ls.length hF) (F := F) ⟨rfl, rfl⟩ h1 h2 (fun i b hi hb => ⟨.inr ⟨i, hi, hb⟩, hF i b hi hb⟩) hv (n := n) (by rw [hv.1]; exact hl)
  have h3 := h (Env.lend w lv F ls.length hF).free ⟨rfl, rfl⟩ _ _ G hG.free
  have hg : ∀ e w', Gives (Env.lend w lv F ls.length hF).free tup rs e w' → Gives (Env.lend w lv F ls.length hF) tup rs e w' := fun e w' ⟨uss, F', k1, k2, k3, k4, k5, k6⟩ => ⟨uss, F', k1, k2, k3, k4, k5, ⟨k6.os, k6.tape, k6.output, k6.size, fun k hk => k6.block k hk⟩⟩
  rw [hn]
  have h4 := wp_mono h3 (Q' := bodyPost P fn (Gives (Env.lend w lv F ls.length hF) tup rs)) fun e a w' hq => by
    cases e with
    | normal => obtain ⟨k1, v, k2, k3⟩ := hq; exact ⟨k1, v, k2, hg _ _ k3⟩
    | ret => obtain ⟨k1, v, k2, k3⟩ := hq; exact ⟨k1, v, k2, hg _ _ k3⟩
    | exit id => exact hq
    | goto l => exact hq
    | panic ch => first | exact hq | exact hg _ _ hq | exact ⟨hq.1, hg _ _ hq.2⟩
    | outgrown => first | exact hq | exact hg _ _ hq
  have e : (Env.lend w lv F ls.length hF).w0 = w := rfl
  rw [e] at h4
  simpa using h4
def VS.argX (p : Leaf) : List Leaf → List AC → Prop
  | [], [] => True
  | x :: xs, .rd t :: ts => ((∃ u, t = .lit u ∧ x = .sc u) ∨ x = .ro t) ∧ VS.argX p xs ts
  | x :: xs, .ln i :: ts => (i = 0 ∧ x = p) ∧ VS.argX p xs ts
  | _, _ => False
theorem argX_get {p : Leaf} : ∀ {xs : List Leaf} {ts : List AC}, VS.argX p xs ts → xs.length = ts.length ∧ ∀ (j : Nat) (t : AC), ts[j]? = some t → ∃ x, xs[j]? = some x ∧ match t with
    | .rd t => (∃ u, t = .lit u ∧ x = .sc u) ∨ x = .ro t
    | .ln i => i = 0 ∧ x = p
  | [], [], _ => ⟨rfl, fun j t h => by simp at h⟩
  | x :: xs, .rd t :: ts, h => by
    obtain ⟨h1, h2⟩ := argX_get h.2
    refine ⟨by simp [h1], fun j s hj => ?_⟩
    cases j with
    | zero => cases hj; exact ⟨x, rfl, h.1⟩
    | succ j => exact h2 j s (by simpa using hj)
  | x :: xs, .ln i :: ts, h => by
    obtain ⟨h1, h2⟩ := argX_get h.2
    refine ⟨by simp [h1], fun j s hj => ?_⟩
    cases j with
    | zero => cases hj; exact ⟨x, rfl, h.1⟩
    | succ j => exact h2 j s (by simpa using hj)
def VS.argsX (σ : VS) (p : Leaf) : List Operand → List (Bool × List AC) → Prop
  | [], [] => True
  | x :: xs, q :: qs => (∃ ls, σ.ev x = V.flat q.1 ls ∧ VS.argX p ls q.2) ∧ σ.argsX p xs qs
  | _, _ => False
theorem Rel.argsX (h : Rel E N σ a w G) {i : Nat} {E' : Env} (hw : E'.w0 = w) (hold : ∀ b, E.old b → E'.old b) (hn : 0 < E'.nl) (hv : E'.lv 0 = G.vl i) : ∀ {xs : List Operand} {qs : List (Bool × List AC)}, σ.argsX (.hd i) xs qs → ArgsM E' qs (xs.map a.eval)
  | [], [], _ => ⟨rfl, fun c ag ts v hc => by simp at hc⟩
  | x :: xs, q :: qs, hq => by
    obtain ⟨⟨ls, h1, h2⟩, h3⟩ := hq
    obtain ⟨h4, h5⟩ := h.argsX hw hold hn hv h3
    refine ⟨by simpa using h4, fun c ag ts v hc hv' => ?_⟩
    cases c with
    | zero =>
      cases hc
      cases hv'
      have h6 := h.ev x
      rw [h1, vflat] at h6
      obtain ⟨us, h7, h8, h9⟩ := h6
      obtain ⟨h10, h11⟩ := argX_get h2
      refine ⟨us, h7, h8.trans h10, fun j t u hj hu => ?_⟩
      obtain ⟨y, h12, h13⟩ := h11 j t hj
      have h14 := h9 j y u h12 hu
      cases t with
      | ln k =>
        obtain ⟨rfl, rfl⟩ := h13
        exact ⟨hn, h14.1.2.trans hv.symm⟩
      | rd t =>
        rcases h13 with ⟨z, rfl, rfl⟩ | rfl
        · rcases h14.2 with h15 | h15
          · cases h15
          · have h16 : u = z := h14.1
            rw [h16] at h15 ⊢
            exact .lit h15
        · have h16 : Inn E.old w t u := h14.1
          show Inn E'.old E'.w0 t u
          rw [hw]
          exact h16.frame (Nat.le_refl _) fun b hb _ => ⟨hold b hb, rfl⟩
    | succ c => exact h5 c ag ts v (by simpa using hc) (by simpa using hv')
end Go.Proofs.Ytfghhjcfmmhacaa.V
/- States told by trees: a call that is handed several objects to keep, whose answers may be structs and tuples; a call of a function value that is known. -/
namespace Go.Proofs.Ytfghhjcfmmhacaa.V
open Go Go.RowKit
set_option linter.unusedVariables false
variable {P : Program} {E : Env} {N nb : Nat} {σ σ' : VS} {o : Oper} {a : Act} {w : World} {G : Ghost}
def VS.argY (is : List Nat) : List Leaf → List AC → Prop
  | [], [] => True
  | x :: xs, .rd t :: ts => ((∃ u, t = .lit u ∧ x = .sc u) ∨ x = .ro t) ∧ VS.argY is xs ts
  | x :: xs, .ln i :: ts => (∃ p, is[i]? = some p ∧ x = .hd p) ∧ VS.argY is xs ts
  | _, _ => False
theorem argY_get {is : List Nat} : ∀ {xs : List Leaf} {ts : List AC}, VS.argY is xs ts → xs.length = ts.length ∧ ∀ (j : Nat) (t : AC), ts[j]? = some t → ∃ x, xs[j]? = some x ∧ match t with
    | .rd t => (∃ u, t = .lit u ∧ x = .sc u) ∨ x = .ro t
    | .ln i => ∃ p, is[i]? = some p ∧ x = .hd p
  | [], [], _ => ⟨rfl, fun j t h => by simp at h⟩
  | x :: xs, .rd t :: ts, h => by
    obtain ⟨h1, h2⟩ := argY_get h.2
    refine ⟨by simp [h1], fun j s hj => ?_⟩
    cases j with
    | zero => cases hj; exact ⟨x, rfl, h.1⟩
    | succ j => exact h2 j s (by simpa using hj)
  | x :: xs, .ln i :: ts, h => by
    obtain ⟨h1, h2⟩ := argY_get h.2
    refine ⟨by simp [h1], fun j s hj => ?_⟩
    cases j with
    | zero => cases hj; exact ⟨x, rfl, h.1⟩
    | succ j => exact h2 j s (by simpa using hj)
def VS.argsY (σ : VS) (is : List Nat) : List Operand → List (Bool × List AC) → Prop
  | [], [] => True
  | x :: xs, q :: qs => (∃ ls, σ.ev x = V.flat q.1 ls ∧ VS.argY is ls q.2) ∧ σ.argsY is xs qs
  | _, _ => False
theorem Rel.argsY (h : Rel E N σ a w G) {is : List Nat} {E' : Env} (hw : E'.w0 = w) (hold : ∀ b, E.old b → E'.old b) (hn : ∀ i p, is[i]? = some p → i < E'.nl ∧ E'.lv i = G.vl p) : ∀ {xs : List Operand} {qs : List (Bool × List AC)}, σ.argsY is xs qs → ArgsM E' qs (xs.map a.eval)
  | [], [], _ => ⟨rfl, fun c ag ts v hc => by simp at hc⟩
  | x :: xs, q :: qs, hq => by
    obtain ⟨⟨ls, h1, h2⟩, h3⟩ := hq
    obtain ⟨h4, h5⟩ := h.argsY hw hold hn h3
    refine ⟨by simpa using h4, fun c ag ts v hc hv' => ?_⟩
    cases c with
    | zero =>
      cases hc
      cases hv'
      have h6 := h.ev x
      rw [h1, vflat] at h6
      obtain ⟨us, h7, h8, h9⟩ := h6
      obtain ⟨h10, h11⟩ := argY_get h2
      refine ⟨us, h7, h8.trans h10, fun j t u hj hu => ?_⟩
      obtain ⟨y, h12, h13⟩ := h11 j t hj
      have h14 := h9 j y u h12 hu
      cases t with
      | ln k =>
        obtain ⟨p, hp, rfl⟩ := h13
        obtain ⟨e1, e2⟩ := hn k p hp
        exact ⟨e1, h14.1.2.trans e2.symm⟩
      | rd t =>
        rcases h13 with ⟨z, rfl, rfl⟩ | rfl
        · rcases h14.2 with h15 | h15
          · cases h15
          · have h16 : u = z := h14.1
            rw [h16] at h15 ⊢
            exact .lit h15
        · have h16 : Inn E.old w t u := h14.1
          show Inn E'.old E'.w0 t u
          rw [hw]
          exact h16.frame (Nat.le_refl _) fun b hb _ => ⟨hold b hb, rfl⟩
    | succ c => exact h5 c ag ts v (by simpa using hc) (by simpa using hv')
theorem killY {cs : List Leaf} {i : Nat} {p : Nat × T} (h : (σ.kills cs).ob i = some p) : σ.ob i = some p ∧ cs.any (isHd i) = false := by
  have h1 : (bif cs.any (isHd i) then none else σ.ob i) = some p := h
  cases hc : cs.any (isHd i) with
  | true => rw [hc] at h1; cases h1
  | false => rw [hc] at h1; exact ⟨h1, rfl⟩
theorem ok_callY {d : Nat} {f : FuncId} {xs : List Operand} {ats : Array TypeId} {ins : List (Bool × List AC)} {ts : List T} {tup : Bool} {rs : List (Bool × List T)} {ls : List (Bool × List Leaf)} {is : List Nat} (hk : ansLs σ.nx rs = ls) (ho : o.op = .call { callee := .value (.func f), args := xs.toArray, argTypes := ats }) (hb : ∃ fn c, P.funcs[f]? = some fn ∧ fn.body = some c ∧ fn.name ≠ "runtime.NumGoroutine")
    (hc : VX P f ins ts tup rs) (hx : σ.argsY is xs ins) (hi : is.map (fun i => (σ.ob i).map (·.2)) = ts.map some) (hnd : is.Nodup) (hd : o.dst = some d) (hdN : d < N) : OpOk P E N σ o ((ansSs (σ.kills (is.map .hd)) rs).put d ⟨tup, ls⟩) :=
  fun a w G K Q h k => by
    subst hk
    obtain ⟨fn, c, h1, h2, h2'⟩ := hb
    have hlen : is.length = ts.length := by simpa using congrArg List.length hi
    have hat : ∀ (q : Nat) (p : Nat), is[q]? = some p → ∃ ver t, ts[q]? = some t ∧ σ.ob p = some (ver, t) := fun q p hq => by
      have e := congrArg (fun l => l[q]?) hi
      simp only [List.getElem?_map, hq, Option.map_some] at e
      cases ht : ts[q]? with
      | none => have := get_lt hq; rw [List.getElem?_eq_none_iff] at ht; omega
      | some t =>
        rw [ht] at e
        have e2 := Option.some.inj e
        obtain ⟨⟨ver, t'⟩, e3, e4⟩ := Option.map_eq_some_iff.1 e2
        exact ⟨ver, t, rfl, by rw [e3]; simp at e4; rw [e4]⟩
    have hlive : ∀ (q : Nat) (p : Nat), is[q]? = some p → σ.ob p ≠ none := fun q p hq => by obtain ⟨v, t, -, e⟩ := hat q p hq; rw [e]; simp
    have hgd : ∀ q, q < ts.length → is[q]? = some (is.getD q 0) := fun q hq => by rw [List.getD, List.getElem?_eq_getElem (by omega)]; rfl
    have hF : ∀ (q b : Nat), q < ts.length → G.ft (is.getD q 0) b → b < w.heap.size := fun q b hq hb => (h.ftlt _ b (hlive q _ (hgd q hq)) hb).2
    have hnot : ∀ b, E.old b → ∀ p ∈ is, ¬ G.ft p b := fun b hb p hp hf => by
      obtain ⟨q, hq⟩ := List.getElem?_of_mem hp
      exact (h.ftlt p b (hlive q p hq) hf).1.elim (fun h1 => by have := hb.1; omega) hb.2
    have hne : ∀ q q', q < ts.length → q' < ts.length → q ≠ q' → is.getD q 0 ≠ is.getD q' 0 := fun q q' hq hq' hqq e => by
      have e1 := hgd q hq
      have e2 := hgd q' hq'
      rw [List.getElem?_eq_getElem (by omega)] at e1 e2
      have e3 : is[q]'(by omega) = is[q']'(by omega) := by rw [Option.some.inj e1, Option.some.inj e2, e]
      rcases Nat.lt_or_gt_of_ne hqq with h | h
      · exact List.pairwise_iff_getElem.1 hnd q q' (by omega) (by omega) h e3
      · exact List.pairwise_iff_getElem.1 hnd q' q (by omega) (by omega) h e3.symm
    have hcall := hc w (fun q => G.vl (is.getD q 0)) (fun q => G.ft (is.getD q 0)) hF (xs.map a.eval) (fun q t hq => by
      obtain ⟨v, t', e1, e2⟩ := hat q _ (hgd q (get_lt hq))
      rw [hq] at e1
      cases e1
      obtain ⟨-, e5, e6⟩ := h.objs _ v t e2
      exact ⟨e5, e6⟩) (fun q q' b hq hq' hqq => h.disj _ _ b (hlive q _ (hgd q hq)) (hlive q' _ (hgd q' hq')) (hne q q' hq hq' hqq))
      (h.argsY (is := is) (E' := Env.lend w (fun q => G.vl (is.getD q 0)) (fun q => G.ft (is.getD q 0)) ts.length hF) rfl (fun b hb => ⟨Nat.lt_of_lt_of_le hb.1 h.low, fun ⟨q, hq, hqb⟩ => hnot b hb _ (get_mem (hgd q hq)) hqb⟩)
        (fun i p hp => ⟨by have := get_lt hp; show i < ts.length; omega, by show G.vl (is.getD i 0) = _; rw [List.getD, hp]; rfl⟩) hx)
    have hrun : (execOp a.eval o).run P w = .ok (.enter f (xs.map a.eval).toArray) w := by
      simp [execOp, ho, resolve, Act.eval, Deferred.ofValue, invoke, callFunc, h1, h2, h2', Result.andThen]
    unfold Oper.wp
    rw [hrun]
    refine hcall.mono fun e w' ⟨uss, F', g1, g2, g3, g4, g5, g6⟩ => ?_
    have hin : ∀ b, (∃ q, q < ts.length ∧ G.ft (is.getD q 0) b) → ∃ p ∈ is, G.ft p b := fun b ⟨q, hq, hb⟩ => ⟨_, get_mem (hgd q hq), hb⟩
    have hsm : Same E w w' := ⟨g6.os, g6.tape, g6.output, g6.size, fun b hb => g6.block b ⟨Nat.lt_of_lt_of_le hb.1 h.low, fun hh => by obtain ⟨p, hp, hpb⟩ := hin b hh; exact hnot b hb p hp hpb⟩⟩
    have hlv : ∀ p ∈ is, σ.ob p ≠ none := fun p hp => by obtain ⟨q, hq⟩ := List.getElem?_of_mem hp; exact hlive q p hq
    have hoff : ∀ i p, (σ.kills (is.map .hd)).ob i = some p → σ.ob i = some p ∧ i ∉ is := fun i p hp => by
      obtain ⟨e1, e2⟩ := killY hp
      refine ⟨e1, fun hm => ?_⟩
      rw [List.any_eq_false] at e2
      exact e2 (.hd i) (List.mem_map.2 ⟨i, hm, rfl⟩) (Nat.beq_refl i)
    have hkill : Rel E N (σ.kills (is.map .hd)) a w' G := by
      refine (h.turn (σ' := σ.kills (is.map .hd)) (G' := G) (fun b => ∃ p ∈ is, G.ft p b) rfl rfl rfl hsm (fun b hb hD => g6.block b ⟨hb, fun hh => hD (hin b hh)⟩) (fun c hc ⟨p, hp, hpb⟩ => h.boxft c p hc (hlv p hp) hpb) (Nat.le_refl _) (fun _ _ => rfl) (fun i v' t' hv => ?_) (fun i j b hi hj hij => ?_)).1
      · obtain ⟨e1, e2⟩ := hoff i _ hv
        exact .inl ⟨e1, fun b => Iff.rfl, fun b hb ⟨p, hp, hpb⟩ => h.disj i p b (by rw [e1]; simp) (hlv p hp) (fun e => e2 (e ▸ hp)) hb hpb⟩
      · obtain ⟨vi, hvi⟩ := Option.ne_none_iff_exists'.1 hi
        obtain ⟨vj, hvj⟩ := Option.ne_none_iff_exists'.1 hj
        exact h.disj i j b (by rw [(hoff i _ hvi).1]; simp) (by rw [(hoff j _ hvj).1]; simp) hij
    subst g2
    obtain ⟨G', k1, k2, k3, k4, k5, k6, k7, k8⟩ := hkill.addAlls rs uss F' g1 (fun c ag ts us hc hu => ⟨(g3 c ag ts us hc hu).1, fun j t u hj hu' => (g3 c ag ts us hc hu).2 j t u hj hu'⟩) (fun c j b hb => by
      obtain ⟨m1, m2⟩ := g5 c j b hb
      rcases m1 with m1 | hm
      · refine ⟨⟨fun i hi hf => ?_, fun c' hc' e => ?_⟩, .inl (Nat.le_trans h.low m1), m2⟩
        · obtain ⟨vi, hvi⟩ := Option.ne_none_iff_exists'.1 hi
          have := (h.ftlt i b (by rw [(hoff i _ hvi).1]; simp) hf).2
          have hm1 : w.heap.size ≤ b := m1
          omega
        · exact (h.fresh m1).2 c' hc' e
      · obtain ⟨p, hp, hpb⟩ := hin b hm
        refine ⟨⟨fun i hi hf => ?_, fun c' hc' e => ?_⟩, (h.ftlt p b (hlv p hp) hpb).1, m2⟩
        · obtain ⟨vi, hvi⟩ := Option.ne_none_iff_exists'.1 hi
          obtain ⟨e1, e2⟩ := hoff i _ hvi
          exact h.disj i p b (by rw [e1]; simp) (hlv p hp) (fun e => e2 (e ▸ hp)) hf hpb
        · exact h.boxft c' p hc' (hlv p hp) (by rw [e]; exact hpb)) g4
    rw [hd]
    refine k _ _ _ (?_ : Rel E N _ _ _ G')
    have hfin := k1.put hdN (v := ⟨tup, ansLs σ.nx rs⟩) (u := vval tup (List.zipWith (fun c us => cval c.1 us) (ansLs σ.nx rs) uss)) ⟨uss, g1.trans k3.symm, rfl, fun c ag xs us hc hu => ⟨(k4 c ag xs us hc hu).1, (k4 c ag xs us hc hu).2.2⟩⟩
    have hz : List.zipWith (fun r us => cval r.1 us) rs uss = List.zipWith (fun c us => cval c.1 us) (ansLs σ.nx rs) uss := by
      apply List.ext_getElem?
      intro c
      rw [List.getElem?_zipWith, List.getElem?_zipWith]
      cases hq : (ansLs σ.nx rs)[c]? with
      | none =>
        have : rs[c]? = none := by
          have k3' : (ansLs σ.nx rs).length = rs.length := k3
          rw [List.getElem?_eq_none_iff] at hq ⊢; omega
        rw [this]
      | some q =>
        obtain ⟨ag, xs'⟩ := q
        have k3' : (ansLs σ.nx rs).length = rs.length := k3
        have hcl : c < uss.length := by have := get_lt hq; omega
        obtain ⟨-, ⟨ts', hts⟩, -⟩ := k4 c ag xs' uss[c] hq (List.getElem?_eq_getElem hcl)
        rw [hts, List.getElem?_eq_getElem hcl]
    rw [hz]
    exact hfin
theorem ok_callV {d : Nat} {f : FuncId} {y : Operand} {xs : List Operand} {ats : Array TypeId} {qs : List (Bool × List T)} {tup : Bool} {rs : List (Bool × List T)} {ls : List (Bool × List Leaf)} (hk : ansLs σ.nx rs = ls) (ho : o.op = .call { callee := .value y, args := xs.toArray, argTypes := ats }) (hy : σ.ev y = V.one (.sc (.func (.func f) #[] #[]))) (hyn : y ≠ .func f) (hb : ∃ fn c, P.funcs[f]? = some fn ∧ fn.body = some c ∧ fn.name ≠ "runtime.NumGoroutine")
    (hc : VC P f qs tup rs) (hx : σ.argss xs qs) (hd : o.dst = some d) (hdN : d < N) : OpMk P E N none σ o ((ansSs σ rs).put d ⟨tup, ls⟩) := fun a w G K Q h k => by
  have hyv : a.eval y = .func (.func f) #[] #[] := h.sc hy
  have key : ∀ ρ : Operand → Value, ρ y = .func (.func f) #[] #[] → ρ (.func f) = .func (.func f) #[] #[] → (execOp ρ o).run P w = (execOp ρ { o with op := .call { callee := .value (.func f), args := xs.toArray, argTypes := ats } }).run P w := fun ρ r1 r2 => by
    simp only [execOp, ho, resolve, r1, r2]
  have hev := key a.eval hyv rfl
  have := ok_call (o := { o with op := .call { callee := .value (.func f), args := xs.toArray, argTypes := ats } }) (ats := ats) hk rfl hb hc hx hd hdN a w G K Q h k
  unfold Oper.wp at this ⊢
  rw [hev]
  exact this
end Go.Proofs.Ytfghhjcfmmhacaa.V
/- The comparison of two numbers, and of two clients' IDs, by contract. -/
namespace Go.Proofs.Ytfghhjcfmmhacaa
open Go Go.RowKit V
set_option linter.unusedVariables false
def cmpI (x y : Int) : Int := if x < y then -1 else if y < x then 1 else 0
theorem cmpI_neg {x y : Int} : cmpI x y < 0 ↔ x < y := by unfold cmpI; repeat' split <;> omega
theorem cmpI_zero {x y : Int} : cmpI x y = 0 ↔ x = y := by unfold cmpI; repeat' split <;> omega
theorem icompare (x y : Int) (w : World) : Calls Try.prog 81 #[.int .i64 x, .int .i64 y] w fun e w' => e = .returned (.int .i64 (cmpI x y)) ∧ w' = w := by
  rcases Int.lt_trichotomy x y with h | h | h
  · have e : cmpI x y = -1 := if_pos h
    rw [e]
    clear e
    go_enter Try.func81, Try.ntmps81
    go_wp2
    all_goals go_ret
    all_goals simp_all
  · subst h
    have e : cmpI x x = 0 := cmpI_zero.2 rfl
    rw [e]
    clear e
    go_enter Try.func81, Try.ntmps81
    go_wp2
    all_goals go_ret
    all_goals simp_all
  · have e : cmpI x y = 1 := by unfold cmpI; rw [if_neg (by omega), if_pos h]
    have h' : ¬ x < y := by omega
    rw [e]
    clear e
    go_enter Try.func81, Try.ntmps81
    go_wp2
    all_goals go_ret
    all_goals simp_all
theorem vcompare (x y : Int) : VC Try.prog 81 [(false, [.lit (.int .i64 x)]), (false, [.lit (.int .i64 y)])] false [(false, [.lit (.int .i64 (cmpI x y))])] :=
  VC.plain (ins := [(false, [.int .i64 x]), (false, [.int .i64 y])]) (ag := false) (rs := [.int .i64 (cmpI x y)]) (fun u hu => by rw [List.mem_singleton.1 hu]; rfl) fun w => (icompare x y w).mono fun e w' ⟨he, hw⟩ => ⟨he, hw ▸ Below.refl _ _⟩
end Go.Proofs.Ytfghhjcfmmhacaa
/- The program's order in which clients are served (a stable sort with a closure), by contract. -/
namespace Go.Proofs.Ytfghhjcfmmhacaa
open Go Go.RowKit V Go.Sort
set_option linter.unusedVariables false
theorem prio_at {L : List ClientD} {i : Nat} {c : ClientD} (h : L[i]? = some c) : BrokerD.prio L i = c.fPriority := by unfold BrokerD.prio; rw [h]
set_option maxRecDepth 100000 in
theorem icmpord (a : Option Addr) (c : Nat) (L : List ClientD) (i j nb : Nat) (w : World) (hi : i < L.length) (hj : j < L.length) (hn : L.length ≤ 1000000000) (hb : w.cell? ⟨nb, 0, none⟩ = some (.slice a L.length c)) (hin : ClIn w a L) :
    Calls Try.prog 80 #[.int .i64 (i : Nat), .int .i64 (j : Nat), .pointer (some ⟨nb, 0, none⟩)] w fun e w' => e = .returned (.int .i64 (cmpI (BrokerD.prio L j) (BrokerD.prio L i))) ∧ w' = w.drew := by
  obtain ⟨x, hx⟩ : ∃ x, L[i]? = some x := ⟨_, List.getElem?_eq_getElem hi⟩
  obtain ⟨y, hy⟩ : ∃ y, L[j]? = some y := ⟨_, List.getElem?_eq_getElem hj⟩
  rw [prio_at hx, prio_at hy]
  obtain ⟨b, o, ha, hbl, -, -, p1⟩ := hin i x hx
  obtain ⟨b', o', ha', -, -, -, p2⟩ := hin j y hy
  rw [ha] at ha'
  injection ha' with ha'
  injection ha' with e1 e2
  subst e1 e2 ha
  obtain ⟨n, hnl⟩ : ∃ n, n = L.length := ⟨_, rfl⟩
  rw [← hnl] at hi hj hn hb
  obtain ⟨X, hX⟩ : ∃ X, X = x.fPriority := ⟨_, rfl⟩
  obtain ⟨Y, hY⟩ : ∃ Y, Y = y.fPriority := ⟨_, rfl⟩
  rw [← hX] at p1 ⊢
  rw [← hY] at p2 ⊢
  have z1 : (i : Int) < (n : Int) := by omega
  have z2 : (j : Int) < (n : Int) := by omega
  clear hx hy hnl hX hY hin
  go_enter Try.func80, Try.ntmps80
  go_wp2_with fail
  go_still_tail 10, (by kernel_rfl)
  go_wp2_with fail
  refine (icompare _ _ _).mono ?_
  rintro e w1 ⟨rfl, rfl⟩
  go_wp2_with fail
  go_ret
  exact ⟨rfl, rfl⟩
theorem heap_sort1 {α : Type} [Inhabited α] {enc : α → Value} {g : Nat} {w : World} (n : Nat) (d : Array α) (os : Array Obj) {b : Nat} (hb : b < w.heap.size) : (sortWorld enc w g 0 n d os).heap[b]? = if g = b then (w.heap[b]?).map (onCells (Go.Sort.putCells enc 0 d)) else w.heap[b]? := by
  show ((w.heap.modify g (onCells (Go.Sort.putCells enc 0 d))) ++ os)[b]? = _
  rw [Array.getElem?_append_left (by simpa using hb), Array.getElem?_modify]
theorem size_sort1 {α : Type} [Inhabited α] {enc : α → Value} {g : Nat} {w : World} (n : Nat) (d : Array α) (os : Array Obj) : w.heap.size ≤ (sortWorld enc w g 0 n d os).heap.size := by simp [sortWorld, grow, putRow, mapBlock]
def Apart (w : World) (g : Nat) (W : World) : Prop := w.heap.size ≤ W.heap.size ∧ ∀ b, b < w.heap.size → b ≠ g → W.heap[b]? = w.heap[b]?
theorem apart_sort1 {α : Type} [Inhabited α] {enc : α → Value} {g : Nat} {w : World} (n : Nat) (d : Array α) (os : Array Obj) : Apart w g (sortWorld enc w g 0 n d os) := ⟨size_sort1 n d os, fun b hb hne => by rw [heap_sort1 n d os hb, if_neg (fun e => hne e.symm)]⟩
theorem row_sort1 {α : Type} [Inhabited α] {enc : α → Value} {g k : Nat} {t : TypeId} {f : Nat → Value} {w : World} (n : Nat) (d : Array α) (os : Array Obj) (h : w.rowIs g t k f) (hd : d.size = k) : (sortWorld enc w g 0 n d os).rowIs g t k (fun j => enc d[j]!) := by
  obtain ⟨cur, h1, h2, h3⟩ := h
  refine ⟨Go.Sort.putCells enc 0 d cur, ?_, by simp [Go.Sort.putCells, h2], fun j hj => ?_⟩
  · rw [heap_sort1 n d os (lt_of_block h1), if_pos rfl, h1]; rfl
  · simp [Go.Sort.putCells, Array.getElem?_mapIdx, h2, hj, hd]
theorem ext_all {α : Type} (d : Array α) {n : Nat} (h : d.size = n) : (d.extract 0 n).toList = d.toList := by
  subst h
  simp
def idArr (n : Nat) : Array (Fin n) := Array.ofFn fun i => i
def encF {n : Nat} (k : Fin n) : Value := .int .i64 (k.val : Int)
theorem idArr_at {n : Nat} [Inhabited (Fin n)] {j : Nat} (hj : j < n) : ((idArr n)[j]!).val = j := by
  unfold idArr
  rw [getElem!_pos _ j (by simpa using hj)]
  simp
theorem sorted_ord (L : List ClientD) [Inhabited (Fin L.length)] (d' : Array (Fin L.length)) (h : d' = insertionSort (ltOf fun x y : Fin L.length => cmpI (BrokerD.prio L y.val) (BrokerD.prio L x.val)) (idArr L.length) 0 L.length) : d'.size = L.length ∧ d'.toList.map (·.val) = ordOf L := by
  have hsz : (idArr L.length).size = L.length := by simp [idArr]
  have e : d' = insertionSort (ltOf fun x y : Fin L.length => cmpOrd L x.val y.val) (idArr L.length) 0 L.length := by
    rw [h]
    unfold insertionSort
    refine outer_eq (v := fun x : Fin L.length => x.val) (fun x y hxy => ?_) L.length _ 1 _ rfl (by rw [hsz]; exact Nat.le_refl _) fun p q hpq hq hqb => ?_
    · unfold ltOf cmpOrd cmpI
      congr 1
      apply propext
      dsimp only
      repeat' split <;> omega
    · rw [idArr_at (by omega), idArr_at hqb]
      exact hpq
  have hord := isOrd_cmpOrd L
  have swo : SWO (ltOf fun x y : Fin L.length => cmpOrd L x.val y.val) := {
    irrefl := fun x => by unfold ltOf; simp; rw [(hord.zero x.val x.val).2 rfl]; exact Int.le_refl _
    trans := fun x y z h1 h2 => by
      unfold ltOf at *
      simp only [decide_eq_true_eq] at *
      have a1 := hord.anti x.val y.val
      have a2 := hord.anti y.val z.val
      rcases (show cmpOrd L x.val z.val < 0 ∨ 0 ≤ cmpOrd L x.val z.val by omega) with h | h
      · exact h
      · have a3 := hord.anti x.val z.val
        have := hord.trans x.val y.val z.val (by omega) (by omega)
        have e0 : cmpOrd L x.val z.val = 0 := by omega
        have e2 := (hord.zero x.val z.val).1 e0
        rw [e2] at h1 a1
        omega
    ntrans := fun x y z h1 h2 => by
      unfold ltOf at *
      simp only [decide_eq_false_iff_not, Int.not_lt] at *
      have a1 := hord.anti x.val y.val
      have a2 := hord.anti y.val z.val
      have a3 := hord.anti x.val z.val
      have := hord.trans z.val y.val x.val (by omega) (by omega)
      omega }
  obtain ⟨⟨p1, -, p3⟩, hs⟩ := insertionSort_holds (lt := ltOf fun x y : Fin L.length => cmpOrd L x.val y.val) swo (idArr L.length) 0 L.length (Nat.zero_le _) (by rw [hsz]; exact Nat.le_refl _)
  rw [← e] at p1 p3 hs
  have hz : d'.size = L.length := p1.trans hsz
  refine ⟨hz, Ord.sort_unique hord ?_ ?_⟩
  · have e1 : (d'.extract 0 L.length).toList = d'.toList := ext_all d' hz
    have e2 : ((idArr L.length).extract 0 L.length).toList = (idArr L.length).toList := ext_all _ hsz
    rw [e1, e2] at p3
    have e3 : (idArr L.length).toList.map (·.val) = List.range L.length := by
      apply List.ext_getElem?
      intro j
      by_cases hj : j < L.length
      · simp [idArr, hj]
      · simp [idArr, hj]
    rw [← e3]
    exact p3.map _
  · refine List.pairwise_map.2 (List.pairwise_iff_getElem.2 fun i j hi hj hij => Ord.leb_iff.2 ?_)
    rw [Array.length_toList] at hi hj
    have := hs i j (Nat.zero_le _) hij (by omega)
    unfold ltOf at this
    rw [getElem!_pos d' j hj, getElem!_pos d' i hi] at this
    simp only [decide_eq_false_iff_not, Int.not_lt] at this
    have a := hord.anti d'[i].val d'[j].val
    simp only [Array.getElem_toList]
    omega
def Seen (w : World) (g : Nat) (L : List ClientD) (a : Option Addr) (c nb : Nat) : Prop := ∀ W, Apart w g W → W.cell? ⟨nb, 0, none⟩ = some (.slice a L.length c) ∧ ClIn W a L
set_option maxRecDepth 100000 in
theorem iinssort (a : Option Addr) (c nb g : Nat) (L : List ClientD) (f : Nat → Value) (w : World) (h0 : 0 < L.length) (hn : L.length ≤ 1000000000) (hs : Seen w g L a c nb) (hrow : w.rowIs g 3 L.length f) (hf : ∀ j, j < L.length → f j = .int .i64 (j : Nat)) :
    Calls Try.prog 96 #[.slice (some ⟨g, 0, none⟩) L.length L.length, .int .i64 ((0 : Nat) : Int), .int .i64 (L.length : Nat), .func (.func 80) #[] #[.pointer (some ⟨nb, 0, none⟩)]] w fun e w' =>
      e = .returned (.tuple #[]) ∧ w.grownBy w' (some g) ∧ ∃ f', w'.rowIs g 3 L.length f' ∧ ∀ j v, (ordOf L)[j]? = some v → f' j = .int .i64 (v : Nat) := by
  haveI : Inhabited (Fin L.length) := ⟨⟨0, h0⟩⟩
  have hsz : (idArr L.length).size = L.length := by simp [idArr]
  have hH : Holds encF w g 0 (idArr L.length) := fun j hj => by
    rw [hsz] at hj
    refine ⟨?_, hrow.frozen _⟩
    rw [Nat.zero_add, hrow.cell hj, hf j hj]
    unfold encF
    rw [idArr_at hj]
  have eg : ∀ args w, (callFunc 80 args).run Try.prog w = .ok (.enter 80 args) w := enters_of Try.func80 (by kernel_rfl) rfl
  have hcon := Any.insertionSortCmpFunc_s Try.insInts (encF (n := L.length)) (fun x y : Fin L.length => cmpI (BrokerD.prio L y.val) (BrokerD.prio L x.val)) 80 #[.pointer (some ⟨nb, 0, none⟩)] g 0 L.length 0 L.length (idArr L.length) (idArr L.length) w w eg
    (fun m os dk hdk x y => by
      obtain ⟨q1, q2⟩ := hs _ (apart_sort1 m dk os)
      exact (icmpord a c L x.val y.val nb _ x.isLt y.isLt hn q1 q2).mono fun e w' ⟨he, hw⟩ => ⟨he, 1, #[], by rw [hw, grow_empty]; rfl⟩)
    ⟨fun x => rfl, hH, hrow.lt⟩ rfl (SW.start hH) (Nat.zero_le _) (by rw [hsz]; exact Nat.le_refl _) (by rw [hsz]; omega)
  rw [hsz] at hcon
  refine hcon.mono fun e w' ⟨he, m, os, hw⟩ => ?_
  obtain ⟨d', hd'⟩ : ∃ d', d' = insertionSort (ltOf fun x y : Fin L.length => cmpI (BrokerD.prio L y.val) (BrokerD.prio L x.val)) (idArr L.length) 0 L.length := ⟨_, rfl⟩
  rw [← hd'] at hw
  obtain ⟨s1, s2⟩ := sorted_ord L d' hd'
  subst hw
  refine ⟨he, ⟨rfl, rfl, rfl, size_sort1 m d' os, fun b hb hne => ?_⟩, _, row_sort1 m d' os hrow s1, fun j v hv => ?_⟩
  · rw [heap_sort1 m d' os hb, if_neg (fun e => hne (by rw [e]))]
  · have hjl : j < L.length := by have := V.get_lt hv; rwa [ordOf_length] at this
    rw [← s2, List.getElem?_map, Array.getElem?_toList, Array.getElem?_eq_getElem (by omega)] at hv
    rw [getElem!_pos d' j (by omega)]
    unfold encF
    rw [← Option.some.inj hv]
end Go.Proofs.Ytfghhjcfmmhacaa
