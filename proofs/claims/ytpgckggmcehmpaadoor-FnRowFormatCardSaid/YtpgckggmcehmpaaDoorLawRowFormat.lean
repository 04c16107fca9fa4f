/- Proved: for every code the law FnRowFormat returns true: at all that the law draws (it answers true above 2^20 bytes), the program's formats of rows are read back as the rows, and nothing else is read; its checks and sums answer as the reference's; the library's variables are tied to the program's text. No further condition. -/
import Derived.Test.YtpgckggmcehmpaaDoorRows
import Derived.Test.YtpgckggmcehmpaaDoorCards
import Derived.Test.YtpgckggmcehmpaaDoorTie
import Derived.Test.YtpgckggmcehmpaaDoorWrap
import Derived.Test.YtpgckggmcehmpaaDoorProwsi
import Derived.Test.YtpgckggmcehmpaaDoorProwss
import Derived.Test.YtpgckggmcehmpaaDoorFmtRowi
import Derived.Test.YtpgckggmcehmpaaDoorSameRows
import Derived.Test.YtpgckggmcehmpaaDoorClass
import Derived.Test.YtpgckggmcehmpaaDoorDrawParse
import Derived.Deep.RegionHeld3
import Derived.Deep.CutRange
import Derived.ProofKit
import Derived.OpenShut
import Derived.ShutString
import Derived.ChangeOld
import Derived.LaidMore
import Derived.Lay
import Derived.Stop.Joined
import Derived.SevenTiedAt
namespace Go.Proofs.YtpgckggmcehmpaaDoor.FnRowFormat
open Go Go.ChangeShapes Go.WideShapes Go.ChangeAt Go.RowKit
open Go.ChangeMaps (open_string shut_string)
set_option linter.unusedVariables false

theorem of_laid {w : World} (h : laidMetH Tryd.prog Rows.fnRowFormatRow.laid w) : Tab w ∧ Syn w := by
  rw [MakeChecks.laidMetH_plain _ _ _ (by kernel_rfl)] at h
  exact ⟨by (first | exact tab_of h | exact tab_of h.tail | exact tab_of h.tail.tail | exact tab_of h.tail.tail.tail | exact tab_of h.tail.tail.tail.tail | exact tab_of h.tail.tail.tail.tail.tail | exact tab_of h.tail.tail.tail.tail.tail.tail | exact tab_of h.tail.tail.tail.tail.tail.tail.tail), by (first | exact syn_of h | exact syn_of h.tail | exact syn_of h.tail.tail | exact syn_of h.tail.tail.tail | exact syn_of h.tail.tail.tail.tail | exact syn_of h.tail.tail.tail.tail.tail | exact syn_of h.tail.tail.tail.tail.tail.tail | exact syn_of h.tail.tail.tail.tail.tail.tail.tail)⟩
theorem row_old {w : World} {a : Option Addr} {len cap : Nat} {zs : List Int} (h : IsRow .u8 w a len cap zs) : ∀ x, a = some x → 0 < cap → x.block < w.heap.size := by
  intro x hx hp
  rcases h with ⟨_, _, hc, _⟩ | ⟨y, rfl, hlc, hm, hz, hcell, hwz⟩
  · omega
  · obtain rfl := Option.some.inj hx
    have := World.block_lt_of_cell? w _ (hcell 0 (by omega))
    simpa [Addr.add] using this
/-- What is kept while the first test runs: three rows in their boxes, and what was there. -/
structure St (w : World) (g0 g1 g2 : Nat) (r x y : R) (v : World) : Prop where
  r0 : Var3 v g0 r
  x0 : Var3 v g1 x
  y0 : Var3 v g2 y
  old : Below w.heap.size w v
theorem St.drew {w v : World} {g0 g1 g2 : Nat} {r x y : R} (h : St w g0 g1 g2 r x y v) : St w g0 g1 g2 r x y v.drew := ⟨h.r0, h.x0, h.y0, h.old.drew⟩
theorem St.next {w v v' : World} {g0 g1 g2 : Nat} {r x y : R} (h : St w g0 g1 g2 r x y v) (hb : Below v.heap.size v v') : St w g0 g1 g2 r x y v' := ⟨h.r0.keep hb, h.x0.keep hb, h.y0.keep hb, h.old.trans (hb.mono h.old.size)⟩
theorem St.step {w v : World} {g0 g1 g2 : Nat} {r x y : R} {f : FuncId} {args : Array Value} {u : Value} (h : St w g0 g1 g2 r x y v) (hc : Calls Tryd.prog f args v fun e v' => e = .returned u ∧ Below v.heap.size v v') : Calls Tryd.prog f args v fun e v' => e = .returned u ∧ St w g0 g1 g2 r x y v' :=
  hc.mono fun e v' ⟨he, hb⟩ => ⟨he, h.next hb⟩
theorem St.facts {w v : World} {g0 g1 g2 : Nat} {r x y : R} (h : St w g0 g1 g2 r x y v) : v.cell? ⟨g0, 0, none⟩ = some (.int .i64 r.key) ∧ v.cell? ⟨g0, 1, none⟩ = some (.int .i64 r.value) ∧ v.cell? ⟨g0, 2, none⟩ = some (.int .i64 r.width) ∧
    v.cell? ⟨g1, 0, none⟩ = some (.int .i64 x.key) ∧ v.cell? ⟨g1, 1, none⟩ = some (.int .i64 x.value) ∧ v.cell? ⟨g1, 2, none⟩ = some (.int .i64 x.width) ∧
    v.cell? ⟨g2, 0, none⟩ = some (.int .i64 y.key) ∧ v.cell? ⟨g2, 1, none⟩ = some (.int .i64 y.value) ∧ v.cell? ⟨g2, 2, none⟩ = some (.int .i64 y.width) ∧ Hid (St w g0 g1 g2 r x y v) := by
  obtain ⟨a0, a1, a2⟩ := h.r0.cells
  obtain ⟨b0, b1, b2⟩ := h.x0.cells
  obtain ⟨c0, c1, c2⟩ := h.y0.cells
  exact ⟨a0, a1, a2, b0, b1, b2, c0, c1, c2, h⟩
theorem parse_fmt (r : R) : parseRow r.fmt = if r.ok = true then some r else none := by
  cases h : r.ok with
  | true => rw [if_pos rfl]; exact parseRow_fmt r h
  | false =>
    have : r.fmt = [] := by unfold R.fmt; rw [h]; rfl
    rw [this]; rfl
theorem str_data (l : List UInt8) : (⟨l.toArray⟩ : ByteArray).data.toList = l := by simp
set_option maxRecDepth 100000 in
set_option maxHeartbeats 2000000 in
theorem walk (a : Option Addr) (len cap : Nat) (zs : List Int) (w : World) (hr : IsRow .u8 w a len cap zs) (hL : Tab w ∧ Syn w) (hM : Mx w) : Calls Tryd.prog 3 #[.slice a len cap] w fun e w' => e = .returned (.bool true) ∧ Below w.heap.size w w' := by
  by_cases hbig : len ≤ 1048576
  · have HC : Hid (Code a len cap zs w) := ⟨hr, hbig, row_old hr⟩
    have HL := Lib.hid hL
    have HM := Lib.hid hM
    clear hr hL hM
    go_enter Tryd.func3, Tryd.ntmps3
    go_wp2_with fail
    refine (big_no a len cap _ hbig).mono ?_
    rintro e w0 ⟨rfl, rfl⟩
    go_wp2_with fail
    refine (draw_row a len cap zs _ HC.out).mono ?_
    rintro e w1 ⟨r, hrw, rfl, b1⟩
    have HRW := Lib.hid hrw
    have bx1 : Below w1.heap.size w1 (w1.alloc (.cells #[.int .i64 r.key, .int .i64 r.value, .int .i64 r.width] 25)) := (Below.refl _ _).alloc (Nat.le_refl _) _
    have B1 := Lib.hid (b1.trans (bx1.mono b1.size))
    have V1 := Lib.hid (Var3.made w1 r)
    have T1 := Lib.hid (HL.out.1.stay B1.out)
    clear b1 bx1 hrw
    go_wp2_with fail
    refine (ifrow r _ T1.out).mono ?_
    rintro e w2 ⟨rfl, b2⟩
    have B2 := Lib.hid (B1.out.trans (b2.mono B1.out.size))
    have V2 := Lib.hid (V1.out.keep b2)
    have L2 := Lib.hid (laid_stay HL.out B2.out)
    have M2 := Lib.hid (HM.out.stay B2.out)
    clear b2
    have PR := Lib.hid (iprow ⟨r.fmt.toArray⟩ (by have := fmt_length r; show r.fmt.toArray.size ≤ _; rw [List.size_toArray]; omega))
    unfold RowAns at PR
    rw [str_data, parse_fmt] at PR
    obtain ⟨x, hx⟩ : ∃ x, x = (if r.ok = true then some r else none).getD R.zero := ⟨_, rfl⟩
    obtain ⟨p, hp⟩ : ∃ p, p = (if r.ok = true then some r else none).isSome := ⟨_, rfl⟩
    rw [← hx, ← hp] at PR
    have HX := Lib.hid hx
    have HP := Lib.hid hp
    clear hx hp
    go_wp2_with fail
    refine (PR.out _ M2.out L2.out).mono ?_
    rintro e w3 ⟨rfl, b3⟩
    have bx3 : Below w3.heap.size w3 (w3.alloc (.cells #[.int .i64 x.key, .int .i64 x.value, .int .i64 x.width] 25)) := (Below.refl _ _).alloc (Nat.le_refl _) _
    have B3 := Lib.hid ((B2.out.trans (b3.mono B2.out.size)).trans (bx3.mono (Nat.le_trans B2.out.size b3.size)))
    have V3 := Lib.hid ((V2.out.keep b3).keep bx3)
    have X3 := Lib.hid (Var3.made w3 x)
    have C3 := Lib.hid (HC.out.below B3.out)
    clear b3 bx3
    go_wp2_with fail
    refine (draw_prow a len cap zs _ C3.out).mono ?_
    rintro e w4 ⟨s, rfl, hsz, b4⟩
    have B4 := Lib.hid (B3.out.trans (b4.mono B3.out.size))
    have V4 := Lib.hid (V3.out.keep b4)
    have X4 := Lib.hid (X3.out.keep b4)
    have L4 := Lib.hid (laid_stay HL.out B4.out)
    have M4 := Lib.hid (HM.out.stay B4.out)
    clear b4
    have PS := Lib.hid (iprow s (by omega))
    have SP := Lib.hid (sprow s (by omega))
    unfold RowAns at PS SP
    obtain ⟨y, hy⟩ : ∃ x, x = (parseRow s.data.toList).getD R.zero := ⟨_, rfl⟩
    obtain ⟨q, hq⟩ : ∃ p, p = (parseRow s.data.toList).isSome := ⟨_, rfl⟩
    rw [← hy, ← hq] at PS SP
    have HY := Lib.hid hy
    have HQ := Lib.hid hq
    clear hy hq
    go_wp2_with fail
    refine (PS.out _ M4.out L4.out).mono ?_
    rintro e w5 ⟨rfl, b5⟩
    have bx5 : Below w5.heap.size w5 (w5.alloc (.cells #[.int .i64 y.key, .int .i64 y.value, .int .i64 y.width] 25)) := (Below.refl _ _).alloc (Nat.le_refl _) _
    have B5 := Lib.hid ((B4.out.trans (b5.mono B4.out.size)).trans (bx5.mono (Nat.le_trans B4.out.size b5.size)))
    have V5 := Lib.hid ((V4.out.keep b5).keep bx5)
    have X5 := Lib.hid ((X4.out.keep b5).keep bx5)
    have Y5 := Lib.hid (Var3.made w5 y)
    clear b5 bx5
    go_wp2_with fail
    refine (SP.out _).mono ?_
    rintro e w6 ⟨rfl, b6⟩
    have bx6 : Below w6.heap.size w6 (w6.alloc (.cells #[.int .i64 y.key, .int .i64 y.value, .int .i64 y.width] 25)) := (Below.refl _ _).alloc (Nat.le_refl _) _
    have ST : Hid (St w w1.heap.size w3.heap.size w5.heap.size r x y (w6.alloc (.cells #[.int .i64 y.key, .int .i64 y.value, .int .i64 y.width] 25))) :=
      ⟨(V5.out.keep b6).keep bx6, (X5.out.keep b6).keep bx6, (Y5.out.keep b6).keep bx6, (B5.out.trans (b6.mono B5.out.size)).trans (bx6.mono (Nat.le_trans B5.out.size b6.size))⟩
    clear b6 bx6
    go_wp2_with fail
    obtain ⟨W, hW⟩ : ∃ W, W = w6.alloc (.cells #[.int .i64 y.key, .int .i64 y.value, .int .i64 y.width] 25) := ⟨_, rfl⟩
    rw [← hW] at ST ⊢
    clear hW
    go_cut [83] from 41 to 83 (fun s83 wx => s83 = .bool false ∧ Hid (Below w.heap.size w wx))
    case first =>
      cases hok : r.ok with
      | false =>
        have hp0 : p = false := by rw [HP.out, hok]; rfl
        subst hp0
        have CA := Lib.hid fun v (hv : St w w1.heap.size w3.heap.size w5.heap.size r x y v) => St.step hv (svalid r v)
        have CB := Lib.hid fun v (hv : St w w1.heap.size w3.heap.size w5.heap.size r x y v) => St.step hv (ivalid r v)
        have CF := Lib.hid fun v (hv : St w w1.heap.size w3.heap.size w5.heap.size r x y v) => St.step hv (ifrow y v (HL.out.1.stay hv.old))
        have CD := Lib.hid fun v (hv : St w w1.heap.size w3.heap.size w5.heap.size r x y v) => St.step hv (icost r HRW.out v)
        unfold R.val at CA CB CF CD
        rw [hok] at CA CB
        clear hok HX
        cases q with
        | false =>
          go_wp2_with fail
          refine region_class (St w w1.heap.size w3.heap.size w5.heap.size r x y) (by kernel_rfl) (by kernel_rfl) ST.out.drew ?_
          repeat (first | go_big_quiet_skip | (go_big_quiet_want; go_big_quiet_op; first | go_big_quiet_on | (apply Exists.intro; refine ⟨fun v hv => ?_, ?_⟩; (focus (first | exact rfl | ((first | (go_at_call 14; exact CA.out v hv) | (go_at_call 15; exact CB.out v hv) | (go_at_call 11; exact CF.out v hv) | (go_at_call 16; exact CD.out v hv)); done) | ((obtain ⟨c0, c1, c2, d0, d1, d2, e0, e1, e2, _⟩ := St.facts hv); go_simp; done) | ((obtain ⟨c0, c1, c2, d0, d1, d2, e0, e1, e2, _⟩ := St.facts hv); go_simp; exact rfl) | ((obtain ⟨c0, c1, c2, d0, d1, d2, e0, e1, e2, _⟩ := St.facts hv); go_simp; exact ⟨rfl, rfl⟩))); go_big_quiet_on)))
          refine wpQuiet_nil ?_
          intro v hv
          go_wp2_with fail
          go_meet
          case rel => exact ⟨rfl, hv.old⟩
        | true =>
          have hfs : (⟨y.fmt.toArray⟩ : ByteArray) = s := by
            cases hps : parseRow s.data.toList with
            | none => exact absurd HQ.out (by rw [hps]; simp)
            | some y' =>
              have hy := HY.out
              rw [hps] at hy
              have hy' : y = y' := hy
              rw [hy', (parseRow_inv hps).2]
          rw [hfs] at CF
          clear hfs
          go_wp2_with fail
          refine region_class (St w w1.heap.size w3.heap.size w5.heap.size r x y) (by kernel_rfl) (by kernel_rfl) ST.out.drew ?_
          repeat (first | go_big_quiet_skip | (go_big_quiet_want; go_big_quiet_op; first | go_big_quiet_on | (apply Exists.intro; refine ⟨fun v hv => ?_, ?_⟩; (focus (first | exact rfl | ((first | (go_at_call 14; exact CA.out v hv) | (go_at_call 15; exact CB.out v hv) | (go_at_call 11; exact CF.out v hv) | (go_at_call 16; exact CD.out v hv)); done) | ((obtain ⟨c0, c1, c2, d0, d1, d2, e0, e1, e2, _⟩ := St.facts hv); go_simp; done) | ((obtain ⟨c0, c1, c2, d0, d1, d2, e0, e1, e2, _⟩ := St.facts hv); go_simp; exact rfl) | ((obtain ⟨c0, c1, c2, d0, d1, d2, e0, e1, e2, _⟩ := St.facts hv); go_simp; exact ⟨rfl, rfl⟩))); go_big_quiet_on)))
          refine wpQuiet_nil ?_
          intro v hv
          go_wp2_with fail
          go_meet
          case rel => exact ⟨rfl, hv.old⟩
      | true =>
        have hp0 : p = true := by rw [HP.out, hok]; rfl
        subst hp0
        have hxr : x = r := by rw [HX.out, hok]; rfl
        rw [hxr] at ST
        have hcost : r.cost = 1 + r.width := by unfold R.cost; rw [hok]; rfl
        obtain ⟨-, -, -, -, hw0, hw3⟩ := R.ok_iff.1 hok
        have CA := Lib.hid fun v (hv : St w w1.heap.size w3.heap.size w5.heap.size r r y v) => St.step hv (svalid r v)
        have CB := Lib.hid fun v (hv : St w w1.heap.size w3.heap.size w5.heap.size r r y v) => St.step hv (ivalid r v)
        have CF := Lib.hid fun v (hv : St w w1.heap.size w3.heap.size w5.heap.size r r y v) => St.step hv (ifrow y v (HL.out.1.stay hv.old))
        have CD := Lib.hid fun v (hv : St w w1.heap.size w3.heap.size w5.heap.size r r y v) => St.step hv (icost r HRW.out v)
        unfold R.val at CA CB CF CD
        rw [hok] at CA CB
        rw [hcost] at CD
        clear hok HX hxr hcost
        cases q with
        | false =>
          go_wp2_with fail
          refine region_class (St w w1.heap.size w3.heap.size w5.heap.size r r y) (by kernel_rfl) (by kernel_rfl) ST.out.drew ?_
          repeat (first | go_big_quiet_skip | (go_big_quiet_want; go_big_quiet_op; first | go_big_quiet_on | (apply Exists.intro; refine ⟨fun v hv => ?_, ?_⟩; (focus (first | exact rfl | ((first | (go_at_call 14; exact CA.out v hv) | (go_at_call 15; exact CB.out v hv) | (go_at_call 11; exact CF.out v hv) | (go_at_call 16; exact CD.out v hv)); done) | ((obtain ⟨c0, c1, c2, d0, d1, d2, e0, e1, e2, _⟩ := St.facts hv); go_simp; done) | ((obtain ⟨c0, c1, c2, d0, d1, d2, e0, e1, e2, _⟩ := St.facts hv); go_simp; exact rfl) | ((obtain ⟨c0, c1, c2, d0, d1, d2, e0, e1, e2, _⟩ := St.facts hv); go_simp; exact ⟨rfl, rfl⟩))); go_big_quiet_on)))
          refine wpQuiet_nil ?_
          intro v hv
          go_wp2_with fail
          go_meet
          case rel => exact ⟨rfl, hv.old⟩
        | true =>
          have hfs : (⟨y.fmt.toArray⟩ : ByteArray) = s := by
            cases hps : parseRow s.data.toList with
            | none => exact absurd HQ.out (by rw [hps]; simp)
            | some y' =>
              have hy := HY.out
              rw [hps] at hy
              have hy' : y = y' := hy
              rw [hy', (parseRow_inv hps).2]
          rw [hfs] at CF
          clear hfs
          go_wp2_with fail
          refine region_class (St w w1.heap.size w3.heap.size w5.heap.size r r y) (by kernel_rfl) (by kernel_rfl) ST.out.drew ?_
          repeat (first | go_big_quiet_skip | (go_big_quiet_want; go_big_quiet_op; first | go_big_quiet_on | (apply Exists.intro; refine ⟨fun v hv => ?_, ?_⟩; (focus (first | exact rfl | ((first | (go_at_call 14; exact CA.out v hv) | (go_at_call 15; exact CB.out v hv) | (go_at_call 11; exact CF.out v hv) | (go_at_call 16; exact CD.out v hv)); done) | ((obtain ⟨c0, c1, c2, d0, d1, d2, e0, e1, e2, _⟩ := St.facts hv); go_simp; done) | ((obtain ⟨c0, c1, c2, d0, d1, d2, e0, e1, e2, _⟩ := St.facts hv); go_simp; exact rfl) | ((obtain ⟨c0, c1, c2, d0, d1, d2, e0, e1, e2, _⟩ := St.facts hv); go_simp; exact ⟨rfl, rfl⟩))); go_big_quiet_on)))
          refine wpQuiet_nil ?_
          intro v hv
          go_wp2_with fail
          go_meet
          case rel => exact ⟨rfl, hv.old⟩
    case rest =>
      obtain ⟨rfl, hB⟩ := hcut
      have C7 := Lib.hid (HC.out.below hB.out)
      go_wp2_with fail
      refine (draw_rows a len cap zs _ C7.out).mono ?_
      rintro e v1 ⟨x1, n1, m1, L, rfl, hn1, hwf, hr1, b7⟩
      have B7 := Lib.hid (hB.out.trans (b7.mono hB.out.size))
      have R7 := Lib.hid hr1
      clear b7 hr1 hwf
      go_wp2_with fail
      refine (ifrows x1 n1 m1 L _ R7.out (by omega) (HL.out.1.stay B7.out)).mono ?_
      rintro e v2 ⟨rfl, b8⟩
      have B8 := Lib.hid (B7.out.trans (b8.mono B7.out.size))
      have R8 := Lib.hid (R7.out.keep b8)
      clear b8
      have IP := Lib.hid (iprows ⟨(fmtRows L).toArray⟩ (by have := fmtRows_length L; show (fmtRows L).toArray.size ≤ _; rw [List.size_toArray]; omega))
      unfold RowsOwn at IP
      rw [str_data] at IP
      have hone : (parseRows (fmtRows L)).isSome = true := by
        cases hok : okRows L with
        | true => rw [parseRows_fmt L hok]; rfl
        | false =>
          have : fmtRows L = [] := by unfold fmtRows; rw [hok]; rfl
          rw [this]; rfl
      have HAL : Hid (okRows L = true → (parseRows (fmtRows L)).getD [] = L) := fun hok => by rw [parseRows_fmt L hok]; rfl
      rw [hone] at IP
      obtain ⟨Ax, hax⟩ : ∃ X, X = (parseRows (fmtRows L)).getD [] := ⟨_, rfl⟩
      rw [← hax] at IP HAL
      clear hone hax
      go_wp2_with fail
      refine (IP.out _ (HM.out.stay B8.out) (laid_stay HL.out B8.out)).mono ?_
      rintro e v3 ⟨⟨a1, l1, c1, rfl, hl1, ho1⟩, b9⟩
      have B9 := Lib.hid (B8.out.trans (b9.mono B8.out.size))
      have R9 := Lib.hid (R8.out.keep b9)
      have O9 := Lib.hid ho1
      have C9 := Lib.hid (HC.out.below B9.out)
      clear b9 ho1
      go_wp2_with fail
      refine (draw_prows a len cap zs _ C9.out).mono ?_
      rintro e v4 ⟨t, rfl, htz, b10⟩
      have B10 := Lib.hid (B9.out.trans (b10.mono B9.out.size))
      have R10 := Lib.hid (R9.out.keep b10)
      have O10 := Lib.hid (O9.out.keep b10)
      clear b10
      have IT := Lib.hid (iprows t (by omega))
      have ST2 := Lib.hid (sprows t (by omega))
      unfold RowsOwn at IT
      unfold RowsAns at ST2
      have HBW : Hid (∀ r ∈ (parseRows t.data.toList).getD [], r.wf) := by
        show ∀ r ∈ (parseRows t.data.toList).getD [], r.wf
        cases hpt : parseRows t.data.toList with
        | none => intro r hr; cases hr
        | some M => exact parseRows_wf hpt
      obtain ⟨Bx, hbx⟩ : ∃ X, X = (parseRows t.data.toList).getD [] := ⟨_, rfl⟩
      obtain ⟨two, htw⟩ : ∃ X, X = (parseRows t.data.toList).isSome := ⟨_, rfl⟩
      rw [← hbx, ← htw] at IT ST2
      rw [← hbx] at HBW
      have HBX := Lib.hid hbx
      have HTW := Lib.hid htw
      clear hbx htw
      go_wp2_with fail
      refine (IT.out _ (HM.out.stay B10.out) (laid_stay HL.out B10.out)).mono ?_
      rintro e v5 ⟨⟨a2, l2, c2, rfl, hl2, ho2⟩, b11⟩
      have B11 := Lib.hid (B10.out.trans (b11.mono B10.out.size))
      have R11 := Lib.hid (R10.out.keep b11)
      have O11 := Lib.hid (O10.out.keep b11)
      have N11 := Lib.hid ho2
      clear b11 ho2
      go_wp2_with fail
      refine (ST2.out _).mono ?_
      rintro e v6 ⟨⟨a3, l3, c3, rfl, hl3, hr3⟩, b12⟩
      have B12 := Lib.hid (B11.out.trans (b12.mono B11.out.size))
      have R12 := Lib.hid (R11.out.keep b12)
      have O12 := Lib.hid (O11.out.keep b12)
      have N12 := Lib.hid (N11.out.keep b12)
      clear b12 hr3
      go_wp2_with fail
      refine (sare x1 n1 m1 L _ R12.out (by omega)).mono ?_
      rintro e v7 ⟨rfl, b13⟩
      have B13 := Lib.hid (B12.out.trans (b13.mono B12.out.size))
      have R13 := Lib.hid (R12.out.keep b13)
      have O13 := Lib.hid (O12.out.keep b13)
      have N13 := Lib.hid (N12.out.keep b13)
      clear b13
      cases hok : okRows L with
      | false =>
        have BY := Lib.hid B13.out
        have RY := Lib.hid R13.out
        have OY := Lib.hid N13.out
        clear hok
        cases two with
        | false =>
          have BZ := Lib.hid BY.out
          have RZ := Lib.hid RY.out
          go_wp2_with fail
          refine (iare x1 n1 m1 L _ RZ.out (by omega)).mono ?_
          rintro e y1 ⟨rfl, b20⟩
          have B20 := Lib.hid (BZ.out.trans (b20.mono BZ.out.size))
          have R20 := Lib.hid (RZ.out.keep b20)
          clear b20
          go_wp2_with fail
          refine (sare x1 n1 m1 L _ R20.out (by omega)).mono ?_
          rintro e y2 ⟨rfl, b21⟩
          have B21 := Lib.hid (B20.out.trans (b21.mono B20.out.size))
          have R21 := Lib.hid (R20.out.keep b21)
          clear b21
          go_wp2_with fail
          refine (itotal x1 n1 m1 L _ R21.out (by omega)).mono ?_
          rintro e y3 ⟨rfl, b22⟩
          have B22 := Lib.hid (B21.out.trans (b22.mono B21.out.size))
          have R22 := Lib.hid (R21.out.keep b22)
          clear b22
          go_wp2_with fail
          refine (stotal x1 n1 m1 L _ R22.out (by omega)).mono ?_
          rintro e y4 ⟨rfl, b23⟩
          have B23 := Lib.hid (B22.out.trans (b23.mono B22.out.size))
          clear b23
          go_wp2_with fail
          go_ret
          exact ⟨rfl, B23.out⟩
        | true =>
          have hft : (⟨(fmtRows Bx).toArray⟩ : ByteArray) = t := by
            cases hpt : parseRows t.data.toList with
            | none => exact absurd HTW.out (by rw [hpt]; simp)
            | some M =>
              have hb := HBX.out
              rw [hpt] at hb
              have hb' : Bx = M := hb
              rw [hb', (parseRows_inv hpt).2]
          have HF := Lib.hid (ifrows a2 l2 c2 Bx _ (OY.out.rows HBW.out) (by omega) (HL.out.1.stay BY.out))
          rw [hft] at HF
          clear hft
          go_wp2_with fail
          refine HF.out.mono ?_
          rintro e z1 ⟨rfl, b19⟩
          have BZ := Lib.hid (BY.out.trans (b19.mono BY.out.size))
          have RZ := Lib.hid (RY.out.keep b19)
          clear b19
          go_wp2_with fail
          refine (iare x1 n1 m1 L _ RZ.out (by omega)).mono ?_
          rintro e y1 ⟨rfl, b20⟩
          have B20 := Lib.hid (BZ.out.trans (b20.mono BZ.out.size))
          have R20 := Lib.hid (RZ.out.keep b20)
          clear b20
          go_wp2_with fail
          refine (sare x1 n1 m1 L _ R20.out (by omega)).mono ?_
          rintro e y2 ⟨rfl, b21⟩
          have B21 := Lib.hid (B20.out.trans (b21.mono B20.out.size))
          have R21 := Lib.hid (R20.out.keep b21)
          clear b21
          go_wp2_with fail
          refine (itotal x1 n1 m1 L _ R21.out (by omega)).mono ?_
          rintro e y3 ⟨rfl, b22⟩
          have B22 := Lib.hid (B21.out.trans (b22.mono B21.out.size))
          have R22 := Lib.hid (R21.out.keep b22)
          clear b22
          go_wp2_with fail
          refine (stotal x1 n1 m1 L _ R22.out (by omega)).mono ?_
          rintro e y4 ⟨rfl, b23⟩
          have B23 := Lib.hid (B22.out.trans (b23.mono B22.out.size))
          clear b23
          go_wp2_with fail
          go_ret
          exact ⟨rfl, B23.out⟩
      | true =>
        have hal := HAL.out hok
        rw [hal] at O13
        clear hok hal
        go_wp2_with fail
        refine (samerows a1 x1 l1 c1 n1 m1 L _ (O13.out.rows R13.out.2.1) R13.out (by omega)).mono ?_
        rintro e v8 ⟨rfl, b14⟩
        have BY := Lib.hid (B13.out.trans (b14.mono B13.out.size))
        have RY := Lib.hid (R13.out.keep b14)
        have OY := Lib.hid (N13.out.keep b14)
        clear b14
        cases two with
        | false =>
          have BZ := Lib.hid BY.out
          have RZ := Lib.hid RY.out
          go_wp2_with fail
          refine (iare x1 n1 m1 L _ RZ.out (by omega)).mono ?_
          rintro e y1 ⟨rfl, b20⟩
          have B20 := Lib.hid (BZ.out.trans (b20.mono BZ.out.size))
          have R20 := Lib.hid (RZ.out.keep b20)
          clear b20
          go_wp2_with fail
          refine (sare x1 n1 m1 L _ R20.out (by omega)).mono ?_
          rintro e y2 ⟨rfl, b21⟩
          have B21 := Lib.hid (B20.out.trans (b21.mono B20.out.size))
          have R21 := Lib.hid (R20.out.keep b21)
          clear b21
          go_wp2_with fail
          refine (itotal x1 n1 m1 L _ R21.out (by omega)).mono ?_
          rintro e y3 ⟨rfl, b22⟩
          have B22 := Lib.hid (B21.out.trans (b22.mono B21.out.size))
          have R22 := Lib.hid (R21.out.keep b22)
          clear b22
          go_wp2_with fail
          refine (stotal x1 n1 m1 L _ R22.out (by omega)).mono ?_
          rintro e y4 ⟨rfl, b23⟩
          have B23 := Lib.hid (B22.out.trans (b23.mono B22.out.size))
          clear b23
          go_wp2_with fail
          go_ret
          exact ⟨rfl, B23.out⟩
        | true =>
          have hft : (⟨(fmtRows Bx).toArray⟩ : ByteArray) = t := by
            cases hpt : parseRows t.data.toList with
            | none => exact absurd HTW.out (by rw [hpt]; simp)
            | some M =>
              have hb := HBX.out
              rw [hpt] at hb
              have hb' : Bx = M := hb
              rw [hb', (parseRows_inv hpt).2]
          have HF := Lib.hid (ifrows a2 l2 c2 Bx _ (OY.out.rows HBW.out) (by omega) (HL.out.1.stay BY.out))
          rw [hft] at HF
          clear hft
          go_wp2_with fail
          refine HF.out.mono ?_
          rintro e z1 ⟨rfl, b19⟩
          have BZ := Lib.hid (BY.out.trans (b19.mono BY.out.size))
          have RZ := Lib.hid (RY.out.keep b19)
          clear b19
          go_wp2_with fail
          refine (iare x1 n1 m1 L _ RZ.out (by omega)).mono ?_
          rintro e y1 ⟨rfl, b20⟩
          have B20 := Lib.hid (BZ.out.trans (b20.mono BZ.out.size))
          have R20 := Lib.hid (RZ.out.keep b20)
          clear b20
          go_wp2_with fail
          refine (sare x1 n1 m1 L _ R20.out (by omega)).mono ?_
          rintro e y2 ⟨rfl, b21⟩
          have B21 := Lib.hid (B20.out.trans (b21.mono B20.out.size))
          have R21 := Lib.hid (R20.out.keep b21)
          clear b21
          go_wp2_with fail
          refine (itotal x1 n1 m1 L _ R21.out (by omega)).mono ?_
          rintro e y3 ⟨rfl, b22⟩
          have B22 := Lib.hid (B21.out.trans (b22.mono B21.out.size))
          have R22 := Lib.hid (R21.out.keep b22)
          clear b22
          go_wp2_with fail
          refine (stotal x1 n1 m1 L _ R22.out (by omega)).mono ?_
          rintro e y4 ⟨rfl, b23⟩
          have B23 := Lib.hid (B22.out.trans (b23.mono B22.out.size))
          clear b23
          go_wp2_with fail
          go_ret
          exact ⟨rfl, B23.out⟩
  · clear hr hL hM
    have hb : 1048576 < len := by omega
    go_enter Tryd.func3, Tryd.ntmps3
    go_wp2_with fail
    refine (big_yes a len cap _ hb).mono ?_
    rintro e w0 ⟨rfl, rfl⟩
    go_wp2_with fail
    go_ret
    exact ⟨rfl, Below.refl _ _⟩

/-! ### The row's step -/
theorem own : ownKnob Tryd.prog.godebug = none := by kernel_rfl
theorem laidOut : laidOutB Tryd.prog = true := by kernel_rfl
set_option maxRecDepth 100000 in
theorem door_met (os : Os) (args : Array Value) : laidMetH Tryd.prog Rows.fnRowFormatRow.laid ((World.laidAll Tryd.prog os Rows.fnRowFormatRow.laid).forCall (fun _ _ => 0) ⟨#[], args, []⟩).memory := by
  rw [MakeChecks.laidMetH_plain _ _ _ (by kernel_rfl)]
  exact laidMet_laidAll args (by kernel_rfl) (by kernel_rfl)
set_option maxRecDepth 100000 in
theorem lifted (os : Os) (started : os.Started) (H : Type) (enc : TypeId × Value → H) :
    ReturnsInHanded {} Tryd.checked os 3 .any (fun w args => (Rows.fnRowFormatSpec.pre enc Tryd.prog Tryd.f3 [] false w args ∧ laidMetH Tryd.prog Rows.fnRowFormatRow.laid w) ∧ sizedMet enc Tryd.prog Tryd.f3 (OpenSpec.ofChange Rows.fnRowFormatSpec) false w args)
      (Rows.fnRowFormatSpec.post enc Tryd.prog Tryd.f3 false true false false) := by
  refine wrap_listed (C := Tryd.checked) (X := fun w _ => laidMetH Tryd.prog Rows.fnRowFormatRow.laid w) (fun _ _ _ hh h => h.of_heap hh) own started (by kernel_rfl) Tryd.func3
    (ChangeSpec.witness_shaped (enc := enc) (C := Tryd.checked) (os := os) (X := fun w _ => laidMetH Tryd.prog Rows.fnRowFormatRow.laid w) false (World.laidAll Tryd.prog os Rows.fnRowFormatRow.laid) #[.slice none 0 0] 8 (World.laidAll_os _ _ _) (World.shaped_of_ZipB (by kernel_rfl) (by kernel_rfl)) (by kernel_rfl) (by kernel_rfl) (by kernel_rfl) (door_met os _)) ?_
  intro W base args ds gs before hval0 hW hL hS
  have hval : ∀ (j : Nat) t v, Tryd.f3.params[j]? = some t → args[j]? = some v → Value.okWide Tryd.prog W .any base t v := hval0
  have hW' := hW
  obtain ⟨p, q, hA0, hV, rfl, hfz, hnd⟩ := hW
  have hA : DataW.TrodAll enc Tryd.prog W 0 (fun _ => true) true Tryd.f3.params.toList args.toList ds p := hA0
  rw [Tryd.params3] at hA hval
  obtain ⟨v0, vs0, d0, ds0, p0, q0, hargs, rfl, rfl, h0, r0⟩ := trodAll_cons hA
  obtain ⟨rfl, rfl, rfl⟩ := trodAll_nil r0
  obtain rfl : args = #[v0] := by cases args; simp_all
  obtain ⟨rfl, rfl⟩ := trodVars_none hV
  obtain ⟨a0, len0, cap0, rfl⟩ := okWide_slice Tryd.underlying22 (hval 0 22 v0 rfl rfl)
  have k0 := h0
  have lt0 : ∀ x ∈ p0, x.block < W.heap.size := by obtain ⟨m, hm⟩ := k0; exact DataW.trod_lt m _ _ _ hm
  obtain ⟨z0, w0⟩ : ∃ zs, IsRow .u8 W a0 len0 cap0 zs := by
    obtain ⟨fuel, hf⟩ := h0
    rcases open_ints Tryd.underlying22 Tryd.underlying5 (by kernel_rfl) hf with ⟨hcs, _⟩ | ⟨x, l, c, zs, hcs, _, hl, hm, hz, _, hcell, hwz⟩
    · simp [Value.cells] at hcs
      obtain ⟨rfl, rfl, rfl⟩ := hcs
      exact ⟨[], .inl ⟨rfl, rfl, rfl, rfl⟩⟩
    · simp [Value.cells] at hcs
      obtain ⟨rfl, rfl, rfl⟩ := hcs
      exact ⟨zs, .inr ⟨_, rfl, hl, hm, by simpa using hz, hcell, hwz⟩⟩
  clear hA0 hval0
  refine (walk a0 len0 cap0 z0 W w0 (of_laid hL) (mx_of hS)).mono fun e W' ⟨he, bel⟩ => ?_
  subst he
  exact ⟨_, rfl, _, _, _, [], _, [], hW', trodAll_mk1 (shut_bool Tryd.underlying4 _), (trodAll_cons_mk (Below.trod laidOut (by kernel_rfl) (of_decide_eq_true (by kernel_rfl)) k0 bel lt0) trodAll_mk0), rfl, bel.frame _, fun h => by cases h⟩
theorem over : Rows.fnRowFormatRow.holds Tryd.pinned (OpenSpec.ofChange Rows.fnRowFormatSpec) :=
  OpenClaim.holds_of_wide 3 Tryd.f3 rfl rfl rfl rfl rfl rfl rfl ⟨rfl, rfl, rfl, rfl, rfl⟩ rfl rfl rfl rfl rfl (by kernel_rfl) Tryd.func3 (by kernel_rfl)
    (of_decide_eq_true (by kernel_rfl)) (by unfold Func.isWrapper; first | (rw [if_pos (by decide +kernel)]; kernel_rfl) | (rw [if_neg (by decide +kernel)]; exact ⟨rfl, rfl⟩))
    (fun os started H enc _ => lifted os started H enc)
/-- The statement: the tied card. -/
theorem proved : Rows.FnRowFormatCardSaid :=
  Claim7.holds_tied_plain_at .later [] _ _ _ _ over (fun _ h => by cases h) (by kernel_rfl) (fun _ h => by cases h) fnRowFormat_row_tie rfl ⟨rfl, rfl⟩ (by kernel_rfl) rfl
    (fun f fn hf hfn => by
      obtain rfl : f = 3 := Option.some.inj ((show Tryd.prog.funcNamed "loop.example/g01920/laws.FnRowFormat" = some 3 by kernel_rfl).symm.trans hf) |>.symm
      obtain rfl : fn = Tryd.f3 := (Option.some.inj (Tryd.func3.symm.trans hfn)).symm
      exact ⟨by kernel_rfl, fun j t ht => by
        rw [Tryd.params3] at ht
        have hm : t ∈ [22] := by simpa using Array.mem_of_getElem? ht
        have hall : ([22].all fun u => !Tryd.prog.wantsStandIn u) = true := by kernel_rfl
        exact (show Tryd.prog.wantsStandIn t = false by simpa using List.all_eq_true.1 hall t hm)⟩)
    (by kernel_rfl)
#print axioms proved
end Go.Proofs.YtpgckggmcehmpaaDoor.FnRowFormat
