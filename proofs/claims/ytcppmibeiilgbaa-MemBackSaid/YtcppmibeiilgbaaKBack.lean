/- MemBack: its second loop: the pointers. -/
import Derived.Test.YtcppmibeiilgbaaKB3
import Derived.Test.YtcppmibeiilgbaaKWeigh
namespace Go.Proofs.Ytcppmibeiilgbaa
open Go.ChangeShapes Go.WideShapes Go.ChangeAt Go.RowKit Go.Joins Go.Deep
set_option linter.unusedVariables false

def FrL (t : Array Value) (v1 v3 v4 : Value) : Prop := t.size = 335 ∧ sl t 1 = v1 ∧ sl t 3 = v3 ∧ sl t 4 = v4
def RelB2 (B i gp np capp : Nat) (w0 : World) (nn : Nat) (a : Act) (wr : World) : Prop :=
  ∃ t j z, a = ⟨t, []⟩ ∧ FrL t (.pointer (some ⟨B, 0, none⟩)) (.int .i64 (i : Nat)) (.slice (some ⟨gp, 0, none⟩) np capp) ∧ sl t 5 = .int .i64 z ∧ z = (j : Nat) ∧ j + nn = np ∧ Below w0.heap.size w0 wr
set_option maxRecDepth 1000000 in
set_option maxHeartbeats 12800000 in
theorem bloop2 (B i gp np capp : Nat) (bm om lm cm mc l : Nat) (mq : Option Addr) (mm : List BK) (Lp : List SC) (w0 : World) (hi : i < lm) (hi5 : i < 5) (hnp : np ≤ 25) (hmay : mayM mm = true) (hD : BackM w0 B bm om lm cm i mq mc l mm gp np Lp)
    (t : Array Value) (hF : FrL t (.pointer (some ⟨B, 0, none⟩)) (.int .i64 (i : Nat)) (.slice (some ⟨gp, 0, none⟩) np capp)) (fc : sl t 5 = .int .i64 0) (Q : Exit → Act → World → Prop)
    (hQ : ∀ t w', FrL t (.pointer (some ⟨B, 0, none⟩)) (.int .i64 (i : Nat)) (.slice (some ⟨gp, 0, none⟩) np capp) → Below w0.heap.size w0 w' → Q (.exit 2) ⟨t, []⟩ w') :
    (Code.loop bBody2).wp Try.prog (NoPanic Q) ⟨t, []⟩ w0 := by
  refine wp_loop_ghost_k (RelB2 B i gp np capp w0) np ⟨t, 0, 0, rfl, hF, fc, rfl, by omega, Below.refl _ _⟩ ?_
  clear hF fc
  intro nn a wr hrel iK iJv hJ hK
  clear t
  obtain ⟨t, k, z, rfl, ⟨f0, f1, f3, f4⟩, fc, rfl, hjn, hbd⟩ := hrel
  rw [open_335 t f0]
  simp only [f1, f3, f4, fc]
  clear f0 f1 f3 f4 fc
  conv => arg 2; whnf
  by_cases hkp : k < np
  · have hk3 : (k : Int) < (np : Int) := by omega
    have hi3 : (i : Int) < (lm : Int) := by omega
    have cN := fun x w => num9_any x w
    have HDW := Lib.hid (hD.below hbd)
    have HBD := Lib.hid hbd
    clear hD hbd hQ
    obtain ⟨big, hbig⟩ : ∃ big : Bool, big = ((k : Int).tmod 2 == 0) := ⟨_, rfl⟩
    obtain ⟨pp, hpp⟩ : ∃ pp : Int, pp = 2 + 2 * ((i : Int).tmod 2) := ⟨_, rfl⟩
    have hpA : mayA pp := by
      have : i = 0 ∨ i = 1 ∨ i = 2 ∨ i = 3 ∨ i = 4 := by omega
      rw [hpp]
      unfold mayA
      rcases this with rfl | rfl | rfl | rfl | rfl <;> decide
    go_upto_region 11 with (fail)
    go_cut [6] from 62 to 69 (fun v6 wx => ∃ X, v6 = .pointer (some ⟨X, 0, none⟩) ∧ ∃ big pp, mayA pp ∧ At wx X #[.bool big, .int .i64 pp] 38 ∧ Below wr.heap.size wr wx)
    case first =>
      clear hJ hK
      have u1 : (k : Int) % 2 = ((k % 2 : Nat) : Int) := by omega
      have u2 : (i : Int) % 2 = ((i % 2 : Nat) : Int) := by omega
      have u3 : (k : Int).tmod 2 = ((k % 2 : Nat) : Int) := by rw [Int.tmod_eq_emod_of_nonneg (by omega)]; exact u1
      have u4 : (i : Int).tmod 2 = ((i % 2 : Nat) : Int) := by rw [Int.tmod_eq_emod_of_nonneg (by omega)]; exact u2
      have hu := Nat.mod_lt i (show 0 < 2 by omega)
      rw [u4] at hpp
      clear hbig
      generalize k % 2 = km at *
      generalize i % 2 = im at *
      have u5 : wrap64 (2 * (im : Int)) = 2 * im := by unfold wrap64; omega
      have u6 : wrap64 (2 + 2 * (im : Int)) = 2 + 2 * im := by unfold wrap64; omega
      have u7 : IntKind.i64.wrap (2 * (im : Int)) = 2 * im := by rw [IntKind.wrap_i64]; omega
      have u8 : IntKind.i64.wrap (2 + 2 * (im : Int)) = 2 + 2 * im := by rw [IntKind.wrap_i64]; omega
      rw [hpp] at hpA
      go_wp2_with fail
      go_meet
      case rel => exact ⟨wr.heap.size, rfl, _, _, hpA, At.new wr _ _, below_box1 wr _⟩
    case rest =>
      obtain ⟨AX, rfl, big2, pp2, hpA2, dA, hbw⟩ := hcut
      clear hpA hbig hpp
      have HD := Lib.hid (HDW.out.below hbw)
      replace HBD := Lib.hid (HBD.out.trans (hbw.mono HBD.out.size))
      clear HDW hbw
      go_wp2_with fail
      refine noPanic_mono (bloop3 B i gp np capp k AX big2 pp2 bm om lm cm mc l mq mm Lp _ hi hkp hpA2 hmay HD.out dA _ ⟨rfl, rfl, rfl, rfl, rfl, rfl⟩ rfl _ ?_)
      intro t2 wB hF hbB
      obtain ⟨f0, f1, f3, f4, f5, f6⟩ := hF
      rw [open_335 t2 f0]
      simp only [f1, f3, f4, f5, f6]
      clear f0 f1 f3 f4 f5 f6 dA
      obtain ⟨c0, c1, hM, hRow⟩ := HD.out.below hbB
      have hS := hRow.2 k hkp
      have HD2 := Lib.hid (HD.out.below hbB)
      replace HBD := Lib.hid (HBD.out.trans (hbB.mono HBD.out.size))
      clear HD hbB hRow
      generalize Lp.getD k default = pt at *
      have hmv := Move_all mq l mc mm pt 1
      obtain ⟨⟨q0, q1, q2, q3⟩, bad, ev, cM, hcase⟩ := hmv
      have hback : ev = 0 → bad = 0 → hasM mm pt = true ∧ hasM mm ⟨q0, q1, q2, q3⟩ = true ∧ moveS mm ⟨q0, q1, q2, q3⟩ 4294967295 = (pt, 0) ∧ (⟨q0, q1, q2, q3⟩ : SC).b = pt.b ∧ (⟨q0, q1, q2, q3⟩ : SC).o = pt.o + 1 := by
        intro h1 h2
        rcases hcase with ⟨hc, _, hm⟩ | ⟨_, h, _⟩
        · rw [h2] at hm
          exact ⟨hc.2, move_back hc.2 hm⟩
        · omega
      have hev : ev = 0 ∨ ev = 1 := by rcases hcase with ⟨_, h, _⟩ | ⟨_, h, _⟩; exact Or.inl h; exact Or.inr h
      unfold LoadPost scA at cM
      dsimp only at cM
      have HBK := Lib.hid hback
      have HPT := Lib.hid (show pt = pt from rfl)
      have cMB := fun (h : hasM mm ⟨q0, q1, q2, q3⟩ = true ∧ moveS mm ⟨q0, q1, q2, q3⟩ 4294967295 = (pt, 0)) => Move_all mq l mc mm ⟨q0, q1, q2, q3⟩ 4294967295
      have cAB := fun (h1 : hasM mm ⟨q0, q1, q2, q3⟩ = true) (h2 : hasM mm pt = true) => Apart_any mq l mc mm ⟨q0, q1, q2, q3⟩ pt (fun h => by have := InM.off h; omega) (fun h => by have := InM.off h; omega)
      have HCMB := Lib.hid cMB
      have HCAB := Lib.hid cAB
      clear hcase hback cMB cAB
      obtain ⟨p0, p1, p2, p3⟩ := pt
      simp only [scV_eq] at cM
      obtain ⟨s0, s1, s2, s3⟩ := hS
      dsimp only at s0 s1 s2 s3
      have HM := Lib.hid hM
      clear hM
      go_upto_region 37 with (fail)
      obtain ⟨wm, hwm⟩ : ∃ wm, wm = wB := ⟨_, rfl⟩
      rw [← hwm] at c0 c1 s0 s1 s2 s3 HM HD2 HBD ⊢
      clear hwm
      go_cut [19, 20, 21] from 259 to 272 (fun v19 v20 v21 wx => BoxOut ⟨q0, q1, q2, q3⟩ bad ev v19 v20 v21 wm wx)
      case first =>
        clear hJ hK
        have hbZ := (below_box1 wm (.cells #[.bool false, .int .i64 0, .int .i64 0, .int .i64 0] 33)).drew
        have zc0 := cell_below c0 hbZ
        have zc1 := cell_below c1 hbZ
        have zs0 := cell_below s0 hbZ
        have zs1 := cell_below s1 hbZ
        have zs2 := cell_below s2 hbZ
        have zs3 := cell_below s3 hbZ
        have hbY := (Below.refl wm.heap.size wm).drew
        have yc0 := cell_below c0 hbY
        have yc1 := cell_below c1 hbY
        have ys0 := cell_below s0 hbY
        have ys1 := cell_below s1 hbY
        have ys2 := cell_below s2 hbY
        have ys3 := cell_below s3 hbY
        clear hbZ hbY
        go_region_with (first
          | (go_at_call 33; (with_reducible refine (cM _ (HM.out.below ((Below.refl wm.heap.size wm).drew))).mono ?_); rintro e wL ⟨rfl, hbL⟩)
          | (go_at_call 33; (with_reducible refine (cM _ (HM.out.below ((below_box1 wm (.cells #[.bool false, .int .i64 0, .int .i64 0, .int .i64 0] 33)).drew))).mono ?_); rintro e wL ⟨rfl, hbL⟩
             have dZ : At wL wm.heap.size #[.bool false, .int .i64 0, .int .i64 0, .int .i64 0] 33 := At.below' hbL ((At.new wm #[.bool false, .int .i64 0, .int .i64 0, .int .i64 0] 33).drew)
             have st := store4 dZ (.bool q0) (.int .i64 q1) (.int .i64 q2) (.int .i64 q3)
             have E1 := store4_at dZ (.bool q0) (.int .i64 q1) (.int .i64 q2) (.int .i64 q3)))
        all_goals
          first
            | (have hbB : Below wm.heap.size wm wL := (((Below.refl wm.heap.size wm).drew).trans hbL)
               go_wp2
               go_meet
               case rel => exact ⟨wL.heap.size, rfl, rfl, rfl, hbB.size, At.new wL _ _, hbB.alloc hbB.size _⟩)
            | (have hbB : Below wm.heap.size wm wL := (((below_box1 wm (.cells #[.bool false, .int .i64 0, .int .i64 0, .int .i64 0] 33)).drew).trans (hbL.mono (by simp)))
               have E2 := store4_below hbB (Nat.le_refl wm.heap.size) (.bool q0) (.int .i64 q1) (.int .i64 q2) (.int .i64 q3)
               have HE1 := Lib.hid E1
               have HE3 := Lib.hid E2
               clear E1 E2 st dZ
               go_wp2
               go_meet
               case rel => exact ⟨wm.heap.size, rfl, rfl, rfl, Nat.le_refl _, HE1.out, HE3.out⟩)
      case rest =>
        obtain ⟨QX, rfl, rfl, rfl, _, dQ, hbR⟩ := hcut
        replace c0 := cell_below c0 hbR
        replace c1 := cell_below c1 hbR
        replace s0 := cell_below s0 hbR
        replace s1 := cell_below s1 hbR
        replace s2 := cell_below s2 hbR
        replace s3 := cell_below s3 hbR
        replace HM := Lib.hid (HM.out.below hbR)
        replace HBD := Lib.hid (HBD.out.trans (hbR.mono HBD.out.size))
        clear hbR cM HD2
        by_cases hok : ev = 0 ∧ bad = 0
        · obtain ⟨rfl, rfl⟩ := hok
          obtain ⟨hP, hQm, hmvb, hqb, hqo⟩ := HBK.out rfl rfl
          obtain ⟨R, bad2, ev2, cM2, hc2⟩ := HCMB.out ⟨hQm, hmvb⟩
          have cA := HCAB.out hQm hP
          rw [hQm, hP] at cA
          have hcan : CanV mm ⟨q0, q1, q2, q3⟩ 4294967295 := ⟨by simp only [isN, Int.reduceToNat, Int.reducePow]; omega, hQm⟩
          obtain ⟨rfl, rfl, rfl⟩ : R = ⟨p0, p1, p2, p3⟩ ∧ bad2 = 0 ∧ ev2 = 0 := by
            rcases hc2 with ⟨_, h2, h3⟩ | ⟨h1, _⟩
            · rw [hmvb] at h3
              exact ⟨(congrArg Prod.fst h3).symm, (congrArg Prod.snd h3).symm, h2⟩
            · exact absurd hcan h1
          dsimp only at hqb hqo
          have hqb2 := hqb.symm
          subst hqb2
          subst hqo
          have hw1 : wrapI (p3 + 1 - p3) 32 = 1 := by rw [show p3 + 1 - p3 = 1 by omega]; rfl
          unfold LoadPost scA at cM2
          unfold ApPost at cA
          simp only [scV_eq] at cM2 cA
          try dsimp only at cM2 cA
          rw [hw1] at cA
          simp only [Bool.and_self, beq_self_eq_true, bne_self_eq_false, Bool.and_false, if_true, Bool.false_eq_true, if_false] at cA
          have g0 := dQ.cell 0 rfl
          have g1 := dQ.cell 1 rfl
          have g2 := dQ.cell 2 rfl
          have g3 := dQ.cell 3 rfl
          clear hP hQm hmvb hc2 hcan HBK HCMB HCAB hev dQ hw1
          go_upto_region 39 with (go_at_call 27; (with_reducible refine (cN _ _).mono ?_); rintro e w' ⟨rfl, rfl⟩)
          obtain ⟨wn, hwn⟩ : ∃ wn, wn = wc := ⟨_, rfl⟩
          rw [← hwn] at c0 c1 s0 s1 s2 s3 g0 g1 g2 g3 HM HBD ⊢
          clear hwn
          go_cut [22, 23, 24] from 280 to 290 (fun v22 v23 v24 wx => BoxOut ⟨p0, p1, p2, p3⟩ 0 0 v22 v23 v24 wn wx)
          case first =>
            clear hJ hK
            have hbZ := (below_box1 wn (.cells #[.bool false, .int .i64 0, .int .i64 0, .int .i64 0] 33)).drew
            have zc0 := cell_below c0 hbZ
            have zc1 := cell_below c1 hbZ
            have zg0 := cell_below g0 hbZ
            have zg1 := cell_below g1 hbZ
            have zg2 := cell_below g2 hbZ
            have zg3 := cell_below g3 hbZ
            have hbY := (Below.refl wn.heap.size wn).drew
            have yc0 := cell_below c0 hbY
            have yc1 := cell_below c1 hbY
            have yg0 := cell_below g0 hbY
            have yg1 := cell_below g1 hbY
            have yg2 := cell_below g2 hbY
            have yg3 := cell_below g3 hbY
            clear hbZ hbY
            go_region_with (first
              | (go_at_call 33; (with_reducible refine (cM2 _ (HM.out.below ((Below.refl wn.heap.size wn).drew))).mono ?_); rintro e wL ⟨rfl, hbL⟩)
              | (go_at_call 33; (with_reducible refine (cM2 _ (HM.out.below ((below_box1 wn (.cells #[.bool false, .int .i64 0, .int .i64 0, .int .i64 0] 33)).drew))).mono ?_); rintro e wL ⟨rfl, hbL⟩
                 have dZ : At wL wn.heap.size #[.bool false, .int .i64 0, .int .i64 0, .int .i64 0] 33 := At.below' hbL ((At.new wn #[.bool false, .int .i64 0, .int .i64 0, .int .i64 0] 33).drew)
                 have st := store4 dZ (.bool p0) (.int .i64 p1) (.int .i64 p2) (.int .i64 p3)
                 have E1 := store4_at dZ (.bool p0) (.int .i64 p1) (.int .i64 p2) (.int .i64 p3)))
            all_goals
              first
                | (have hbB : Below wn.heap.size wn wL := (((Below.refl wn.heap.size wn).drew).trans hbL)
                   go_wp2
                   go_meet
                   case rel => exact ⟨wL.heap.size, rfl, rfl, rfl, hbB.size, At.new wL _ _, hbB.alloc hbB.size _⟩)
                | (have hbB : Below wn.heap.size wn wL := (((below_box1 wn (.cells #[.bool false, .int .i64 0, .int .i64 0, .int .i64 0] 33)).drew).trans (hbL.mono (by simp)))
                   have E2 := store4_below hbB (Nat.le_refl wn.heap.size) (.bool p0) (.int .i64 p1) (.int .i64 p2) (.int .i64 p3)
                   have HE1 := Lib.hid E1
                   have HE3 := Lib.hid E2
                   clear E1 E2 st dZ
                   go_wp2
                   go_meet
                   case rel => exact ⟨wn.heap.size, rfl, rfl, rfl, Nat.le_refl _, HE1.out, HE3.out⟩)
          case rest =>
            obtain ⟨RX, rfl, rfl, rfl, _, dR, hbR⟩ := hcut
            replace c0 := cell_below c0 hbR
            replace c1 := cell_below c1 hbR
            replace s0 := cell_below s0 hbR
            replace s1 := cell_below s1 hbR
            replace s2 := cell_below s2 hbR
            replace s3 := cell_below s3 hbR
            replace g0 := cell_below g0 hbR
            replace g1 := cell_below g1 hbR
            replace g2 := cell_below g2 hbR
            replace g3 := cell_below g3 hbR
            have r0 := dR.cell 0 rfl
            have r1 := dR.cell 1 rfl
            have r2 := dR.cell 2 rfl
            have r3 := dR.cell 3 rfl
            replace HM := Lib.hid (HM.out.below hbR)
            replace HBD := Lib.hid (HBD.out.trans (hbR.mono HBD.out.size))
            clear hbR cM2 dR
            obtain ⟨wo, hwo⟩ : ∃ wo, wo = wc := ⟨_, rfl⟩
            rw [← hwo] at c0 c1 s0 s1 s2 s3 g0 g1 g2 g3 r0 r1 r2 r3 HM HBD ⊢
            clear hwo
            go_upto_region 40 with (fail)
            go_cut [25, 26, 27] from 291 to 305 (fun v25 v26 v27 wx => v25 = .int .i64 1 ∧ v26 = .int .i64 0 ∧ v27 = .int .i64 0 ∧ Below wo.heap.size wo wx)
            case first =>
              clear hJ hK
              have c0q := fun p : BelowBy wo => p.cell c0
              have c1q := fun p : BelowBy wo => p.cell c1
              have s0q := fun p : BelowBy wo => p.cell s0
              have s1q := fun p : BelowBy wo => p.cell s1
              have s2q := fun p : BelowBy wo => p.cell s2
              have s3q := fun p : BelowBy wo => p.cell s3
              have g0q := fun p : BelowBy wo => p.cell g0
              have g1q := fun p : BelowBy wo => p.cell g1
              have g2q := fun p : BelowBy wo => p.cell g2
              have g3q := fun p : BelowBy wo => p.cell g3
              have cBq := fun p : BelowBy wo => cA p.world (HM.out.below p.below)
              go_wp2_with fail
              refine wp_region_quiet_below (by kernel_rfl) (by kernel_rfl) ?_
              repeat (go_big_quiet_step ((go_at_call 34; (with_reducible exact Calls.below_of (cBq _)))))
              refine wpQuiet_nil ?_
              intro w5 hw'
              have hbB : Below wo.heap.size wo w5 := by (obtain ⟨⟨_, h⟩, h2⟩ := hw'; rw [h2]; exact h)
              clear hw' cBq c0q c1q s0q s1q s2q s3q g0q g1q g2q g3q
              go_wp2
              go_meet
              case rel => exact ⟨rfl, rfl, rfl, hbB⟩
            case rest =>
              obtain ⟨rfl, rfl, rfl, hbR⟩ := hcut
              replace s0 := cell_below s0 hbR
              replace s1 := cell_below s1 hbR
              replace s2 := cell_below s2 hbR
              replace s3 := cell_below s3 hbR
              replace r0 := cell_below r0 hbR
              replace r1 := cell_below r1 hbR
              replace r2 := cell_below r2 hbR
              replace r3 := cell_below r3 hbR
              replace HBD := Lib.hid (HBD.out.trans (hbR.mono HBD.out.size))
              have hNE := fun w => neq_sc' p0 p1 p2 p3 p0 p1 p2 p3 w
              rw [eqS_refl] at hNE
              clear hbR cA HM c0 c1 g0 g1 g2 g3
              obtain ⟨wz, hwz⟩ : ∃ wz, wz = wc := ⟨_, rfl⟩
              rw [← hwz] at s0 s1 s2 s3 r0 r1 r2 r3 HBD ⊢
              clear hwz
              have s0q := fun p : BelowBy wz => p.cell s0
              have s1q := fun p : BelowBy wz => p.cell s1
              have s2q := fun p : BelowBy wz => p.cell s2
              have s3q := fun p : BelowBy wz => p.cell s3
              have r0q := fun p : BelowBy wz => p.cell r0
              have r1q := fun p : BelowBy wz => p.cell r1
              have r2q := fun p : BelowBy wz => p.cell r2
              have r3q := fun p : BelowBy wz => p.cell r3
              go_wp2_with fail
              refine wp_region_quiet_below (by kernel_rfl) (by kernel_rfl) ?_
              repeat (go_big_quiet_step ((go_at_call 27; (with_reducible exact Calls.below_same (cN _ _)))))
              refine wpQuiet_nil ?_
              intro w5 hw'
              have hbB : Below wz.heap.size wz w5 := by (obtain ⟨⟨_, h⟩, h2⟩ := hw'; rw [h2]; exact h)
              clear hw' s0q s1q s2q s3q r0q r1q r2q r3q
              clear s0 s1 s2 s3 r0 r1 r2 r3
              have b9 := HBD.out.trans (hbB.mono HBD.out.size)
              go_wp2_with fail
              refine Handed.intro (nn - 1) (by omega) (hJ _ _ _ ⟨_, k + 1, _, rfl, ⟨rfl, rfl, rfl, rfl⟩, rfl, (by go_num), by omega, b9⟩)
        · have hno : (ev == 0) = false ∨ ((ev == 0) = true ∧ (bad == 0) = false) := by
            by_cases h1 : ev = 0
            · exact Or.inr ⟨by simpa using h1, by simpa using (fun h => hok ⟨h1, h⟩)⟩
            · exact Or.inl (by simpa using h1)
          clear hok HBK HCMB HCAB hev c0 c1 s0 s1 s2 s3 HM dQ
          rcases hno with h1 | ⟨h1, h2⟩
          · go_wp2_with (go_at_call 27; (with_reducible refine (cN _ _).mono ?_); rintro e w' ⟨rfl, rfl⟩)
            refine Handed.intro (nn - 1) (by omega) (hJ _ _ _ ⟨_, k + 1, _, rfl, ⟨rfl, rfl, rfl, rfl⟩, rfl, (by go_num), by omega, HBD.out⟩)
          · go_wp2_with (go_at_call 27; (with_reducible refine (cN _ _).mono ?_); rintro e w' ⟨rfl, rfl⟩)
            refine Handed.intro (nn - 1) (by omega) (hJ _ _ _ ⟨_, k + 1, _, rfl, ⟨rfl, rfl, rfl, rfl⟩, rfl, (by go_num), by omega, HBD.out⟩)
  · have hk3 : decide ((k : Int) < (np : Int)) = false := by simp; omega
    clear hJ hD
    go_wp2_with fail
    exact hQ _ _ ⟨rfl, rfl, rfl, rfl⟩ hbd
end Go.Proofs.Ytcppmibeiilgbaa

/- MemBack: its first loop: each memory. -/
namespace Go.Proofs.Ytcppmibeiilgbaa
open Go.ChangeShapes Go.WideShapes Go.ChangeAt Go.RowKit Go.Joins Go.Deep
set_option linter.unusedVariables false

theorem keep5b {w w' : World} {p0 p1 p2 p3 p4 : Addr} {v0 v1 v2 v3 v4 : Value} (h : w.cell? p0 = some v0 ∧ w.cell? p1 = some v1 ∧ w.cell? p2 = some v2 ∧ w.cell? p3 = some v3 ∧ w.cell? p4 = some v4) (hb : Below w.heap.size w w') : w'.cell? p0 = some v0 ∧ w'.cell? p1 = some v1 ∧ w'.cell? p2 = some v2 ∧ w'.cell? p3 = some v3 ∧ w'.cell? p4 = some v4 :=
  ⟨cell_below h.1 hb, cell_below h.2.1 hb, cell_below h.2.2.1 hb, cell_below h.2.2.2.1 hb, cell_below h.2.2.2.2 hb⟩
def FrI (t : Array Value) (v1 : Value) : Prop := t.size = 335 ∧ sl t 1 = v1
def RelB1 (B : Nat) (w0 : World) (nn : Nat) (a : Act) (wr : World) : Prop :=
  ∃ t i z, a = ⟨t, []⟩ ∧ FrI t (.pointer (some ⟨B, 0, none⟩)) ∧ sl t 3 = .int .i64 z ∧ z = (i : Nat) ∧ i + nn = 5 ∧ Below w0.heap.size w0 wr
set_option maxRecDepth 1000000 in
set_option maxHeartbeats 6400000 in
theorem bloop1 (B : Nat) (pm ps pn pa : Option Addr) (lm cm ls cs ln cn la ca : Nat) (ms : List MM) (ss : List SC) (w0 : World) (hls : ls ≤ 700) (hln : ln ≤ 700) (hin : InMems w0 pm lm ms) (hle : ∀ i, i < lm → LeMem 700 (ms.getD i default)) (hss : InScs w0 ps ls cs ss) (dK : At w0 B #[.slice pm lm cm, .slice ps ls cs, .slice pn ln cn, .slice pa la ca] 51)
    (t : Array Value) (hF : FrI t (.pointer (some ⟨B, 0, none⟩))) (fc : sl t 3 = .int .i64 0) (Q : Exit → Act → World → Prop)
    (hQ : ∀ t w', FrI t (.pointer (some ⟨B, 0, none⟩)) → Below w0.heap.size w0 w' → Q (.exit 0) ⟨t, []⟩ w') :
    (Code.loop bBody1).wp Try.prog (NoPanic Q) ⟨t, []⟩ w0 := by
  refine wp_loop_ghost_k (RelB1 B w0) 5 ⟨t, 0, 0, rfl, hF, fc, rfl, by omega, Below.refl _ _⟩ ?_
  clear hF fc
  intro nn a wr hrel iK iJv hJ hK
  clear t
  obtain ⟨t, i, z, rfl, ⟨f0, f1⟩, fc, rfl, hin5, hbd⟩ := hrel
  rw [open_335 t f0]
  simp only [f1, fc]
  clear f0 f1 fc
  conv => arg 2; whnf
  have k0 : wr.cell? ⟨B, 0, none⟩ = some (.slice pm lm cm) := (At.below' hbd dK).cell 0 rfl
  go_upto_region 4 with (fail)
  go_cut [38] from 30 to 37 (fun v wx => ∃ c : Bool, v = .bool c ∧ (c = true ↔ (i < lm ∧ i < 5)) ∧ wx = wr)
  case first =>
    clear hJ hK hQ hin hle hss dK hbd
    by_cases h1 : i < lm
    · have t1 : (i : Int) < (lm : Int) := by omega
      by_cases h2 : i < 5
      · have t2 : (i : Int) < 5 := by omega
        go_wp2_with fail
        go_meet
        case rel => exact ⟨true, rfl, by simp [h1, h2], rfl⟩
      · have t2 : decide ((i : Int) < 5) = false := by simp; omega
        go_wp2_with fail
        go_meet
        case rel => exact ⟨false, rfl, by simp [h2], rfl⟩
    · have t1 : decide ((i : Int) < (lm : Int)) = false := by simp; omega
      go_wp2_with fail
      go_meet
      case rel => exact ⟨false, rfl, by simp [h1], rfl⟩
  case rest =>
    obtain ⟨c, rfl, hc, hw⟩ := hcut
    rw [hw] at *
    clear hw
    cases c
    · clear hJ hc hin hle hss dK k0
      go_wp2_with fail
      exact hQ _ _ ⟨rfl, rfl⟩ hbd
    · obtain ⟨hlt1, hlt2⟩ := hc.1 rfl
      have hi3 : (i : Int) < (lm : Int) := by omega
      have cN := fun x w => num9_any x w
      obtain ⟨bm, om, rfl, hbm, hcm⟩ := hin.2 (by omega)
      obtain ⟨z0, hmem⟩ := hcm i hlt1
      have z1 := cell_below z0 hbd
      have hmemL := hle i hlt1
      have hisM := (hmem.below hbd).isMem (hmemL.mono (by omega))
      have HDK := Lib.hid (At.below' hbd dK)
      have HS := Lib.hid (hss.below hbd)
      have HB := Lib.hid hbd
      clear hin hss hcm z0 hmem hmemL hle hQ hc dK hbd
      generalize ms.getD i default = mi at *
      obtain ⟨mq, mc, mm⟩ := mi
      dsimp only at z1 hisM
      have HI := Lib.hid hisM
      clear hisM
      generalize hLM : mm.length = l at *
      have HLM := Lib.hid hLM
      clear hLM
      have hck := kCheck_any mq l mc mm wr HI.out
      unfold CheckP at hck
      cases hmay : mayM mm
      · rw [hmay] at hck
        go_wp2_with (first | (go_at_call 27; (with_reducible refine (cN _ _).mono ?_); rintro e w' ⟨rfl, rfl⟩) | (go_at_call 31; (with_reducible refine hck.mono ?_); rintro e w4 ⟨rfl, hbS⟩))
        refine Handed.intro (nn - 1) (by omega) (hJ _ _ _ ⟨_, i + 1, _, rfl, ⟨rfl, rfl⟩, rfl, (by go_num), by omega, HB.out.trans (hbS.mono HB.out.size)⟩)
      · rw [hmay] at hck
        go_upto_region 7 with (first | (go_at_call 27; (with_reducible refine (cN _ _).mono ?_); rintro e w' ⟨rfl, rfl⟩) | (go_at_call 31; (with_reducible refine hck.mono ?_); rintro e w4 ⟨rfl, hbS⟩))
        have dK4 := At.below' hbS HDK.out
        replace z1 := cell_below z1 hbS
        have HI4 := Lib.hid (HI.out.below hbS)
        have HS4 := Lib.hid (HS.out.below hbS)
        have HB4 := Lib.hid (HB.out.trans (hbS.mono HB.out.size))
        clear hck HDK HI HS HB hbS k0
        have cP := fun w h1 h2 => pointers9_any (some ⟨bm, om, none⟩) ps pn pa lm cm ls cs ln cn la ca ss hls hln mq l mc mm w h1 h2
        unfold PtsP at cP
        have hSd : w4.drew.cell? ⟨B, 0, none⟩ = some (.slice (some ⟨bm, om, none⟩) lm cm) ∧ w4.drew.cell? ⟨B, 1, none⟩ = some (.slice ps ls cs) ∧ w4.drew.cell? ⟨B, 2, none⟩ = some (.slice pn ln cn) ∧ w4.drew.cell? ⟨B, 3, none⟩ = some (.slice pa la ca) ∧ w4.drew.cell? ⟨bm, om + i, none⟩ = some (.slice mq l mc) := ⟨dK4.cell 0 rfl, dK4.cell 1 rfl, dK4.cell 2 rfl, dK4.cell 3 rfl, z1⟩
        have dk0 := hSd.1
        have dk1 := hSd.2.1
        have dk2 := hSd.2.2.1
        have dk3 := hSd.2.2.2.1
        go_wp2_with fail
        go_region_held3 (fun w' => w'.cell? ⟨B, 0, none⟩ = some (.slice (some ⟨bm, om, none⟩) lm cm) ∧ w'.cell? ⟨B, 1, none⟩ = some (.slice ps ls cs) ∧ w'.cell? ⟨B, 2, none⟩ = some (.slice pn ln cn) ∧ w'.cell? ⟨B, 3, none⟩ = some (.slice pa la ca) ∧ w'.cell? ⟨bm, om + i, none⟩ = some (.slice mq l mc))
          (first
            | with_reducible exact hSd
            | with_reducible exact keep5b hSd hbL)
          ((go_at_call 22; (with_reducible refine (cP _ (HS4.out.below ((Below.refl w4.heap.size w4).drew)) (HI4.out.below ((Below.refl w4.heap.size w4).drew))).mono ?_); rintro e w7 ⟨gp, np, capp, Lp, rfl, hn2, hn25, hgp, hrow, hbL⟩))
        replace hbL : Below w4.heap.size w4 w7 := (Below.refl w4.heap.size w4).drew.trans hbL
        have HBM : BackM w7 B bm om lm cm i mq mc l mm gp np Lp := ⟨cell_below (dK4.cell 0 rfl) hbL, cell_below z1 hbL, HI4.out.below hbL, hrow⟩
        have HM7 := Lib.hid HBM
        replace HB4 := Lib.hid (HB4.out.trans (hbL.mono HB4.out.size))
        clear hSd dk0 dk1 dk2 dk3 HBM hrow hbL cP dK4 z1 HI4 HS4
        go_wp2_with fail
        refine noPanic_mono (bloop2 B i gp np capp bm om lm cm mc l mq mm Lp w7 hlt1 hlt2 hn25 hmay HM7.out _ ⟨rfl, rfl, rfl, rfl⟩ rfl _ ?_)
        intro t2 wB hF hbB
        obtain ⟨f0, f1, f3, f4⟩ := hF
        rw [open_335 t2 f0]
        simp only [f1, f3, f4]
        clear f0 f1 f3 f4
        have b9 := HB4.out.trans (hbB.mono HB4.out.size)
        clear hbB HB4 HM7
        go_wp2_with fail
        refine Handed.intro (nn - 1) (by omega) (hJ _ _ _ ⟨_, i + 1, _, rfl, ⟨rfl, rfl⟩, rfl, (by go_num), by omega, b9⟩)
end Go.Proofs.Ytcppmibeiilgbaa

/- MemBack: its walk. -/
namespace Go.Proofs.Ytcppmibeiilgbaa
open Go.ChangeShapes Go.WideShapes Go.ChangeAt Go.RowKit Go.Joins Go.Deep
set_option linter.unusedVariables false

set_option maxRecDepth 100000 in
set_option maxHeartbeats 12800000 in
theorem back_any (pm ps pn pa : Option Addr) (lm cm ls cs ln cn la ca : Nat) (ms : List MM) (ss : List SC) (h2 : ls ≤ 140737488355328) (h3 : ln ≤ 140737488355328) (h4 : la ≤ 140737488355328) (h5 : lm ≤ 140737488355328) (w : World) (hin : InMems w pm lm ms) (hle : ∀ i, i < lm → LeMem 140737488355328 (ms.getD i default)) (hss : InScs w ps ls cs ss) :
    Calls Try.prog 5 #[.agg #[.slice pm lm cm, .slice ps ls cs, .slice pn ln cn, .slice pa la ca]] w fun e w' => e = .returned (.bool true) ∧ Below w.heap.size w w' := by
  have dK := At.new w #[.slice pm lm cm, .slice ps ls cs, .slice pn ln cn, .slice pa la ca] 51
  have hb0 := below_box1 w (.cells #[.slice pm lm cm, .slice ps ls cs, .slice pn ln cn, .slice pa la ca] 51)
  have cH := fun w hin => heavy9_any pm ps pn pa lm cm ls cs ln cn la ca ms h2 h3 h4 h5 w hin hle
  have cW := fun w => wakes9_any w
  have HIN := Lib.hid hin
  have HSS := Lib.hid hss
  clear hin hss hle
  go_enter Try.func5, Try.ntmps5
  go_wp2_with fail
  refine (cH _ (HIN.out.below hb0)).mono ?_
  rintro e w1 ⟨hv, rfl, hlight, hb1⟩
  replace dK := At.below' hb1 dK
  replace hb0 := hb0.trans (hb1.mono hb0.size)
  clear hb1 cH h2 h3 h4 h5
  cases hv
  · have h7 := hlight rfl
    have HL7 := Lib.hid h7.2
    have hls : ls ≤ 700 := by omega
    have hln : ln ≤ 700 := by omega
    have hin2 := HIN.out.below hb0
    have hss2 := HSS.out.below hb0
    clear hlight h7
    go_wp2_with fail
    refine noPanic_mono (bloop1 w.heap.size pm ps pn pa lm cm ls cs ln cn la ca ms ss w1 hls hln hin2 HL7.out hss2 dK _ ⟨rfl, rfl⟩ rfl _ ?_)
    intro t2 w5 hF hb5
    obtain ⟨f0, f1⟩ := hF
    rw [open_335 t2 f0]
    have b5 := hb0.trans (hb5.mono hb0.size)
    clear f0 f1 hb0 hb5 hin2 hss2 dK
    go_wp2_with fail
    refine (cW _).mono ?_
    rintro e w6 ⟨rfl, hb6⟩
    go_wp2_with fail
    go_ret
    exact ⟨rfl, b5.trans (hb6.mono b5.size)⟩
  · have h := hlight
    clear h
    go_wp2
    go_ret
    exact ⟨rfl, hb0⟩
end Go.Proofs.Ytcppmibeiilgbaa
