/- ProgUses: its body. -/
import Derived.Test.YtofpfmdbmbfapaaGUr
import Derived.Test.YtofpfmdbmbfapaaGB
namespace Go.Proofs.Ytofpfmdbmbfapaa
open Go.ChangeShapes Go.WideShapes Go.ChangeAt Go.RowKit Go.Joins Go.Deep
set_option linter.unusedVariables false

def CtrI (n : Nat) (base w : World) (v : Value) (wr : World) : Prop := ∃ i : Nat, i ≤ n ∧ v = .int .i64 (i : Nat) ∧ Below base.heap.size base wr
def CtrE (n : Nat) (base : World) (v : Value) (wr : World) : Prop := ∃ k : Nat, k ≤ n ∧ v = .int .i64 ((k : Int) - 1) ∧ Below base.heap.size base wr
theorem plB_num (e : Int) (n : Nat) : upTo e 0 ((n : Int) - 1) = plB e n := by
  rw [Bool.eq_iff_iff]
  simp [upTo, plB]
  omega
set_option maxRecDepth 100000 in
set_option maxHeartbeats 12800000 in
theorem progUses_any (vP vN : Value) (xs : List PX) (ns : List Int) (w : World) (hP : IsPs w vP xs) (hN : IsIs w vN ns) : Calls Try.prog 3 #[.agg #[vP, vN]] w (WakesP w) := by
  have hb0 := below_box1 w (.cells #[vP, vN] 25)
  have hA := At.new w #[vP, vN] 25
  obtain ⟨w1, hw1⟩ : ∃ w1, w.alloc (.cells #[vP, vN] 25) = w1 := ⟨_, rfl⟩
  rw [hw1] at hb0 hA
  have cH := heavy12_any vP vN xs ns w1 (hP.below hb0) (hN.below hb0)
  obtain ⟨qn, cn, rfl, _⟩ := id hN
  obtain ⟨qp, cp, rfl, hlp, hkp, hcp⟩ := id (hP.below hb0)
  have a0 : w1.cell? ⟨w.heap.size, 0, none⟩ = some (.slice qp xs.length cp) := hA.cell 0 rfl
  have a1 : w1.cell? ⟨w.heap.size, 1, none⟩ = some (.slice qn ns.length cn) := hA.cell 1 rfl
  have HB0 := Lib.hid hb0
  obtain ⟨np, hnp⟩ : ∃ np, np = xs.length := ⟨_, rfl⟩
  rw [← hnp] at hlp hkp hcp a0 hw1 cH ⊢
  have HNP := Lib.hid hnp
  have HCP := Lib.hid hcp
  have cW := fun w => wakes12_any w
  unfold WakesP at cW
  have cN := fun n w => num12_any n w
  unfold maxLen at hlp
  unfold HeavyP12 at cH
  clear hP hN hb0 hA hcp hnp
  generalize ns.length = nn at *
  go_enter Try.func3, Try.ntmps3
  go_wp2_with fail
  refine cH.mono ?_
  rintro e wh ⟨hv, rfl, hbh⟩
  clear cH
  have HBH := Lib.hid hbh
  cases hv
  rotate_left
  · go_wp2_with fail
    go_ret
    exact ⟨rfl, HB0.out.trans (HBH.out.mono HB0.out.size)⟩
  clear hbh
  go_wp2_with fail
  go_loopw [3] (fun v wr => CtrI np w1 w v wr) (fun v _ => np - (intOf v).toNat)
  case atStart => exact ⟨0, Nat.zero_le _, rfl, HBH.out⟩
  case round =>
    obtain ⟨i, hi, rfl, hbr⟩ := hrel
    obtain ⟨wo, hwo⟩ : ∃ wo, wo = wr := ⟨_, rfl⟩
    subst hwo
    have HBR := Lib.hid hbr
    have c0 := cell_below a0 hbr
    by_cases hlt : i < np
    rotate_left
    · obtain rfl : i = np := by omega
      clear a0 a1 hbr
      go_wp2_with (go_at_call 13; refine (cW _).mono ?_; rintro e w2 ⟨rfl, hb2⟩)
      go_ret
      exact ⟨rfl, HB0.out.trans ((HBR.out.trans (hb2.mono HBR.out.size)).mono HB0.out.size)⟩
    have hj3 : (i : Int) < (np : Int) := by omega
    by_cases h6 : i < 6
    rotate_left
    · have h6b : decide ((i : Int) < 6) = false := decide_eq_false (by omega)
      clear a0 a1 hbr
      go_wp2_with (go_at_call 13; refine (cW _).mono ?_; rintro e w2 ⟨rfl, hb2⟩)
      go_ret
      exact ⟨rfl, HB0.out.trans ((HBR.out.trans (hb2.mono HBR.out.size)).mono HB0.out.size)⟩
    have h6b : (i : Int) < 6 := by omega
    obtain ⟨b, off, rfl, hb, hcell⟩ := HCP.out (by omega)
    obtain ⟨x, hx⟩ : ∃ x, xs[i]? = some x := ⟨_, List.getElem?_eq_getElem (by rw [← HNP.out]; exact hlt)⟩
    obtain ⟨v1, v2, v3, v4, v5, p0, p1, p2, p3, p4, p5, p6, hpr⟩ := hcell i x hx
    have HPR := Lib.hid hpr
    have cI := rProg_any x v1 v2 v3 v4 v5 wo (hpr.below hbr)
    unfold RProgP at cI
    have cU0 := fun (e0 : Int) w' (hb' : Below w1.heap.size w1 w') => Uses_prog x e0 v1 v2 v3 v4 v5 w' (hpr.below hb')
    have cR0 := fun (e0 : Nat) hF h120 hlt w' (hb' : Below w1.heap.size w1 w') => rUses_any x v1 v2 v3 v4 v5 e0 hF h120 hlt w' (hpr.below hb')
    obtain ⟨q1, k1, rfl, _⟩ := id hpr.1
    obtain ⟨q2, k2, rfl, _⟩ := id hpr.2.1
    obtain ⟨q3, k3, rfl, _⟩ := id hpr.2.2.1
    obtain ⟨q4, k4, rfl, _⟩ := id hpr.2.2.2.1
    obtain ⟨q5, k5, rfl, _⟩ := id hpr.2.2.2.2
    have r0 := cell_below p0 hbr
    have r1 := cell_below p1 hbr
    have r2 := cell_below p2 hbr
    have r3 := cell_below p3 hbr
    have r4 := cell_below p4 hbr
    have r5 := cell_below p5 hbr
    have r6 := cell_below p6 hbr
    have NEXT : Hid (∀ w', Below w1.heap.size w1 w' → ∀ v, v = .int .i64 ((i + 1 : Nat) : Int) → CtrI np w1 w v w') := Lib.hid (fun w' hb' v hv => ⟨i + 1, by omega, hv, hb'⟩)
    obtain ⟨bp, hbp⟩ : ∃ bp, bp = progB x := ⟨_, rfl⟩
    have HBP := Lib.hid hbp
    rw [← hbp] at cI
    have hl3 : x.exs.length ≤ maxLen := by obtain ⟨_, _, hv, hl, _⟩ := hpr.2.2.1; exact hl
    have hnx9 : x.exs.length ≤ 9223372036854775807 := by unfold maxLen at hl3; omega
    have enx : IntKind.i64.wrap ((x.exs.length : Int) - 1) = (x.exs.length : Int) - 1 := by rw [IntKind.wrap_i64]; omega
    have HU0 := Lib.hid cU0
    have HR0 := Lib.hid cR0
    clear hcell hx hpr hbp hl3 cU0 cR0
    go_wp2_with fail
    refine cI.mono ?_
    rintro e w2 ⟨rfl, hb2⟩
    have HB2 := Lib.hid (hbr.trans (hb2.mono hbr.size))
    clear cI r0 r1 r2 r3 r4 r5 r6 c0 hbr hb2
    go_wp2_with fail
    go_loopw [5] (fun v wr => CtrE (x.exs.length + 2) w1 v wr) (fun v _ => ((x.exs.length : Int) + 1 - intOf v).toNat)
    case atStart => exact ⟨0, Nat.zero_le _, rfl, HB2.out⟩
    case round =>
      obtain ⟨k, hk, rfl, hbk⟩ := hrel
      obtain ⟨w3, hw3⟩ : ∃ w3, w3 = wr := ⟨_, rfl⟩
      subst hw3
      have HB3 := Lib.hid hbk
      have u0 := cell_below a0 hbk
      have g0 := cell_below p0 hbk
      have g1 := cell_below p1 hbk
      have g2 := cell_below p2 hbk
      have g3 := cell_below p3 hbk
      have g4 := cell_below p4 hbk
      have g5 := cell_below p5 hbk
      have g6 := cell_below p6 hbk
      obtain ⟨ee, hee⟩ : ∃ ee, ee = (k : Int) - 1 := ⟨_, rfl⟩
      rw [← hee]
      have HEE := Lib.hid hee
      have hge : -1 ≤ ee := by omega
      clear hee hbk
      by_cases hle : ee ≤ (x.exs.length : Int)
      rotate_left
      · have hled : decide (ee ≤ (x.exs.length : Int)) = false := decide_eq_false hle
        clear a0 a1 p0 p1 p2 p3 p4 p5 p6 g0 g1 g2 g3 g5 g6
        go_wp2_with fail
        go_roundw
        case rel => exact NEXT.out _ HB3.out _ (by go_num)
        case measure => simp [intOf]; omega
      by_cases hl50 : ee < 50
      rotate_left
      · have hled : decide (ee < 50) = false := decide_eq_false hl50
        clear a0 a1 p0 p1 p2 p3 p4 p5 p6 g0 g1 g2 g3 g5 g6
        go_wp2_with fail
        go_roundw
        case rel => exact NEXT.out _ HB3.out _ (by go_num)
        case measure => simp [intOf]; omega
      have cU := HU0.out ee w3 HB3.out
      unfold UsesQ at cU
      have enn : IntKind.i64.wrap (ee + 1) = ee + 1 := by rw [IntKind.wrap_i64]; omega
      have NX2 : Hid (∀ w', Below w3.heap.size w3 w' → CtrE (x.exs.length + 2) w1 (.int .i64 (ee + 1)) w') := Lib.hid (by
        intro w' hb'
        have he9 := HEE.out
        refine ⟨k + 1, by omega, ?_, HB3.out.trans (hb'.mono HB3.out.size)⟩
        rw [show ee + 1 = ((k + 1 : Nat) : Int) - 1 by omega])
      have MEA : Hid (((x.exs.length : Int) + 1 - intOf (.int .i64 (ee + 1))).toNat < ((x.exs.length : Int) + 1 - intOf (.int .i64 ee)).toNat) := Lib.hid (by
        show ((x.exs.length : Int) + 1 - (ee + 1)).toNat < ((x.exs.length : Int) + 1 - ee).toNat
        omega)
      go_wp2_with fail
      refine cU.mono ?_
      rintro e w6 ⟨v, kf, rfl, hb6, hq1, hq2, hq3⟩
      have HB6 := Lib.hid hb6
      have hb16 := HB3.out.trans (hb6.mono HB3.out.size)
      have HB16 := Lib.hid hb16
      clear cU hb6
      cases bp
      · obtain ⟨rfl, rfl⟩ := hq1 HBP.out.symm
        have cQ := fun w => eqNumsG (.slice none 0 0) (.slice none 0 0) [] [] w (is_nil _) (is_nil _)
        unfold EqP at cQ
        rw [show decide (([] : List Int) = []) = true from rfl] at cQ
        clear hq1 hq2 hq3 a0 a1 p0 p1 p2 p3 p4 p5 p6 u0 g0 g1 g2 g3 g4 g5 g6 hb16
        go_wp2_with (first | (go_at_call 11; refine (cN _ _).mono ?_; rintro e w' ⟨rfl, rfl⟩) | (go_at_call 12; refine (cQ _).mono ?_; rintro e w7 ⟨rfl, hb7⟩))
        go_roundw
        case rel => exact NX2.out _ (HB6.out.trans (hb7.mono HB6.out.size))
        case measure => exact MEA.out
      have cNm := fun w => Num_any ee ((x.exs.length : Int) - 1) w
      rw [plB_num] at cNm
      have t0 := cell_below a0 hb16
      have t4 := cell_below p4 hb16
      cases hpl : plB ee x.exs.length
      · obtain ⟨rfl, rfl⟩ := hq2 HBP.out.symm hpl
        rw [hpl] at cNm
        have cQ := fun w => eqNumsG (.slice none 0 0) (.slice none 0 0) [] [] w (is_nil _) (is_nil _)
        unfold EqP at cQ
        rw [show decide (([] : List Int) = []) = true from rfl] at cQ
        clear hq1 hq2 hq3 a0 a1 p0 p1 p2 p3 p4 p5 p6 u0 g0 g1 g2 g3 g4 g5 g6 hb16 hpl
        go_wp2_with (first | (go_at_call 9; refine (cNm _).mono ?_; rintro e w' ⟨rfl, rfl⟩) | (go_at_call 11; refine (cN _ _).mono ?_; rintro e w' ⟨rfl, rfl⟩) | (go_at_call 12; refine (cQ _).mono ?_; rintro e w7 ⟨rfl, hb7⟩))
        go_roundw
        case rel => exact NX2.out _ (HB6.out.trans (hb7.mono HB6.out.size))
        case measure => exact MEA.out
      · obtain ⟨rfl, hiv⟩ := hq3 HBP.out.symm hpl
        rw [hpl] at cNm
        have hpl2 : 0 ≤ ee ∧ ee < (x.exs.length : Int) := by simpa [plB] using hpl
        obtain ⟨ke, rfl⟩ : ∃ ke : Nat, ee = (ke : Int) := ⟨ee.toNat, by omega⟩
        have hfx := form_exs HBP.out.symm
        have cR := HR0.out ke hfx.2 hfx.1 (by omega) w6 hb16
        unfold RUsesP at cR
        rw [show ((ke : Nat) : Int).toNat = ke from Int.toNat_natCast ke] at hiv
        obtain ⟨L, hL⟩ : ∃ L, L = usesL (x.exs.take (ke + 1)) := ⟨_, rfl⟩
        rw [← hL] at hiv cR
        have HIV := Lib.hid hiv
        have t1 := cell_below p0 hb16
        have t2 := cell_below p1 hb16
        have t3 := cell_below p2 hb16
        have t5 := cell_below p3 hb16
        have t6 := cell_below p5 hb16
        have t7 := cell_below p6 hb16
        obtain ⟨lq, lc, rfl, _⟩ := id hiv
        clear hq1 hq2 hq3 a0 a1 p0 p1 p2 p3 p4 p5 p6 u0 g0 g1 g2 g3 g4 g5 g6 hb16 hpl hpl2 hfx hL hiv
        go_wp2_with (go_at_call 9; refine (cNm _).mono ?_; rintro e w' ⟨rfl, rfl⟩)
        refine cR.mono ?_
        rintro e w7 ⟨v7, rfl, i7, hb7⟩
        have cQ := eqNumsG _ v7 L L w7 (HIV.out.below hb7) i7
        unfold EqP at cQ
        rw [show decide (L = L) = true by simp] at cQ
        obtain ⟨mq, mc, rfl, _⟩ := id i7
        have HB7 := Lib.hid (HB6.out.trans (hb7.mono HB6.out.size))
        clear cR i7 hb7 t0 t1 t2 t3 t4 t5 t6 t7
        go_wp2_with (first | (go_at_call 11; refine (cN _ _).mono ?_; rintro e w' ⟨rfl, rfl⟩) | (go_at_call 12; refine cQ.mono ?_; rintro e w8 ⟨rfl, hb8⟩))
        go_roundw
        case rel => exact NX2.out _ (HB7.out.trans (hb8.mono HB7.out.size))
        case measure => exact MEA.out
end Go.Proofs.Ytofpfmdbmbfapaa
