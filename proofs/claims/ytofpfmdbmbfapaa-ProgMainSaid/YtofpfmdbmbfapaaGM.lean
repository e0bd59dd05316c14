/- ProgMain: its body. -/
import Derived.Test.YtofpfmdbmbfapaaGB
import Derived.Test.YtofpfmdbmbfapaaGMm
import Derived.Deep.RegionHeld3
namespace Go.Proofs.Ytofpfmdbmbfapaa
open Go.ChangeShapes Go.WideShapes Go.ChangeAt Go.RowKit Go.Joins Go.Deep
set_option linter.unusedVariables false


set_option maxHeartbeats 800000 in
theorem inA_any (v : Value) (l : List Int) (n : Int) (w : World) (h : IsIs w v l) : Calls Try.prog 15 #[v, .int .i64 n] w fun e w' => e = .returned (.int .i64 (inA l n 0)) ∧ w = w' := by
  obtain ⟨q, cap, rfl, hl, hcap, hc⟩ := h
  obtain ⟨len, hlen⟩ : ∃ len, len = l.length := ⟨_, rfl⟩
  rw [← hlen] at hl hcap hc ⊢
  unfold maxLen at hl
  have HL := Lib.hid hlen
  clear hlen
  obtain ⟨R, hR⟩ : ∃ R, inA l n 0 = R := ⟨_, rfl⟩
  rw [hR]
  have HR := Lib.hid hR
  clear hR
  go_enter Try.func15, Try.ntmps15
  go_wp2
  go_loopw [5] (fun v wr => ∃ i : Nat, i ≤ len ∧ v = .int .i64 (i : Nat) ∧ inA (l.drop i) n (i : Nat) = R ∧ w = wr) (fun v _ => len - (intOf v).toNat)
  case atStart => exact ⟨0, Nat.zero_le _, rfl, HR.out, rfl⟩
  case round =>
    obtain ⟨i, hi, rfl, hin, rfl⟩ := hrel
    by_cases hlt : i < len
    · obtain ⟨b, o, rfl, hbs, hcell⟩ := hc (by omega)
      obtain ⟨x, hx⟩ : ∃ x, l[i]? = some x := ⟨_, List.getElem?_eq_getElem (by rw [← HL.out]; exact hlt)⟩
      have c1 : w.cell? ⟨b, o + i, none⟩ = some (.int .i64 x) := by have := hcell i x hx; simpa [QI] using this
      have hj3 : (i : Int) < (len : Int) := by omega
      rw [drop_cons' hx] at hin
      unfold inA at hin
      by_cases hxn : x = n
      · subst hxn
        rw [if_pos rfl] at hin
        have FIN := Lib.hid hin
        clear hcell hc hx hin
        go_wp2
        go_ret
        exact ⟨ret_i FIN.out, rfl⟩
      · have hxb : (x == n) = false := beq_eq_false_iff_ne.2 hxn
        rw [if_neg hxn] at hin
        have FIN := Lib.hid hin
        clear hcell hc hx hxn hin
        go_wp2
        go_roundw
        case rel => exact ⟨i + 1, by omega, by go_num, FIN.out, by first | rfl | trivial⟩
        case measure => simp [intOf]; omega
    · obtain rfl : i = len := by omega
      rw [HL.out, List.drop_length] at hin
      have FIN : Hid (-1 = R) := Lib.hid hin
      clear hc hin
      go_wp2
      go_ret
      exact ⟨ret_i FIN.out, rfl⟩
/-- six programs' places -/
def CtrI (n : Nat) (base w : World) (v : Value) (wr : World) : Prop := ∃ i : Nat, i ≤ n ∧ v = .int .i64 (i : Nat) ∧ Below base.heap.size base wr
set_option maxRecDepth 100000 in
set_option maxHeartbeats 12800000 in
theorem progMain_any (vP vN : Value) (xs : List PX) (ns : List Int) (w : World) (hP : IsPs w vP xs) (hN : IsIs w vN ns) : Calls Try.prog 4 #[.agg #[vP, vN]] w (WakesP w) := by
  have hb0 := below_box1 w (.cells #[vP, vN] 25)
  have hA := At.new w #[vP, vN] 25
  obtain ⟨w1, hw1⟩ : ∃ w1, w.alloc (.cells #[vP, vN] 25) = w1 := ⟨_, rfl⟩
  rw [hw1] at hb0 hA
  have cH := heavy12_any vP vN xs ns w1 (hP.below hb0) (hN.below hb0)
  obtain ⟨qn, cn, rfl, _⟩ := id hN
  obtain ⟨qp, cp, rfl, hlp, hkp, hcp⟩ := id (hP.below hb0)
  have a0 : w1.cell? ⟨w.heap.size, 0, none⟩ = some (.slice qp xs.length cp) := hA.cell 0 rfl
  have a1 : w1.cell? ⟨w.heap.size, 1, none⟩ = some (.slice qn ns.length cn) := hA.cell 1 rfl
  have HB0 := Lib.hid hb0
  obtain ⟨np, hnp⟩ : ∃ np, np = xs.length := ⟨_, rfl⟩
  rw [← hnp] at hlp hkp hcp a0 hw1 cH ⊢
  have HNP := Lib.hid hnp
  have HCP := Lib.hid hcp
  have cW := fun w => wakes12_any w
  unfold WakesP at cW
  have cN := fun n w => num12_any n w
  unfold maxLen at hlp
  unfold HeavyP12 at cH
  clear hP hN hb0 hA hcp hnp
  generalize ns.length = nn at *
  go_enter Try.func4, Try.ntmps4
  go_wp2_with fail
  refine cH.mono ?_
  rintro e wh ⟨hv, rfl, hbh⟩
  clear cH
  have HBH := Lib.hid hbh
  cases hv
  rotate_left
  · go_wp2_with fail
    go_ret
    exact ⟨rfl, HB0.out.trans (HBH.out.mono HB0.out.size)⟩
  clear hbh
  go_wp2_with fail
  go_loopw [3] (fun v wr => CtrI np w1 w v wr) (fun v _ => np - (intOf v).toNat)
  case atStart => exact ⟨0, Nat.zero_le _, rfl, HBH.out⟩
  case round =>
    obtain ⟨i, hi, rfl, hbr⟩ := hrel
    obtain ⟨wo, hwo⟩ : ∃ wo, wo = wr := ⟨_, rfl⟩
    subst hwo
    have HBR := Lib.hid hbr
    have c0 := cell_below a0 hbr
    by_cases hlt : i < np
    rotate_left
    · obtain rfl : i = np := by omega
      clear a0 a1 hbr
      go_wp2_with (go_at_call 13; refine (cW _).mono ?_; rintro e w2 ⟨rfl, hb2⟩)
      go_ret
      exact ⟨rfl, HB0.out.trans ((HBR.out.trans (hb2.mono HBR.out.size)).mono HB0.out.size)⟩
    have hj3 : (i : Int) < (np : Int) := by omega
    by_cases h6 : i < 6
    rotate_left
    · have h6b : decide ((i : Int) < 6) = false := decide_eq_false (by omega)
      clear a0 a1 hbr
      go_wp2_with (go_at_call 13; refine (cW _).mono ?_; rintro e w2 ⟨rfl, hb2⟩)
      go_ret
      exact ⟨rfl, HB0.out.trans ((HBR.out.trans (hb2.mono HBR.out.size)).mono HB0.out.size)⟩
    have h6b : (i : Int) < 6 := by omega
    obtain ⟨b, off, rfl, hb, hcell⟩ := HCP.out (by omega)
    obtain ⟨x, hx⟩ : ∃ x, xs[i]? = some x := ⟨_, List.getElem?_eq_getElem (by rw [← HNP.out]; exact hlt)⟩
    obtain ⟨v1, v2, v3, v4, v5, p0, p1, p2, p3, p4, p5, p6, hpr⟩ := hcell i x hx
    have HPR := Lib.hid hpr
    have cI := Inner_prog x v1 v2 v3 v4 v5 wo (hpr.below hbr)
    unfold InnerP at cI
    obtain ⟨q1, k1, rfl, _⟩ := id hpr.1
    obtain ⟨q2, k2, rfl, _⟩ := id hpr.2.1
    obtain ⟨q3, k3, rfl, _⟩ := id hpr.2.2.1
    obtain ⟨q4, k4, rfl, _⟩ := id hpr.2.2.2.1
    obtain ⟨q5, k5, rfl, _⟩ := id hpr.2.2.2.2
    have r0 := cell_below p0 hbr
    have r1 := cell_below p1 hbr
    have r2 := cell_below p2 hbr
    have r3 := cell_below p3 hbr
    have r4 := cell_below p4 hbr
    have r5 := cell_below p5 hbr
    have r6 := cell_below p6 hbr
    have NEXT : Hid (∀ w', Below wo.heap.size wo w' → ∀ v, v = .int .i64 ((i + 1 : Nat) : Int) → CtrI np w1 w v w') := Lib.hid (fun w' hb' v hv => ⟨i + 1, by omega, hv, HBR.out.trans (hb'.mono HBR.out.size)⟩)
    obtain ⟨bp, hbp⟩ : ∃ bp, bp = progB x := ⟨_, rfl⟩
    have HBP := Lib.hid hbp
    rw [← hbp] at cI
    clear hcell hx hpr hbp
    go_wp2_with fail
    refine cI.mono ?_
    rintro e w2 ⟨v, k, rfl, hb2, hno, hyes⟩
    have HB2 := Lib.hid hb2
    clear cI
    cases bp
    · obtain ⟨rfl, rfl⟩ := hno rfl
      clear hno hyes a0 a1 r0 r1 r2 r3 r4 r5 r6 p0 p1 p2 p3 p4 p5 p6 c0 hbr hb2
      go_wp2_with (go_at_call 11; refine (cN _ _).mono ?_; rintro e w' ⟨rfl, rfl⟩)
      go_roundw
      case rel => exact NEXT.out _ HB2.out _ (by go_num)
      case measure => simp [intOf]; omega
    obtain ⟨rfl, hiv, hlen⟩ := hyes rfl
    have hb12 := hbr.trans (hb2.mono hbr.size)
    have HIV := Lib.hid (And.intro hiv hlen)
    have HB12 := Lib.hid hb12
    obtain ⟨qv, cv, rfl, hvl, hvk, hvc⟩ := id hiv
    have s0 := cell_below a0 hb12
    have s5 := cell_below p5 hb12
    rw [hlen] at hvl hvk hvc ⊢
    have hsl := (HPR.out.2.2.2.1)
    obtain ⟨ns2, hns2⟩ : ∃ ns2, ns2 = x.sts.length := ⟨_, rfl⟩
    have HNS := Lib.hid hns2
    have hl4 : ns2 ≤ 9223372036854775807 := by
      rw [hns2]
      have : x.sts.length ≤ maxLen := hvl
      unfold maxLen at this
      omega
    rw [← hns2] at s5 ⊢
    clear hno hyes r0 r1 r2 r3 r4 r5 r6 c0 hbr hb2 hiv hvl hvk hvc hsl hns2
    go_wp2_with (go_at_call 11; refine (cN _ _).mono ?_; rintro e w' ⟨rfl, rfl⟩)
    -- loop 2
    go_loopw [6] (fun v wr => CtrI ns2 w1 w v wr ∧ Below w2.heap.size w2 wr) (fun v _ => ns2 - (intOf v).toNat)
    case atStart => exact ⟨⟨0, Nat.zero_le _, rfl, HB12.out⟩, Below.refl _ _⟩
    case round =>
      obtain ⟨⟨k, hk, rfl, hbk⟩, hbw⟩ := hrel
      obtain ⟨wk, hwk⟩ : ∃ wk, wk = wr := ⟨_, rfl⟩
      subst hwk
      have HBK := Lib.hid (And.intro hbk hbw)
      by_cases hlk : k < ns2
      · have hk3 : (k : Int) < (ns2 : Int) := by omega
        obtain ⟨y, hy⟩ : ∃ y, (innerL x)[k]? = some y := ⟨_, List.getElem?_eq_getElem (by rw [HIV.out.2, ← HNS.out]; exact hlk)⟩
        have hok := inner_ok HBP.out.symm k y hy
        obtain ⟨_, _, hve, _, _, hvc⟩ := HIV.out.1
        obtain ⟨vb, vo, hvq, hvb, hvcell⟩ := hvc (by rw [HIV.out.2, ← HNS.out]; omega)
        injection hve with he1 he2 he3
        subst he1 he3
        subst hvq
        have cy : wk.cell? ⟨vb, vo + k, none⟩ = some (.int .i64 y) := by have := cell_below (hvcell k y hy) hbw; simpa [QI] using this
        have t0 := cell_below a0 hbk
        have t6 := cell_below p6 hbk
        have hmain := (HPR.out.2.2.2.2).below hbk
        have cIn := fun p : BelowBy wk => inA_any (.slice q5 x.main.length k5) x.main (k : Nat) p.world (hmain.below p.below)
        have hmem := inA_mem x.main (k : Nat) 0 (Int.le_refl _)
        generalize inA x.main (k : Nat) 0 = rr at *
        have z0 := fun p : BelowBy wk => p.cell t0
        have z6 := fun p : BelowBy wk => p.cell t6
        have zy := fun p : BelowBy wk => p.cell cy
        clear hvc hvcell hy hmain t0 t6 s0 s5 hbk hbw
        by_cases hy0 : y = 0
        · subst hy0
          have hr0 : (0 : Int) ≤ rr := hmem.2 (hok.1.1 rfl)
          have hrd : decide ((0 : Int) ≤ rr) = true := decide_eq_true hr0
          clear hok hmem
          go_wp2_with fail
          refine wp_region_quiet_below (by kernel_rfl) (by kernel_rfl) ?_
          repeat (go_big_quiet_step ((go_at_call 15; (with_reducible exact Calls.below_same (cIn _)))))
          refine wpQuiet_nil ?_
          intro w5 hw'
          have hb5 : Below wk.heap.size wk w5 := by (obtain ⟨⟨_, h⟩, h2⟩ := hw'; rw [h2]; exact h)
          clear hw'
          go_wp2_with fail
          go_roundw
          case rel => exact ⟨⟨k + 1, by omega, by go_num, HBK.out.1.trans (hb5.mono HBK.out.1.size)⟩, HBK.out.2.trans (hb5.mono HBK.out.2.size)⟩
          case measure => simp [intOf]; omega
        · have hyb : (y == 0) = false := beq_eq_false_iff_ne.2 hy0
          have hr0 : rr < 0 := by
            rcases Int.lt_or_le rr 0 with h | h
            · exact h
            · exact absurd (hok.1.2 (hmem.1 h)) hy0
          have hrd : decide ((0 : Int) ≤ rr) = false := decide_eq_false (by omega)
          have hy1 : decide (y < 0) = false := decide_eq_false (by omega)
          have hy5 : decide (5 < y) = false := decide_eq_false (by omega)
          have hy5n : y ≤ 5 := hok.2.2
          clear hok hmem hr0
          go_wp2_with fail
          refine wp_region_quiet_below (by kernel_rfl) (by kernel_rfl) ?_
          repeat (go_big_quiet_step ((go_at_call 15; (with_reducible exact Calls.below_same (cIn _)))))
          refine wpQuiet_nil ?_
          intro w5 hw'
          have hb5 : Below wk.heap.size wk w5 := by (obtain ⟨⟨_, h⟩, h2⟩ := hw'; rw [h2]; exact h)
          clear hw'
          go_wp2_with fail
          go_roundw
          case rel => exact ⟨⟨k + 1, by omega, by go_num, HBK.out.1.trans (hb5.mono HBK.out.1.size)⟩, HBK.out.2.trans (hb5.mono HBK.out.2.size)⟩
          case measure => simp [intOf]; omega
      · obtain rfl : k = ns2 := by omega
        obtain ⟨nx, hnx⟩ : ∃ nx, nx = x.exs.length := ⟨_, rfl⟩
        have HNX := Lib.hid hnx
        have hn120 : nx ≤ 120 := by rw [hnx]; exact (form_exs HBP.out.symm).1
        have hah := form_ahead (form_exs HBP.out.symm).2
        have HAH := Lib.hid hah
        rw [← hnx] at p4
        clear s0 s5 hbk hbw hnx hah
        go_wp2_with fail
        go_loopw [7] (fun v wr => CtrI nx w1 w v wr) (fun v _ => nx - (intOf v).toNat)
        case atStart => exact ⟨0, Nat.zero_le _, rfl, HBK.out.1⟩
        case round =>
          obtain ⟨kk, hkk, rfl, hbk⟩ := hrel
          obtain ⟨w3, hw3⟩ : ∃ w3, w3 = wr := ⟨_, rfl⟩
          subst hw3
          have HB3 := Lib.hid hbk
          have u0 := cell_below a0 hbk
          have u4 := cell_below p4 hbk
          by_cases hl3 : kk < nx
          rotate_left
          · obtain rfl : kk = nx := by omega
            clear a0 a1 p0 p1 p2 p3 p4 p5 p6
            go_wp2_with fail
            go_roundw
            case rel => exact ⟨i + 1, by omega, by go_num, HB3.out⟩
            case measure => simp [intOf]; omega
          have hk3 : (kk : Int) < (nx : Int) := by omega
          have g0 := cell_below p0 hbk
          have g1 := cell_below p1 hbk
          have g2 := cell_below p2 hbk
          have g3 := cell_below p3 hbk
          have g5 := cell_below p5 hbk
          have g6 := cell_below p6 hbk
          have cU := Uses_prog x (kk : Nat) _ _ _ _ _ w3 (HPR.out.below hbk)
          rw [← HNX.out] at cU
          unfold UsesQ at cU
          clear hbk
          go_wp2_with fail
          refine cU.mono ?_
          rintro e w6 ⟨v, k0, rfl, hb6, _, _, hyes⟩
          obtain ⟨rfl, hiv⟩ := hyes HBP.out.symm (by simp [plB]; rw [← HNX.out]; omega)
          have hkt : ((kk : Nat) : Int).toNat = kk := Int.toNat_natCast kk
          rw [hkt] at hiv
          have hlenT : (x.exs.take (kk + 1)).length = kk + 1 := by rw [List.length_take, ← HNX.out]; omega
          obtain ⟨r, hr⟩ := uses_last (HAH.out.take (kk + 1)) (by rw [hlenT]; omega)
          rw [hlenT, show kk + 1 - 1 = kk from rfl] at hr
          have hmemL : ∀ j : Int, j ∈ usesL (x.exs.take (kk + 1)) → 0 ≤ j ∧ j ≤ kk ∧ ∀ q : Int, q ∈ usesL (x.exs.take (j.toNat + 1)) → q ∈ usesL (x.exs.take (kk + 1)) := fun j hj => by
            have h1 := uses_mem hj
            rw [hlenT] at h1
            exact ⟨h1.1, by omega, fun q hq => uses_trans HAH.out (by rw [← HNX.out]; exact hl3) hj hq⟩
          have HML := Lib.hid hmemL
          obtain ⟨L, hL⟩ : ∃ L, L = usesL (x.exs.take (kk + 1)) := ⟨_, rfl⟩
          rw [← hL] at hiv hr
          have HL := Lib.hid hL
          obtain ⟨m, hm⟩ : ∃ m, m = r.length := ⟨_, rfl⟩
          have hLm : L.length = m + 1 := by rw [hr, hm]; simp
          have hLl : L[m]? = some (kk : Int) := by rw [hr, hm]; simp
          have HIV3 := Lib.hid (And.intro hiv hLm)
          have hbw6 := HB3.out.trans (hb6.mono HB3.out.size)
          have HB6 := Lib.hid hbw6
          obtain ⟨lq, lc, rfl, hll, hlk, hlc⟩ := id hiv
          rw [hLm] at hll hlk hlc ⊢
          obtain ⟨lb, lo, rfl, hlb, hlcell⟩ := hlc (by omega)
          have cl : w6.cell? ⟨lb, lo + m, none⟩ = some (.int .i64 (kk : Int)) := by have := hlcell m _ hLl; simpa [QI] using this
          unfold maxLen at hll
          have e1 : IntKind.i64.wrap (((m + 1 : Nat) : Int) - 1) = (m : Int) := by rw [IntKind.wrap_i64]; omega
          have e2 : (((m + 1 : Nat) : Int) == 0) = false := by rw [beq_eq_false_iff_ne]; omega
          have e3 : (m : Int) < ((m + 1 : Nat) : Int) := by omega
          clear cU hb6 hyes hkt hlenT hmemL hr hL hiv hlc hbw6 u0 u4 g0 g1 g2 g3 g5 g6 hLl hm
          have HLC := Lib.hid hlcell
          have HLM := Lib.hid hLm
          clear hlcell hLm
          generalize hnL : m + 1 = nL at *
          go_wp2_with (go_at_call 11; refine (cN _ _).mono ?_; rintro e w' ⟨rfl, rfl⟩)
          go_loopw [10] (fun v wr => CtrI nL w1 w v wr ∧ Below w6.heap.size w6 wr) (fun v _ => nL - (intOf v).toNat)
          case atStart => exact ⟨⟨0, Nat.zero_le _, rfl, HB6.out⟩, Below.refl _ _⟩
          case round =>
            obtain ⟨⟨j, hj, rfl, hbj⟩, hbj6⟩ := hrel
            obtain ⟨w7, hw7⟩ : ∃ w7, w7 = wr := ⟨_, rfl⟩
            subst hw7
            have HBJ := Lib.hid (And.intro hbj hbj6)
            by_cases hlj : j < nL
            rotate_left
            · obtain rfl : j = nL := by omega
              clear a0 a1 p0 p1 p2 p3 p4 p5 p6
              go_wp2_with fail
              go_roundw
              case rel => exact ⟨kk + 1, by omega, by go_num, HBJ.out.1⟩
              case measure => simp [intOf]; omega
            have hj9 : (j : Int) < (nL : Int) := by omega
            obtain ⟨y, hy⟩ : ∃ y, L[j]? = some y := ⟨_, List.getElem?_eq_getElem (by rw [HLM.out]; exact hlj)⟩
            have hyL : y ∈ L := List.mem_of_getElem? hy
            rw [HL.out] at hyL
            obtain ⟨hy0, hyk, hyq⟩ := HML.out y hyL
            have HYQ := Lib.hid hyq
            have cy : w7.cell? ⟨lb, lo + j, none⟩ = some (.int .i64 y) := by have := cell_below (HLC.out j y hy) hbj6; simpa [QI] using this
            have u0 := cell_below a0 hbj
            have g0 := cell_below p0 hbj
            have g1 := cell_below p1 hbj
            have g2 := cell_below p2 hbj
            have g3 := cell_below p3 hbj
            have g4 := cell_below p4 hbj
            have g5 := cell_below p5 hbj
            have g6 := cell_below p6 hbj
            have cU2 : ∀ w', Below w7.heap.size w7 w' → _ := fun w' hb' => Uses_prog x y _ _ _ _ _ w' (HPR.out.below (hbj.trans (hb'.mono hbj.size)))
            rw [← HNX.out] at cU2
            unfold UsesQ at cU2
            have HPL : Hid (plB y x.exs.length = true) := Lib.hid (by simp [plB]; rw [← HNX.out]; omega)
            clear hbj hbj6 hy hyL hyq
            go_wp2_with fail
            go_region_held3 (fun w' => w'.cell? ⟨w.heap.size, 0, none⟩ = some (.slice (some ⟨b, off, none⟩) np cp) ∧ w'.cell? ⟨b, off + i * 7, none⟩ = some (.bool x.big) ∧ w'.cell? ⟨b, off + i * 7 + 1, none⟩ = some (.int .i64 x.ptr) ∧ w'.cell? ⟨b, off + i * 7 + 2, none⟩ = some (.slice q1 x.vars.length k1) ∧ w'.cell? ⟨b, off + i * 7 + 3, none⟩ = some (.slice q2 x.news.length k2) ∧ w'.cell? ⟨b, off + i * 7 + 4, none⟩ = some (.slice q3 nx k3) ∧ w'.cell? ⟨b, off + i * 7 + 5, none⟩ = some (.slice q4 x.sts.length k4) ∧ w'.cell? ⟨b, off + i * 7 + 6, none⟩ = some (.slice q5 x.main.length k5) ∧ w'.cell? ⟨lb, lo + j, none⟩ = some (.int .i64 y)) (first | exact ⟨u0, g0, g1, g2, g3, g4, g5, g6, cy⟩ | exact ⟨cell_below u0 hb8, cell_below g0 hb8, cell_below g1 hb8, cell_below g2 hb8, cell_below g3 hb8, cell_below g4 hb8, cell_below g5 hb8, cell_below g6 hb8, cell_below cy hb8⟩) ((go_at_call 8; refine (cU2 _ ((Below.refl w7.heap.size w7).drew)).mono ?_; rintro e w8 ⟨v8, k8, rfl, hb8d, _, _, hyes⟩; have hb8 : Below w7.heap.size w7 w8 := ((Below.refl w7.heap.size w7).drew).trans hb8d))
            obtain ⟨rfl, hiv8⟩ := hyes HBP.out.symm HPL.out
            have hq8 := HYQ.out
            obtain ⟨M, hM⟩ : ∃ M, M = usesL (x.exs.take (y.toNat + 1)) := ⟨_, rfl⟩
            rw [← hM] at hiv8 hq8
            have HQ8 := Lib.hid hq8
            have hb17 := HBJ.out.1.trans (hb8.mono HBJ.out.1.size)
            have hb67 := HBJ.out.2.trans (hb8.mono HBJ.out.2.size)
            have HB8 := Lib.hid (And.intro hb17 hb67)
            obtain ⟨mq, mc, rfl, hml, hmk, hmc⟩ := id hiv8
            unfold maxLen at hml
            obtain ⟨nM, hnM⟩ : ∃ nM, nM = M.length := ⟨_, rfl⟩
            rw [← hnM] at hml hmk hmc ⊢
            have HM8 := Lib.hid (And.intro hnM hmc)
            clear hyes cU2 hq8 hM hb17 hb67 hiv8 hmc hnM u0 g0 g1 g2 g3 g4 g5 g6 cy hb8 hb8d
            go_wp2_with (go_at_call 11; refine (cN _ _).mono ?_; rintro e w' ⟨rfl, rfl⟩)
            go_loopw [13] (fun v wr => CtrI nM w1 w v wr ∧ Below w6.heap.size w6 wr ∧ Below w8.heap.size w8 wr) (fun v _ => nM - (intOf v).toNat)
            case atStart => exact ⟨⟨0, Nat.zero_le _, rfl, HB8.out.1⟩, HB8.out.2, Below.refl _ _⟩
            case round =>
              obtain ⟨⟨q, hq, rfl, hbq⟩, hbq6, hbq8⟩ := hrel
              obtain ⟨w9, hw9⟩ : ∃ w9, w9 = wr := ⟨_, rfl⟩
              subst hw9
              by_cases hlq : q < nM
              rotate_left
              · obtain rfl : q = nM := by omega
                have FIN : Hid (∀ v, v = .int .i64 ((j + 1 : Nat) : Int) → CtrI nL w1 w v w9 ∧ Below w6.heap.size w6 w9) := Lib.hid fun v hv => ⟨⟨j + 1, by omega, hv, hbq⟩, hbq6⟩
                clear a0 a1 p0 p1 p2 p3 p4 p5 p6 hbq hbq6 hbq8
                go_wp2_with fail
                go_roundw
                case rel => exact FIN.out _ (by go_num)
                case measure => simp [intOf]; omega
              have hq9 : (q : Int) < (nM : Int) := by omega
              obtain ⟨mb, mo, rfl, hmb, hmcell⟩ := HM8.out.2 (by omega)
              obtain ⟨z, hz⟩ : ∃ z, M[q]? = some z := ⟨_, List.getElem?_eq_getElem (by rw [← HM8.out.1]; exact hlq)⟩
              have cz : w9.cell? ⟨mb, mo + q, none⟩ = some (.int .i64 z) := by have := cell_below (hmcell q z hz) hbq8; simpa [QI] using this
              have hzL : z ∈ L := by rw [HL.out]; exact HQ8.out z (List.mem_of_getElem? hz)
              have hr0 : (0 : Int) ≤ inA L z 0 := (inA_mem L z 0 (Int.le_refl _)).2 hzL
              have hLq : IsIs w9 (.slice (some ⟨lb, lo, none⟩) nL lc) L := by have := HIV3.out.1.below hbq6; rw [HLM.out] at this; exact this
              have cIn := inA_any (.slice (some ⟨lb, lo, none⟩) nL lc) L z w9 hLq
              clear hLq
              generalize inA L z 0 = rr at *
              have hrd : decide (rr < 0) = false := decide_eq_false (by omega)
              have FIN : Hid (∀ v, v = .int .i64 ((q + 1 : Nat) : Int) → CtrI nM w1 w v w9 ∧ Below w6.heap.size w6 w9 ∧ Below w8.heap.size w8 w9) := Lib.hid fun v hv => ⟨⟨q + 1, by omega, hv, hbq⟩, hbq6, hbq8⟩
              clear a0 a1 p0 p1 p2 p3 p4 p5 p6 hbq hbq6 hbq8 hmcell hz hzL
              go_wp2_with (go_at_call 15; refine cIn.mono ?_; rintro e w' ⟨rfl, rfl⟩)
              go_roundw
              case rel => exact FIN.out _ (by go_num)
              case measure => simp [intOf]; omega
end Go.Proofs.Ytofpfmdbmbfapaa
