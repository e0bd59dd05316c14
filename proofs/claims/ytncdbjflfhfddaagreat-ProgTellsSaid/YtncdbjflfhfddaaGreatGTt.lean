/- ProgTells: its body. -/
import Derived.Test.YtncdbjflfhfddaaGreatGTr
import Derived.Test.YtncdbjflfhfddaaGreatGTk
import Derived.Test.YtncdbjflfhfddaaGreatGTe
import Derived.Deep.RegionHeld3
import Derived.Deep.DeepMust
namespace Go.Proofs.YtncdbjflfhfddaaGreat
open Go.ChangeShapes Go.WideShapes Go.ChangeAt Go.RowKit Go.Joins Go.Deep
set_option linter.unusedVariables false

def badI (b : Bool) : Int := if b then 0 else 1
def ifL (b : Bool) (l : List Int) : List Int := if b then l else []
def TwoL (l : List Int) (bad : Int) (w : World) (e : Ending) (w' : World) : Prop := ∃ v, e = .returned (.tuple #[v, .int .i64 bad]) ∧ IsIs w' v l ∧ Below w.heap.size w w'
theorem isI_nil (w : World) : IsIs w (.slice none 0 0) [] := (RowZ.nil 0 w).is (by simp [maxLen])
theorem Inner_two (P : PX) (v1 v2 v3 v4 v5 : Value) (w : World) (h : IsPr w v1 v2 v3 v4 v5 P) : Calls Tryz.prog 7 #[.agg #[.bool P.big, .int .i64 P.ptr, v1, v2, v3, v4, v5]] w (TwoL (ifL (progB P) (innerL P)) (badI (progB P)) w) := by
  refine (Inner_prog P v1 v2 v3 v4 v5 w h).mono ?_
  rintro e w' ⟨v, k, rfl, hb, hno, hyes⟩
  cases hp : progB P
  · obtain ⟨rfl, rfl⟩ := hno hp
    exact ⟨_, rfl, isI_nil _, hb⟩
  · obtain ⟨rfl, hi, _⟩ := hyes hp
    exact ⟨_, rfl, hi, hb⟩
theorem Loops_two (P : PX) (v1 v2 v3 v4 v5 : Value) (hns : P.sts.length ≤ 100000) (w : World) (h : IsPr w v1 v2 v3 v4 v5 P) : Calls Tryz.prog 8 #[.agg #[.bool P.big, .int .i64 P.ptr, v1, v2, v3, v4, v5]] w (TwoL (ifL (progB P) (loopsT P.sts P.sts.length)) (badI (progB P)) w) := by
  refine (Loops_prog P v1 v2 v3 v4 v5 hns w h).mono ?_
  rintro e w' ⟨v, k, rfl, hb, hno, hyes⟩
  cases hp : progB P
  · obtain ⟨rfl, rfl⟩ := hno hp
    exact ⟨_, rfl, isI_nil _, hb⟩
  · obtain ⟨rfl, hi⟩ := hyes hp
    exact ⟨_, rfl, hi, hb⟩
def TwoZ (l : List Int) (bad : Int) (w : World) (e : Ending) (w' : World) : Prop := ∃ v, e = .returned (.tuple #[v, .int .i64 bad]) ∧ RowZ w.heap.size l v w' ∧ Below w.heap.size w w'
theorem Kinds_two (P : PX) (v1 v2 v3 v4 v5 : Value) (hV : P.vars.length ≤ 100000) (hN : P.news.length ≤ 100000) (w : World) (h : IsPr w v1 v2 v3 v4 v5 P) : Calls Tryz.prog 9 #[.agg #[.bool P.big, .int .i64 P.ptr, v1, v2, v3, v4, v5]] w (TwoZ (ifL (progB P) (kindsL P)) (badI (progB P)) w) := by
  refine (Kinds_prog P v1 v2 v3 v4 v5 hV hN w h).mono ?_
  rintro e w' ⟨v, k, l, rfl, hb, hz, hno, hyes⟩
  cases hp : progB P
  · obtain ⟨rfl, rfl⟩ := hno hp
    exact ⟨_, rfl, hz, hb⟩
  · obtain ⟨rfl, rfl⟩ := hyes hp
    exact ⟨_, rfl, hz, hb⟩
theorem Check_two (P : PX) (v1 v2 v3 v4 v5 : Value) (w : World) (h : IsPr w v1 v2 v3 v4 v5 P) : Calls Tryz.prog 15 #[.agg #[.bool P.big, .int .i64 P.ptr, v1, v2, v3, v4, v5]] w fun e w' => e = .returned (.int .i64 (badI (progB P))) ∧ Below w.heap.size w w' := by
  refine (Check_prog P v1 v2 v3 v4 v5 w h).mono ?_
  rintro e w' ⟨k, rfl, rfl, hb⟩
  exact ⟨rfl, hb⟩
theorem pr_of_copy {w : World} {B : Nat} {V N M : List Int} {E : List EX} {S : List SX} {u1 u2 u3 u4 u5 : Value} {P : PX} (hV : P.vars = V) (hN : P.news = N) (hE : P.exs = E) (hS : P.sts = S) (hM : P.main = M) (hL : LeP 1000 P)
    (z1 : RowZ B V u1 w) (z2 : RowZ B N u2 w) (z3 : RowE B E u3 w) (z4 : RowS B S u4 w) (z5 : RowZ B M u5 w) : IsPr w u1 u2 u3 u4 u5 P := by
  obtain ⟨l1, l2, l3, l4, l5, ls⟩ := hL
  subst hV hN hE hM
  obtain ⟨r, hr, z4⟩ := z4
  have hrs : r.map (·.1) = P.sts := hr.trans hS.symm
  have h4 := RowT.is z4 (by have := congrArg List.length hrs; rw [List.length_map] at this; unfold maxLen; omega) (fun t ht => by have := ls t.1 (by rw [← hrs]; exact List.mem_map_of_mem ht); exact ⟨by have := this.1; unfold maxLen; omega, by have := this.2; unfold maxLen; omega⟩)
  rw [hrs] at h4
  exact ⟨z1.is (by unfold maxLen; omega), z2.is (by unfold maxLen; omega), z3.is (by unfold maxLen; omega), h4, z5.is (by unfold maxLen; omega)⟩
def CtrT (n : Nat) (base : World) (v : Value) (wr : World) : Prop := ∃ i : Nat, i ≤ n ∧ v = .int .i64 (i : Nat) ∧ Below base.heap.size base wr
set_option maxRecDepth 100000 in
set_option maxHeartbeats 12800000 in
theorem progTells_any (vP vN : Value) (xs : List PX) (ns : List Int) (hlP : xs.length ≤ 140737488355328) (hlN : ns.length ≤ 140737488355328) (hL : ∀ x ∈ xs, LeP 140737488355328 x) (w : World) (hP : IsPs w vP xs) (hN : IsIs w vN ns) : Calls Tryz.prog 3 #[.agg #[vP, vN]] w (WakesP w) := by
  have hb0 := below_box1 w (.cells #[vP, vN] 25)
  have hA := At.new w #[vP, vN] 25
  obtain ⟨w1, hw1⟩ : ∃ w1, w.alloc (.cells #[vP, vN] 25) = w1 := ⟨_, rfl⟩
  rw [hw1] at hb0 hA
  have cH := heavyB_any vP vN xs ns hlP hlN hL w1 (hP.below hb0) (hN.below hb0)
  obtain ⟨qn, cn, rfl, _⟩ := id hN
  obtain ⟨qp, cp, rfl, hlp, hkp, hcp⟩ := id (hP.below hb0)
  have a0 : w1.cell? ⟨w.heap.size, 0, none⟩ = some (.slice qp xs.length cp) := hA.cell 0 rfl
  have a1 : w1.cell? ⟨w.heap.size, 1, none⟩ = some (.slice qn ns.length cn) := hA.cell 1 rfl
  have HB0 := Lib.hid hb0
  obtain ⟨np, hnp⟩ : ∃ np, np = xs.length := ⟨_, rfl⟩
  rw [← hnp] at hlp hkp hcp a0 hw1 cH ⊢
  have HNP := Lib.hid hnp
  have HCP := Lib.hid hcp
  have cW := fun w => wakes12_any w
  unfold WakesP at cW
  have cN := fun n w => num12_any n w
  unfold HeavyQ12 at cH
  clear hP hN hb0 hA hcp hnp hlp hkp hlP hlN hL
  generalize ns.length = nn at *
  go_enter Tryz.func3, Tryz.ntmps3
  go_wp2_with fail
  refine cH.mono ?_
  rintro e wh ⟨hv, rfl, hsm, hbh⟩
  clear cH
  have HBH := Lib.hid hbh
  cases hv
  rotate_left
  · go_wp2_with fail
    go_ret
    exact ⟨rfl, HB0.out.trans (HBH.out.mono HB0.out.size)⟩
  obtain ⟨hnp9, hnn9, hLL⟩ := hsm rfl
  have HLL := Lib.hid hLL
  clear hbh hsm hLL
  go_wp2_with fail
  go_loopw [3] (fun v wr => CtrT np w1 v wr) (fun v _ => np - (intOf v).toNat)
  case atStart => exact ⟨0, Nat.zero_le _, rfl, HBH.out⟩
  case round =>
    obtain ⟨i, hi, rfl, hbr⟩ := hrel
    obtain ⟨wo, hwo⟩ : ∃ wo, wo = wr := ⟨_, rfl⟩
    subst hwo
    have HBR := Lib.hid hbr
    have c0 := cell_below a0 hbr
    have c1 := cell_below a1 hbr
    by_cases hlt : i < np
    rotate_left
    · obtain rfl : i = np := by omega
      clear a0 a1 hbr
      go_wp2_with (go_at_call 19; refine (cW _).mono ?_; rintro e w2 ⟨rfl, hb2⟩)
      go_ret
      exact ⟨rfl, HB0.out.trans ((HBR.out.trans (hb2.mono HBR.out.size)).mono HB0.out.size)⟩
    have hj3 : (i : Int) < (np : Int) := by omega
    by_cases h6 : i < 6
    rotate_left
    · have h6b : decide ((i : Int) < 6) = false := decide_eq_false (by omega)
      clear a0 a1 hbr
      go_wp2_with (go_at_call 19; refine (cW _).mono ?_; rintro e w2 ⟨rfl, hb2⟩)
      go_ret
      exact ⟨rfl, HB0.out.trans ((HBR.out.trans (hb2.mono HBR.out.size)).mono HB0.out.size)⟩
    have h6b : (i : Int) < 6 := by omega
    obtain ⟨b, off, rfl, hb, hcell⟩ := HCP.out (by omega)
    obtain ⟨x, hx⟩ : ∃ x, xs[i]? = some x := ⟨_, List.getElem?_eq_getElem (by rw [← HNP.out]; exact hlt)⟩
    have hLx := HLL.out x (List.mem_of_getElem? hx)
    obtain ⟨v1, v2, v3, v4, v5, p0, p1, p2, p3, p4, p5, p6, hpr⟩ := hcell i x hx
    obtain ⟨sd, hsd⟩ : ∃ sd, sd = i + nn := ⟨_, rfl⟩
    have esd : IntKind.i64.wrap ((i : Int) + (nn : Int)) = (sd : Int) := by rw [IntKind.wrap_i64]; omega
    have cR := fun w' (hb' : Below wo.heap.size wo w') => near_any x v1 v2 v3 v4 v5 sd (by omega) hLx w' (hpr.below (hbr.trans (hb'.mono hbr.size)))
    unfold NearP at cR
    obtain ⟨q1, k1, rfl, _⟩ := id hpr.1
    obtain ⟨q2, k2, rfl, _⟩ := id hpr.2.1
    obtain ⟨q3, k3, rfl, _⟩ := id hpr.2.2.1
    obtain ⟨q4, k4, rfl, _⟩ := id hpr.2.2.2.1
    obtain ⟨q5, k5, rfl, _⟩ := id hpr.2.2.2.2
    have r0 := cell_below p0 hbr
    have r1 := cell_below p1 hbr
    have r2 := cell_below p2 hbr
    have r3 := cell_below p3 hbr
    have r4 := cell_below p4 hbr
    have r5 := cell_below p5 hbr
    have r6 := cell_below p6 hbr
    have HSD := Lib.hid hsd
    clear hcell hx hpr hLx hsd a0 a1 p0 p1 p2 p3 p4 p5 p6 hbr
    generalize x.vars.length = n1 at *
    generalize x.news.length = n2 at *
    generalize x.exs.length = n3 at *
    generalize x.sts.length = n4 at *
    generalize x.main.length = n5 at *
    generalize x.big = xbig at *
    generalize x.ptr = xptr at *
    go_wp2_with fail
    go_region_held3 (fun w' => w'.cell? ⟨w.heap.size, 0, none⟩ = some (.slice (some ⟨b, off, none⟩) np cp) ∧ w'.cell? ⟨w.heap.size, 1, none⟩ = some (.slice qn nn cn) ∧ w'.cell? ⟨b, off + i * 7, none⟩ = some (.bool xbig) ∧ w'.cell? ⟨b, off + i * 7 + 1, none⟩ = some (.int .i64 xptr) ∧ w'.cell? ⟨b, off + i * 7 + 2, none⟩ = some (.slice q1 n1 k1) ∧ w'.cell? ⟨b, off + i * 7 + 3, none⟩ = some (.slice q2 n2 k2) ∧ w'.cell? ⟨b, off + i * 7 + 4, none⟩ = some (.slice q3 n3 k3) ∧ w'.cell? ⟨b, off + i * 7 + 5, none⟩ = some (.slice q4 n4 k4) ∧ w'.cell? ⟨b, off + i * 7 + 6, none⟩ = some (.slice q5 n5 k5)) (first | exact ⟨c0, c1, r0, r1, r2, r3, r4, r5, r6⟩ | exact ⟨cell_below c0 hb8, cell_below c1 hb8, cell_below r0 hb8, cell_below r1 hb8, cell_below r2 hb8, cell_below r3 hb8, cell_below r4 hb8, cell_below r5 hb8, cell_below r6 hb8⟩) ((go_at_call 5; refine (cR _ ((Below.refl wo.heap.size wo).drew)).mono ?_; rintro e w8 ⟨v8, xs8, rfl, hI8, hl8, hle8, hb8d⟩; have hb8 : Below wo.heap.size wo w8 := ((Below.refl wo.heap.size wo).drew).trans hb8d))
    --REST
    obtain ⟨q8, c8, rfl, hm8, hk8, hc8⟩ := hI8
    obtain ⟨n8, hn8⟩ : ∃ n8, n8 = xs8.length := ⟨_, rfl⟩
    rw [← hn8] at hl8 hm8 hk8 hc8 ⊢
    have HN8 := Lib.hid hn8
    have HC8 := Lib.hid hc8
    have HLE8 := Lib.hid hle8
    have HB8 := Lib.hid (HBR.out.trans (hb8.mono HBR.out.size))
    clear hn8 hc8 hle8 hb8 hb8d c0 c1 r0 r1 r2 r3 r4 r5 r6 cR hm8 hk8 hw1
    go_wp2_with fail
    go_loopw [5] (fun v wr => CtrT n8 w8 v wr) (fun v _ => n8 - (intOf v).toNat)
    case atStart => exact ⟨0, Nat.zero_le _, rfl, Below.refl _ _⟩
    case round =>
      obtain ⟨k, hk, rfl, hbk⟩ := hrel
      obtain ⟨wk, hwk⟩ : ∃ wk, wk = wr := ⟨_, rfl⟩
      subst hwk
      have HBK := Lib.hid hbk
      by_cases hlk : k < n8
      rotate_left
      · obtain rfl : k = n8 := by omega
        clear hbk
        go_wp2_with fail
        go_roundw
        case rel => exact ⟨i + 1, by omega, by go_num, HB8.out.trans (HBK.out.mono HB8.out.size)⟩
        case measure => simp [intOf]; omega
      have hk3 : (k : Int) < (n8 : Int) := by omega
      obtain ⟨b8, o8, rfl, hb8, hcell8⟩ := HC8.out (by omega)
      obtain ⟨y, hy⟩ : ∃ y, xs8[k]? = some y := ⟨_, List.getElem?_eq_getElem (by rw [← HN8.out]; exact hlk)⟩
      have hLy := HLE8.out y (List.mem_of_getElem? hy)
      obtain ⟨v1, v2, v3, v4, v5, d0, d1, d2, d3, d4, d5, d6, hpr8⟩ := hcell8 k y hy
      have hpk := hpr8.below hbk
      obtain ⟨s1, t1, rfl, _⟩ := id hpr8.1
      obtain ⟨s2, t2, rfl, _⟩ := id hpr8.2.1
      obtain ⟨s3, t3, rfl, _⟩ := id hpr8.2.2.1
      obtain ⟨s4, t4, rfl, _⟩ := id hpr8.2.2.2.1
      obtain ⟨s5, t5, rfl, _⟩ := id hpr8.2.2.2.2
      have e0 := cell_below d0 hbk
      have e1 := cell_below d1 hbk
      have e2 := cell_below d2 hbk
      have e3 := cell_below d3 hbk
      have e4 := cell_below d4 hbk
      have e5 := cell_below d5 hbk
      have e6 := cell_below d6 hbk
      obtain ⟨m1, m2, m3, m4, m5, mst⟩ := id hLy
      have cC := copyProgram_any y.big y.ptr _ _ _ _ _ y.vars y.news y.exs y.sts y.main (by omega) (by omega) (by omega) (by omega) (by omega) (fun s hs => by have := mst s hs; exact ⟨by have := this.1; omega, by have := this.2; omega⟩) wk hpk.1 hpk.2.1 hpk.2.2.1 hpk.2.2.2.1 hpk.2.2.2.2
      unfold CopyPr at cC
      have HY := Lib.hid (And.intro hLy hpk)
      clear hcell8 hy hLy hpr8 hpk d0 d1 d2 d3 d4 d5 d6 hbk mst
      go_upto_region 11 with ((go_at_call 6; refine cC.mono ?_; rintro e wc ⟨u1, u2, u3, u4, u5, rfl, z1, z2, z3, z4, z5, hbc⟩; obtain ⟨p1, j1, rfl⟩ := z1.form; obtain ⟨p2, j2, rfl⟩ := z2.form; obtain ⟨p3, j3, rfl⟩ := z3.form; obtain ⟨p4, j4, rfl⟩ := z4.form; obtain ⟨p5, j5, rfl⟩ := z5.form))
      have Bb := below_box1 wc (.cells #[.bool y.big, .int .i64 y.ptr, .slice p1 y.vars.length j1, .slice p2 y.news.length j2, .slice p3 y.exs.length j3, .slice p4 y.sts.length j4, .slice p5 y.main.length j5] 33)
      have Ab := At.new wc #[.bool y.big, .int .i64 y.ptr, .slice p1 y.vars.length j1, .slice p2 y.news.length j2, .slice p3 y.exs.length j3, .slice p4 y.sts.length j4, .slice p5 y.main.length j5] 33
      obtain ⟨wb, hwb⟩ : ∃ wb, wc.alloc (.cells #[.bool y.big, .int .i64 y.ptr, .slice p1 y.vars.length j1, .slice p2 y.news.length j2, .slice p3 y.exs.length j3, .slice p4 y.sts.length j4, .slice p5 y.main.length j5] 33) = wb := ⟨_, rfl⟩
      rw [hwb] at Bb Ab
      rw [hwb]
      have hin : IsPr wb (.slice p1 y.vars.length j1) (.slice p2 y.news.length j2) (.slice p3 y.exs.length j3) (.slice p4 y.sts.length j4) (.slice p5 y.main.length j5) y := pr_of_copy rfl rfl rfl rfl rfl HY.out.1 (z1.bel Bb) (z2.bel Bb) (z3.bel Bb) (z4.bel Bb) (z5.bel Bb)
      obtain ⟨bx, hbx⟩ : ∃ bx, wc.heap.size = bx := ⟨_, rfl⟩
      rw [hbx] at Ab
      rw [hbx]
      have hkb := hbc.trans (Bb.mono hbc.size)
      have HKB := Lib.hid hkb
      have HIN := Lib.hid hin
      have HAB := Lib.hid Ab
      have g0 : wb.cell? ⟨bx, 0, none⟩ = some (.bool y.big) := Ab.cell 0 rfl
      have g1 : wb.cell? ⟨bx, 1, none⟩ = some (.int .i64 y.ptr) := Ab.cell 1 rfl
      have g2 : wb.cell? ⟨bx, 2, none⟩ = some (.slice p1 y.vars.length j1) := Ab.cell 2 rfl
      have g3 : wb.cell? ⟨bx, 3, none⟩ = some (.slice p2 y.news.length j2) := Ab.cell 3 rfl
      have g4 : wb.cell? ⟨bx, 4, none⟩ = some (.slice p3 y.exs.length j3) := Ab.cell 4 rfl
      have g5 : wb.cell? ⟨bx, 5, none⟩ = some (.slice p4 y.sts.length j4) := Ab.cell 5 rfl
      have g6 : wb.cell? ⟨bx, 6, none⟩ = some (.slice p5 y.main.length j5) := Ab.cell 6 rfl
      obtain ⟨bb, hbb⟩ : ∃ bb, bb = progB y := ⟨_, rfl⟩
      obtain ⟨bad, hbad⟩ : ∃ bad, bad = badI bb := ⟨_, rfl⟩
      obtain ⟨L1, hL1⟩ : ∃ L, L = ifL bb (innerL y) := ⟨_, rfl⟩
      obtain ⟨L2, hL2⟩ : ∃ L, L = ifL bb (loopsT y.sts y.sts.length) := ⟨_, rfl⟩
      obtain ⟨L3, hL3⟩ : ∃ L, L = ifL bb (kindsL y) := ⟨_, rfl⟩
      have cI := Inner_two y _ _ _ _ _ wb hin
      have cL := fun w' (hb : Below wb.heap.size wb w') => Loops_two y _ _ _ _ _ (by omega) w' (hin.below hb)
      have cK := fun w' (hb : Below wb.heap.size wb w') => Kinds_two y _ _ _ _ _ (by omega) (by omega) w' (hin.below hb)
      have cCh := fun w' (hb : Below wb.heap.size wb w') => Check_two y _ _ _ _ _ w' (hin.below hb)
      have cP := fun w' (hb : Below wk.heap.size wk w') => rProg_any y _ _ _ _ _ w' (HY.out.2.below hb)
      rw [← hbb, ← hbad, ← hL1] at cI
      rw [← hbb, ← hbad, ← hL2] at cL
      rw [← hbb, ← hbad, ← hL3] at cK
      rw [← hbb, ← hbad] at cCh
      unfold RProgP at cP
      rw [← hbb] at cP
      unfold TwoL at cI cL
      unfold TwoZ at cK
      have HLS := Lib.hid (And.intro hbb (And.intro hbad (And.intro hL1 (And.intro hL2 hL3))))
      clear hwb Bb Ab z1 z2 z3 z4 z5 hbc hkb hin hbx hbb hbad hL1 hL2 hL3 cC
      go_upto_region 12 with ((go_at_call 7; refine cI.mono ?_; rintro e wI ⟨x7, rfl, i7, hbI⟩))
      have cL1 := cL wI hbI
      have h0 := cell_below g0 hbI
      have h1 := cell_below g1 hbI
      have h2 := cell_below g2 hbI
      have h3 := cell_below g3 hbI
      have h4 := cell_below g4 hbI
      have h5 := cell_below g5 hbI
      have h6 := cell_below g6 hbI
      have HBI := Lib.hid (And.intro i7 hbI)
      clear cI cL hbI i7
      go_upto_region 13 with ((go_at_call 8; refine cL1.mono ?_; rintro e wL ⟨x9, rfl, i9, hbL⟩))
      have hbbL := HBI.out.2.trans (hbL.mono HBI.out.2.size)
      have cK1 := cK wL hbbL
      have l0 := cell_below g0 hbbL
      have l1 := cell_below g1 hbbL
      have l2 := cell_below g2 hbbL
      have l3 := cell_below g3 hbbL
      have l4 := cell_below g4 hbbL
      have l5 := cell_below g5 hbbL
      have l6 := cell_below g6 hbbL
      have HBL := Lib.hid (And.intro i9 (And.intro hbL hbbL))
      clear cL1 cK hbL hbbL i9 h0 h1 h2 h3 h4 h5 h6
      go_upto_region 14 with ((go_at_call 9; refine cK1.mono ?_; rintro e wK ⟨x11, rfl, z11, hbK⟩))
      have hbbK := HBL.out.2.2.trans (hbK.mono HBL.out.2.2.size)
      have hbkK := HKB.out.trans (hbbK.mono HKB.out.size)
      have hbkL := HKB.out.trans (HBL.out.2.2.mono HKB.out.size)
      have HKL := Lib.hid hbkL
      have HBK2 := Lib.hid (And.intro z11 (And.intro hbK (And.intro hbbK hbkK)))
      have f0 := cell_below e0 hbkK
      have f1 := cell_below e1 hbkK
      have f2 := cell_below e2 hbkK
      have f3 := cell_below e3 hbkK
      have f4 := cell_below e4 hbkK
      have f5 := cell_below e5 hbkK
      have f6 := cell_below e6 hbkK
      have cP1 := cP wK hbkK
      clear cP cK1 hbK hbbK hbkK hbkL z11
      go_upto_if 71 with (go_at_call 10; refine cP1.mono ?_; rintro e wP ⟨rfl, hbP⟩)
      have HBP := Lib.hid hbP
      clear cP1
      have hkP := HBK2.out.2.2.2.trans (hbP.mono HBK2.out.2.2.2.size)
      have cRI := fun (hb2 : bb = true) w' (hb : Below wP.heap.size wP w') => rInner_any y _ _ _ _ _ (by rw [← HLS.out.1]; exact hb2) w' ((HY.out.2.below hkP).below hb)
      have cRL := fun w' (hb : Below wP.heap.size wP w') => rLoops_any y _ _ _ _ _ (by omega) w' ((HY.out.2.below hkP).below hb)
      have cRK := fun w' (hb : Below wP.heap.size wP w') => rKinds_any y _ _ _ _ _ (by omega) (by omega) w' ((HY.out.2.below hkP).below hb)
      unfold ListP at cRI cRL cRK
      clear hbP hkP
      go_cut [13, 14, 15, 16] from 41 to 145 (fun v13 v14 v15 v16 wx => v13 = .int .i64 bad ∧ IsIs wx v14 L1 ∧ IsIs wx v15 L2 ∧ IsIs wx v16 L3 ∧ Below wP.heap.size wP wx)
      case first =>
        have q0 := cell_below f0 HBP.out
        have q1 := cell_below f1 HBP.out
        have q2 := cell_below f2 HBP.out
        have q3 := cell_below f3 HBP.out
        have q4 := cell_below f4 HBP.out
        have q5 := cell_below f5 HBP.out
        have q6 := cell_below f6 HBP.out
        clear f0 f1 f2 f3 f4 f5 f6 e0 e1 e2 e3 e4 e5 e6 g0 g1 g2 g3 g4 g5 g6 l0 l1 l2 l3 l4 l5 l6 cCh
        cases bb
        · clear cRI cRL cRK
          go_wp2_with fail
          go_meet
          case rel => exact ⟨by rw [HLS.out.2.1]; rfl, by rw [HLS.out.2.2.1]; exact isI_nil _, by rw [HLS.out.2.2.2.1]; exact isI_nil _, by rw [HLS.out.2.2.2.2]; exact isI_nil _, Below.refl _ _⟩
        · have cRI2 := fun w' hb => cRI rfl w' hb
          clear cRI
          go_wp2_with fail
          go_region_held3 (fun w' => w'.cell? ⟨b8, o8 + k * 7, none⟩ = some (.bool y.big) ∧ w'.cell? ⟨b8, o8 + k * 7 + 1, none⟩ = some (.int .i64 y.ptr) ∧ w'.cell? ⟨b8, o8 + k * 7 + 2, none⟩ = some (.slice s1 y.vars.length t1) ∧ w'.cell? ⟨b8, o8 + k * 7 + 3, none⟩ = some (.slice s2 y.news.length t2) ∧ w'.cell? ⟨b8, o8 + k * 7 + 4, none⟩ = some (.slice s3 y.exs.length t3) ∧ w'.cell? ⟨b8, o8 + k * 7 + 5, none⟩ = some (.slice s4 y.sts.length t4) ∧ w'.cell? ⟨b8, o8 + k * 7 + 6, none⟩ = some (.slice s5 y.main.length t5)) (first | exact ⟨q0, q1, q2, q3, q4, q5, q6⟩ | exact ⟨cell_below q0 hbV1, cell_below q1 hbV1, cell_below q2 hbV1, cell_below q3 hbV1, cell_below q4 hbV1, cell_below q5 hbV1, cell_below q6 hbV1⟩ | exact ⟨cell_below q0 hbV2, cell_below q1 hbV2, cell_below q2 hbV2, cell_below q3 hbV2, cell_below q4 hbV2, cell_below q5 hbV2, cell_below q6 hbV2⟩ | exact ⟨cell_below q0 hbV3, cell_below q1 hbV3, cell_below q2 hbV3, cell_below q3 hbV3, cell_below q4 hbV3, cell_below q5 hbV3, cell_below q6 hbV3⟩) (first | (go_at_call 11; refine (cRI2 _ ((Below.refl wP.heap.size wP).drew)).mono ?_; rintro e wV1 ⟨x14, rfl, i14, hbV1d⟩; have hbV1 : Below wP.heap.size wP wV1 := ((Below.refl wP.heap.size wP).drew).trans hbV1d) | (go_at_call 12; refine (cRL _ hbV1).mono ?_; rintro e wV2 ⟨x15, rfl, i15, hbV2d⟩; have hbV2 := hbV1.trans (hbV2d.mono hbV1.size)) | (go_at_call 13; refine (cRK _ hbV2).mono ?_; rintro e wV3 ⟨x16, rfl, i16, hbV3d⟩; have hbV3 := hbV2.trans (hbV3d.mono hbV2.size)))
          all_goals
            go_wp2_with fail
            go_meet
            case rel => exact ⟨by rw [HLS.out.2.1]; rfl, by rw [HLS.out.2.2.1]; exact (i14.below hbV2d).below hbV3d, by rw [HLS.out.2.2.2.1]; exact i15.below hbV3d, by rw [HLS.out.2.2.2.2]; exact i16, hbV3⟩
      case rest =>
        obtain ⟨h13, i14, i15, i16, hbx9⟩ := hcut
        subst h13
        obtain ⟨wx, hwx⟩ : ∃ w', w' = wc := ⟨_, rfl⟩
        subst hwx
        clear cRI cRL cRK f0 f1 f2 f3 f4 f5 f6
        have hKx := HBP.out.trans (hbx9.mono HBP.out.size)
        have hLx : Below wL.heap.size wL wx := HBK2.out.2.1.trans (hKx.mono HBK2.out.2.1.size)
        have hIx := HBL.out.2.1.trans (hLx.mono HBL.out.2.1.size)
        have hbbx := HBL.out.2.2.trans (hLx.mono HBL.out.2.2.size)
        have hbkx := HKB.out.trans (hbbx.mono HKB.out.size)
        have hl3 : L3.length ≤ 10000 := by
          rw [HLS.out.2.2.2.2]
          unfold ifL
          split
          · simp [kindsL]; omega
          · simp
        have z11x := HBK2.out.1.bel hKx
        have i7x := HBI.out.1.below hIx
        have i9x := HBL.out.1.below hLx
        have i11x := z11x.is (by unfold maxLen; omega)
        have cE1 := fun p : BelowBy wx => eqNums_same x7 _ L1 p.world (i7x.below p.below) (i14.below p.below)
        have cE2 := fun p : BelowBy wx => eqNums_same x9 _ L2 p.world (i9x.below p.below) (i15.below p.below)
        have cE3 := fun p : BelowBy wx => eqNums_same x11 _ L3 p.world (i11x.below p.below) (i16.below p.below)
        have cQ := fun p : BelowBy wx => eqProgram_same y _ _ _ _ _ _ _ _ _ _ p.world ((HIN.out.below hbbx).below p.below) ((HY.out.2.below hbkx).below p.below)
        have cC2 := fun p : BelowBy wx => cCh p.world (hbbx.trans (p.below.mono hbbx.size))
        unfold YesP at cE1 cE2 cE3 cQ
        have zg0 := fun p : BelowBy wx => p.cell (cell_below g0 hbbx)
        have ze0 := fun p : BelowBy wx => p.cell (cell_below e0 hbkx)
        have zg1 := fun p : BelowBy wx => p.cell (cell_below g1 hbbx)
        have ze1 := fun p : BelowBy wx => p.cell (cell_below e1 hbkx)
        have zg2 := fun p : BelowBy wx => p.cell (cell_below g2 hbbx)
        have ze2 := fun p : BelowBy wx => p.cell (cell_below e2 hbkx)
        have zg3 := fun p : BelowBy wx => p.cell (cell_below g3 hbbx)
        have ze3 := fun p : BelowBy wx => p.cell (cell_below e3 hbkx)
        have zg4 := fun p : BelowBy wx => p.cell (cell_below g4 hbbx)
        have ze4 := fun p : BelowBy wx => p.cell (cell_below e4 hbkx)
        have zg5 := fun p : BelowBy wx => p.cell (cell_below g5 hbbx)
        have ze5 := fun p : BelowBy wx => p.cell (cell_below e5 hbkx)
        have zg6 := fun p : BelowBy wx => p.cell (cell_below g6 hbbx)
        have ze6 := fun p : BelowBy wx => p.cell (cell_below e6 hbkx)
        have HX := Lib.hid (And.intro z11x (And.intro hLx hbkx))
        clear i7x i9x i11x z11x i14 i15 i16 hKx hLx hIx hbbx hbkx hbx9 cCh g0 g1 g2 g3 g4 g5 g6
        go_upto_region 18 with (fail)
        refine wp_region_quiet_below (by kernel_rfl) (by kernel_rfl) ?_
        repeat (go_big_quiet_step (first | (go_at_call 15; (with_reducible exact Calls.below_of (cC2 _))) | (go_at_call 14; (with_reducible exact Calls.below_same (cN _ _))) | (go_at_call 16; first | (with_reducible exact Calls.below_of (cE1 _)) | (with_reducible exact Calls.below_of (cE2 _)) | (with_reducible exact Calls.below_of (cE3 _))) | (go_at_call 17; (with_reducible exact Calls.below_of (cQ _)))))
        refine wpQuiet_nil ?_
        intro w18 hw'
        have hb18 : Below wx.heap.size wx w18 := by (obtain ⟨⟨_, h⟩, h2⟩ := hw'; rw [h2]; exact h)
        clear hw' cC2 cE1 cE2 cE3 cQ zg0 ze0 zg1 ze1 zg2 ze2 zg3 ze3 zg4 ze4 zg5 ze5 zg6 ze6
        have cS := numbersG_any wL.heap.size L3 x11 (by omega) w18 (HX.out.1.bel hb18)
        unfold SpoilP at cS
        have HX18 := Lib.hid (HX.out.2.1.trans (hb18.mono HX.out.2.1.size))
        clear hb18
        go_upto_region 21 with (go_at_call 18; refine cS.mono ?_; rintro e w20 ⟨rfl, hb20⟩)
        have hL20 : Below wL.heap.size wL w20 := HX18.out.trans hb20
        have cQ2 := fun p : BelowBy w20 => eqProgram_same y _ _ _ _ _ _ _ _ _ _ p.world (((HIN.out.below HBL.out.2.2).below hL20).below p.below) (((HY.out.2.below HKL.out).below hL20).below p.below)
        unfold YesP at cQ2
        have yg0 := fun p : BelowBy w20 => p.cell (cell_below l0 hL20)
        have ye0 := fun p : BelowBy w20 => p.cell (cell_below (cell_below e0 HKL.out) hL20)
        have yg1 := fun p : BelowBy w20 => p.cell (cell_below l1 hL20)
        have ye1 := fun p : BelowBy w20 => p.cell (cell_below (cell_below e1 HKL.out) hL20)
        have yg2 := fun p : BelowBy w20 => p.cell (cell_below l2 hL20)
        have ye2 := fun p : BelowBy w20 => p.cell (cell_below (cell_below e2 HKL.out) hL20)
        have yg3 := fun p : BelowBy w20 => p.cell (cell_below l3 hL20)
        have ye3 := fun p : BelowBy w20 => p.cell (cell_below (cell_below e3 HKL.out) hL20)
        have yg4 := fun p : BelowBy w20 => p.cell (cell_below l4 hL20)
        have ye4 := fun p : BelowBy w20 => p.cell (cell_below (cell_below e4 HKL.out) hL20)
        have yg5 := fun p : BelowBy w20 => p.cell (cell_below l5 hL20)
        have ye5 := fun p : BelowBy w20 => p.cell (cell_below (cell_below e5 HKL.out) hL20)
        have yg6 := fun p : BelowBy w20 => p.cell (cell_below l6 hL20)
        have ye6 := fun p : BelowBy w20 => p.cell (cell_below (cell_below e6 HKL.out) hL20)
        have H20 := Lib.hid (HKL.out.trans (hL20.mono HKL.out.size))
        clear cS hb20 hL20 e0 e1 e2 e3 e4 e5 e6 l0 l1 l2 l3 l4 l5 l6
        refine wp_region_quiet_below (by kernel_rfl) (by kernel_rfl) ?_
        repeat (go_big_quiet_step ((go_at_call 17; (with_reducible exact Calls.below_of (cQ2 _)))))
        refine wpQuiet_nil ?_
        intro w21 hw'
        have hb21 : Below w20.heap.size w20 w21 := by (obtain ⟨⟨_, h⟩, h2⟩ := hw'; rw [h2]; exact h)
        clear hw' cQ2
        have HF : Hid (Below w8.heap.size w8 w21) := Lib.hid (HBK.out.trans ((H20.out.trans (hb21.mono H20.out.size)).mono HBK.out.size))
        clear hb21
        go_wp2_with fail
        try rw [succI k (by omega)]
        go_roundw
        case rel => exact ⟨k + 1, by omega, by first | rfl | go_num, HF.out⟩
        case measure => simp [intOf]; omega
end Go.Proofs.YtncdbjflfhfddaaGreat
