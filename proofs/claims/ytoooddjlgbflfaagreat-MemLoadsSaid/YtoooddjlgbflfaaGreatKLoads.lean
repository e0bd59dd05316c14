/- MemLoads: its walk. -/
import Derived.Test.YtoooddjlgbflfaaGreatKPts
import Derived.Test.YtoooddjlgbflfaaGreatKMach
import Derived.Test.YtoooddjlgbflfaaGreatKWakes
import Derived.Deep.Cut
import Derived.Deep.CutRange
namespace Go.Proofs.YtoooddjlgbflfaaGreat
open Go.ChangeShapes Go.WideShapes Go.ChangeAt Go.RowKit Go.Joins Go.Deep
set_option linter.unusedVariables false

def RelNb (m : Nat) (w0 : World) (v : Value) (wr : World) : Prop := ∃ q : Nat, q ≤ m ∧ v = .int .i64 (q : Nat) ∧ Below w0.heap.size w0 wr
/-- what mem.Load tells of anything -/
def CanL (pp k : Int) (m : List BK) (p : SC) : Prop := mayA pp ∧ (1 ≤ k ∧ k ≤ 7) ∧ hasM m p = true
theorem Load_all (big : Bool) (pp k : Int) (q : Option Addr) (len cap : Nat) (m : List BK) (p : SC) : ∃ (R : SC) (bad ev : Int), (∀ w, IsMem w q len m → Calls Tryz.prog 12 #[.agg #[.bool big, .int .i64 pp], .slice q len cap, scV p, .int .i64 k] w (LoadPost R bad ev w)) ∧
    ((CanL pp k m p ∧ ev = 0 ∧ loadS big pp k m p = (R, bad)) ∨ (¬ CanL pp k m p ∧ ev = 1 ∧ R = noS ∧ bad = 0)) := by
  by_cases h : CanL pp k m p
  · exact ⟨(loadS big pp k m p).1, (loadS big pp k m p).2, 0, fun w hx => Load_yes big pp k q len cap m p h.1 h.2.1 h.2.2 w hx, Or.inl ⟨h, rfl, rfl⟩⟩
  · exact ⟨noS, 0, 1, fun w hx => Load_no big pp k q len cap m p h w hx, Or.inr ⟨h, rfl, rfl, rfl⟩⟩
theorem keep6b {w w' : World} {p0 p1 p2 p3 p4 p5 : Addr} {v0 v1 v2 v3 v4 v5 : Value} (h : w.cell? p0 = some v0 ∧ w.cell? p1 = some v1 ∧ w.cell? p2 = some v2 ∧ w.cell? p3 = some v3 ∧ w.cell? p4 = some v4 ∧ w.cell? p5 = some v5) (hb : Below w.heap.size w w') : w'.cell? p0 = some v0 ∧ w'.cell? p1 = some v1 ∧ w'.cell? p2 = some v2 ∧ w'.cell? p3 = some v3 ∧ w'.cell? p4 = some v4 ∧ w'.cell? p5 = some v5 :=
  ⟨cell_below h.1 hb, cell_below h.2.1 hb, cell_below h.2.2.1 hb, cell_below h.2.2.2.1 hb, cell_below h.2.2.2.2.1 hb, cell_below h.2.2.2.2.2 hb⟩
/-- a result's box, and what goes wrong -/
def BoxOut (R : SC) (bad ev : Int) (v11 v12 v13 : Value) (w0 wx : World) : Prop := ∃ X, v11 = .pointer (some ⟨X, 0, none⟩) ∧ v12 = .int .i64 bad ∧ v13 = .int .i64 ev ∧ w0.heap.size ≤ X ∧ At wx X #[.bool R.p, .int .i64 R.n, .int .i64 R.b, .int .i64 R.o] 40 ∧ Below w0.heap.size w0 wx
set_option maxRecDepth 100000 in
set_option maxHeartbeats 12800000 in
theorem loads_any (pm ps pn pa : Option Addr) (lm cm ls cs ln cn la ca : Nat) (ms : List MM) (ss : List SC) (xa : List (Bool × Int)) (h2 : ls ≤ 140737488355328) (h3 : ln ≤ 140737488355328) (h4 : la ≤ 140737488355328) (h5 : lm ≤ 140737488355328) (w : World) (hin : InMems w pm lm ms) (hle : ∀ i, i < lm → LeMem 140737488355328 (ms.getD i default)) (hss : InScs w ps ls cs ss) (hxa : IsAbis w pa la ca xa) :
    Calls Tryz.prog 3 #[.agg #[.slice pm lm cm, .slice ps ls cs, .slice pn ln cn, .slice pa la ca]] w fun e w' => e = .returned (.bool true) ∧ Below w.heap.size w w' := by
  have dK := At.new w #[.slice pm lm cm, .slice ps ls cs, .slice pn ln cn, .slice pa la ca] 27
  have hb0 := below_box1 w (.cells #[.slice pm lm cm, .slice ps ls cs, .slice pn ln cn, .slice pa la ca] 27)
  have cH := fun w hin => heavy9_any pm ps pn pa lm cm ls cs ln cn la ca ms h2 h3 h4 h5 w hin hle
  have cN := fun x w => num9_any x w
  have cW := fun w => wakes9_any w
  have HIN := Lib.hid hin
  have HSS := Lib.hid hss
  have HXA := Lib.hid hxa
  clear hin hss hxa hle
  go_enter Tryz.func3, Tryz.ntmps3
  go_wp2_with fail
  refine (cH _ (HIN.out.below hb0)).mono ?_
  rintro e w1 ⟨hv, rfl, hlight, hb1⟩
  replace dK := At.below' hb1 dK
  replace hb0 := hb0.trans (hb1.mono hb0.size)
  clear hb1 cH h2 h3 h4 h5
  cases hv
  · have h7 := hlight rfl
    have HL7 := Lib.hid h7.2
    have hls : ls ≤ 700 := by omega
    have hln : ln ≤ 700 := by omega
    have hla : la ≤ 300 ∨ 300 < la := by omega
    have k3 : w1.cell? ⟨w.heap.size, 3, none⟩ = some (.slice pa la ca) := dK.cell 3 rfl
    have hcM := machines7_any pa la ca xa (by omega) w1 (HXA.out.below hb0)
    clear hlight h7 hla
    go_wp2_with fail
    refine hcM.mono ?_
    rintro e w2 ⟨g, m, cap, fa, rfl, hm4, hm6, hgge, hM, hb1⟩
    replace dK := At.below' hb1 dK
    replace hb0 := hb0.trans (hb1.mono hb0.size)
    have HMa := Lib.hid hM
    clear hb1 k3 hcM hM
    go_wp2_with fail
    go_loopw [4] (fun v wr => RelNb lm w2 v wr) (fun v _ => lm - (intOf v).toNat)
    case atStart => exact ⟨0, by omega, rfl, Below.refl _ _⟩
    case round =>
      obtain ⟨i, hi, rfl, hbr⟩ := hrel
      have dKr := At.below' hbr dK
      have k0 : wr.cell? ⟨w.heap.size, 0, none⟩ = some (.slice pm lm cm) := dKr.cell 0 rfl
      by_cases hlt : i < lm ∧ i < 5
      · obtain ⟨hlt1, hlt2⟩ := hlt
        have hi3 : (i : Int) < (lm : Int) := by omega
        have hi5 : (i : Int) < 5 := by omega
        obtain ⟨bm, om, rfl, hbm, hcm⟩ := HIN.out.2 (by omega)
        obtain ⟨z0, hmem⟩ := hcm i hlt1
        have hb00 := hb0.trans (hbr.mono hb0.size)
        have z1 := cell_below z0 hb00
        have hmemL := HL7.out i hlt1
        have hisM := (hmem.below hb00).isMem (hmemL.mono (by omega))
        generalize hMS : ms.getD i default = mi at *
        obtain ⟨mq, mc, mm⟩ := mi
        dsimp only at z1 hisM
        obtain ⟨w3, hw3⟩ : ∃ w3, w3 = wr := ⟨_, rfl⟩
        rw [← hw3] at hisM hbr dKr k0 z1 hb00 ⊢
        have HI := Lib.hid hisM
        have HDK := Lib.hid dKr
        have HB := Lib.hid hbr
        have HMi := Lib.hid (HMa.out.below hbr)
        have HZ := Lib.hid z1
        have HB36 : Hid (Below w3.heap.size w3 w3) := Lib.hid (Below.refl _ _)
        clear hw3 hcm z0 hmem hmemL hisM hMS dKr hbr
        generalize hLM : mm.length = l at *
        have HLM := Lib.hid hLM
        clear hLM
        go_wp2_with fail
        refine (copyBlocks_any mq l mc mm w3 HI.out).mono ?_
        rintro e w4 ⟨q2, cap2, x, rfl, hx, hdat, hcp, hbS⟩
        have HX := Lib.hid hx
        have HDAT := Lib.hid hdat
        clear k0 z1 hx hdat
        replace HDK := Lib.hid (At.below' hbS HDK.out)
        replace HI := Lib.hid (HI.out.below hbS)
        replace HMi := Lib.hid (HMi.out.below hbS)
        replace HB := Lib.hid (HB.out.trans (hbS.mono HB.out.size))
        replace HZ := Lib.hid (cell_below HZ.out hbS)
        replace HB36 := Lib.hid (HB36.out.trans (hbS.mono HB36.out.size))
        clear hbS
        have k0 : w4.cell? ⟨w.heap.size, 0, none⟩ = some (.slice (some ⟨bm, om, none⟩) lm cm) := HDK.out.cell 0 rfl
        have z1 := HZ.out
        go_wp2_with fail
        refine (rMem_any mq l mc mm w4 HI.out).mono ?_
        rintro e w5 ⟨rfl, hbS⟩
        clear k0 z1
        replace HDK := Lib.hid (At.below' hbS HDK.out)
        replace HI := Lib.hid (HI.out.below hbS)
        replace HMi := Lib.hid (HMi.out.below hbS)
        replace HX := Lib.hid (HX.out.below hbS)
        replace HB := Lib.hid (HB.out.trans (hbS.mono HB.out.size))
        replace HZ := Lib.hid (cell_below HZ.out hbS)
        replace HB36 := Lib.hid (HB36.out.trans (hbS.mono HB36.out.size))
        clear hbS
        have hck := kCheck_any q2 l cap2 x w5 HX.out
        rw [mayM_dat HDAT.out] at hck
        go_wp2_with fail
        refine hck.mono ?_
        rintro e w6 ⟨rfl, hbS⟩
        clear hck
        replace HDK := Lib.hid (At.below' hbS HDK.out)
        replace HI := Lib.hid (HI.out.below hbS)
        replace HMi := Lib.hid (HMi.out.below hbS)
        replace HX := Lib.hid (HX.out.below hbS)
        replace HB := Lib.hid (HB.out.trans (hbS.mono HB.out.size))
        replace HZ := Lib.hid (cell_below HZ.out hbS)
        replace HB36 := Lib.hid (HB36.out.trans (hbS.mono HB36.out.size))
        clear hbS
        obtain ⟨b, hb⟩ : ∃ b, b = mayM mm := ⟨_, rfl⟩
        rw [← hb]
        have HBM := Lib.hid hb
        clear hb
        have tb : (okI b == 0) = b := by cases b <;> rfl
        have tb2 : ((!(okI b == 0)) == b) = false := by cases b <;> rfl
        have tb2 : ((!(okI b == 0)) == b) = false := by cases b <;> rfl
        have dk0 : w6.cell? ⟨w.heap.size, 0, none⟩ = some (.slice (some ⟨bm, om, none⟩) lm cm) := HDK.out.cell 0 rfl
        have dk1 : w6.cell? ⟨w.heap.size, 1, none⟩ = some (.slice ps ls cs) := HDK.out.cell 1 rfl
        have dk2 : w6.cell? ⟨w.heap.size, 2, none⟩ = some (.slice pn ln cn) := HDK.out.cell 2 rfl
        have dk3 : w6.cell? ⟨w.heap.size, 3, none⟩ = some (.slice pa la ca) := HDK.out.cell 3 rfl
        go_wp2_with ((go_at_call 9; (with_reducible refine (cN _ _).mono ?_); rintro e w' ⟨rfl, rfl⟩))
        clear dk1 dk2 dk3 tb tb2
        refine (pointers9_any (some ⟨bm, om, none⟩) ps pn pa lm cm ls cs ln cn la ca ss hls hln q2 l cap2 x w6 ((HSS.out.below hb00).below HB36.out) HX.out).mono ?_
        rintro e w7 ⟨gp, np, capp, Lp, rfl, hn2, hn25, hgp, hrow, hbS⟩
        clear dk0
        replace HDK := Lib.hid (At.below' hbS HDK.out)
        replace HI := Lib.hid (HI.out.below hbS)
        replace HMi := Lib.hid (HMi.out.below hbS)
        replace HX := Lib.hid (HX.out.below hbS)
        replace HB := Lib.hid (HB.out.trans (hbS.mono HB.out.size))
        replace HZ := Lib.hid (cell_below HZ.out hbS)
        replace HB36 := Lib.hid (HB36.out.trans (hbS.mono HB36.out.size))
        clear hbS
        have HR := Lib.hid hrow
        clear hrow
        go_wp2_with fail
        go_loopw [8] (fun v wr => RelNb np w7 v wr) (fun v _ => np - (intOf v).toNat)
        case atStart => exact ⟨0, by omega, rfl, Below.refl _ _⟩
        case round =>
          obtain ⟨k, hk, rfl, hbk⟩ := hrel
          by_cases hkn : k < np
          · have hk3 : (k : Int) < (np : Int) := by omega
            obtain ⟨w8, hw8⟩ : ∃ w8, w8 = wr := ⟨_, rfl⟩
            rw [← hw8] at hbk ⊢
            have HBK := Lib.hid hbk
            clear hw8 hbk
            go_wp2_with fail
            go_loopw [9] (fun v wr => RelNb 12 w8 v wr) (fun v _ => 12 - (intOf v).toNat)
            case atStart => exact ⟨0, by omega, rfl, Below.refl _ _⟩
            case round =>
              obtain ⟨kd, hkd, rfl, hbd⟩ := hrel
              by_cases hk12 : kd < 12
              · have hk11 : (kd : Int) ≤ 11 := by omega
                have hbA := HBK.out.trans (hbd.mono HBK.out.size)
                obtain ⟨r, hr⟩ : ∃ r, r = (k + kd) % m := ⟨_, rfl⟩
                have hrm : r < m := by rw [hr]; exact Nat.mod_lt _ (by omega)
                have er : ((k : Int) + (kd : Int)) % (m : Int) = (r : Nat) := by rw [hr, Int.natCast_emod, Int.natCast_add]
                have er2 : ((k : Int) + (kd : Int)).tmod (m : Int) = (r : Nat) := by rw [Int.tmod_eq_emod_of_nonneg (by omega)]; exact er
                have hrm2 : (r : Int) < (m : Int) := by omega
                have hm0 : ¬ ((m : Int) = 0) := by omega
                have hm00 : ((m : Int) == 0) = false := by rw [beq_eq_false_iff_ne]; omega
                obtain ⟨m0, m1⟩ := (HMi.out.below hbA).2.2 r hrm
                generalize fa.getD r (false, 0) = mac at *
                obtain ⟨big, pp⟩ := mac
                dsimp only at m0 m1
                have hS := (HR.out.below hbA).2 k hkn
                generalize Lp.getD k default = pt0 at *
                have hload := Load_all big pp (kd : Nat) q2 l cap2 x pt0
                have hXw := HX.out.below hbA
                have hcan : CanL pp (kd : Nat) x pt0 ↔ (b = true ∧ mayA pp ∧ (1 ≤ (kd : Int) ∧ (kd : Int) ≤ 7) ∧ (mayS 7 pt0 && decide (pt0.b < (l : Int))) = true) := by
                  unfold CanL hasM
                  rw [HBM.out, ← mayM_dat HDAT.out, HX.out.2.1]
                  simp only [Bool.and_eq_true]
                  constructor
                  · rintro ⟨p1, p2, p3, p4⟩; exact ⟨p3, p1, p2, p4⟩
                  · rintro ⟨p3, p1, p2, p4⟩; exact ⟨p1, p2, p3, p4⟩
                obtain ⟨⟨rp, rn, rb, ro⟩, bad, ev, cL, hcase⟩ := hload
                unfold LoadPost scA at cL
                dsimp only at cL
                have hP := fun w => rPointer_any q2 l cap2 pt0 w
                have hRL := fun w h hc => rLoad_any big pp (kd : Nat) q2 l cap2 x pt0 (h : CanL pp (kd : Nat) x pt0).1 h.2.1 h.2.2 w hc
                obtain ⟨p0, p1, p2, p3⟩ := pt0
                simp only [scV_eq] at cL hP hRL
                obtain ⟨s0, s1, s2, s3⟩ := hS
                dsimp only at s0 s1 s2 s3 hP
                have HCAN := Lib.hid hcan
                have HCASE := Lib.hid hcase
                have HRL := Lib.hid hRL
                have dAb := At.new wr #[.bool big, .int .i64 pp] 38
                have hb1 := below_box1 wr (.cells #[.bool big, .int .i64 pp] 38)
                have hMx := HX.out.below hbA
                have HMx := Lib.hid (hMx.below hb1)
                have HBD := Lib.hid (hbd.trans (hb1.mono hbd.size))
                have HS := Lib.hid (And.intro (cell_below s0 hb1) (And.intro (cell_below s1 hb1) (And.intro (cell_below s2 hb1) (cell_below s3 hb1))))
                clear hr hcan hcase hRL hXw hMx hbA hbd
                go_upto_region 19 with (fail)
                clear m0 m1 s0 s1 s2 s3
                generalize wr.alloc (.cells #[.bool big, .int .i64 pp] 38) = w9 at *
                generalize wr.heap.size = AX at *
                have a0 : w9.cell? ⟨AX, 0, none⟩ = some (.bool big) := dAb.cell 0 rfl
                have a1 : w9.cell? ⟨AX, 1, none⟩ = some (.int .i64 pp) := dAb.cell 1 rfl
                obtain ⟨s0, s1, s2, s3⟩ := HS.out
                have HDA := Lib.hid dAb
                clear dAb hb1
                go_cut [11, 12, 13] from 73 to 84 (fun v11 v12 v13 wx => BoxOut ⟨rp, rn, rb, ro⟩ bad ev v11 v12 v13 w9 wx)
                case first =>
                  have hbZ := (below_box1 w9 (.cells #[.bool false, .int .i64 0, .int .i64 0, .int .i64 0] 40)).drew
                  have za0 := cell_below a0 hbZ
                  have za1 := cell_below a1 hbZ
                  have zs0 := cell_below s0 hbZ
                  have zs1 := cell_below s1 hbZ
                  have zs2 := cell_below s2 hbZ
                  have zs3 := cell_below s3 hbZ
                  have hbY := (Below.refl w9.heap.size w9).drew
                  have ya0 := cell_below a0 hbY
                  have ya1 := cell_below a1 hbY
                  have ys0 := cell_below s0 hbY
                  have ys1 := cell_below s1 hbY
                  have ys2 := cell_below s2 hbY
                  have ys3 := cell_below s3 hbY
                  clear hbZ hbY
                  go_region_with (first
                    | (go_at_call 12; (with_reducible refine (cL _ (HMx.out.below ((Below.refl w9.heap.size w9).drew))).mono ?_); rintro e wL ⟨rfl, hbL⟩)
                    | (go_at_call 12; (with_reducible refine (cL _ (HMx.out.below ((below_box1 w9 (.cells #[.bool false, .int .i64 0, .int .i64 0, .int .i64 0] 40)).drew))).mono ?_); rintro e wL ⟨rfl, hbL⟩
                       have dZ : At wL w9.heap.size #[.bool false, .int .i64 0, .int .i64 0, .int .i64 0] 40 := At.below' hbL ((At.new w9 #[.bool false, .int .i64 0, .int .i64 0, .int .i64 0] 40).drew)
                       have st := store4 dZ (.bool rp) (.int .i64 rn) (.int .i64 rb) (.int .i64 ro)
                       have E1 := store4_at dZ (.bool rp) (.int .i64 rn) (.int .i64 rb) (.int .i64 ro)))
                  all_goals
                    first
                      | (have hbB : Below w9.heap.size w9 wL := (((Below.refl w9.heap.size w9).drew).trans hbL)
                         go_wp2
                         go_meet
                         case rel => exact ⟨wL.heap.size, rfl, rfl, rfl, hbB.size, At.new wL _ _, hbB.alloc hbB.size _⟩)
                      | (have hbB : Below w9.heap.size w9 wL := (((below_box1 w9 (.cells #[.bool false, .int .i64 0, .int .i64 0, .int .i64 0] 40)).drew).trans (hbL.mono (by simp)))
                         have E2 := store4_below hbB (Nat.le_refl w9.heap.size) (.bool rp) (.int .i64 rn) (.int .i64 rb) (.int .i64 ro)
                         have HE1 := Lib.hid E1
                         have HE2 := Lib.hid E2
                         clear E1 E2 st dZ
                         go_wp2
                         go_meet
                         case rel => exact ⟨w9.heap.size, rfl, rfl, rfl, Nat.le_refl _, HE1.out, HE2.out⟩)
                case rest =>
                  obtain ⟨X, rfl, rfl, rfl, hXge, dS, hbR⟩ := hcut
                  replace HMx := Lib.hid (HMx.out.below hbR)
                  replace HBD := Lib.hid (HBD.out.trans (hbR.mono HBD.out.size))
                  replace HDA := Lib.hid (At.below' hbR HDA.out)
                  replace a0 := cell_below a0 hbR
                  replace a1 := cell_below a1 hbR
                  replace s0 := cell_below s0 hbR
                  replace s1 := cell_below s1 hbR
                  replace s2 := cell_below s2 hbR
                  replace s3 := cell_below s3 hbR
                  have HDS := Lib.hid dS
                  clear dS HS hXge hbR cL
                  have HS := Lib.hid (And.intro s0 (And.intro s1 (And.intro s2 s3)))
                  clear a0 a1 s0 s1 s2 s3
                  go_upto_region 21 with (fail)
                  have HX0 := Lib.hid HDS.out.lt
                  have HBD0 := Lib.hid HBD.out.size
                  have dW := At.new wc #[.bool false, .int .i64 0, .int .i64 0, .int .i64 0] 40
                  have hbw := below_box1 wc (.cells #[.bool false, .int .i64 0, .int .i64 0, .int .i64 0] 40)
                  replace HMx := Lib.hid (HMx.out.below hbw)
                  replace HBD := Lib.hid (HBD.out.trans (hbw.mono HBD.out.size))
                  replace HDA := Lib.hid (At.below' hbw HDA.out)
                  replace HDS := Lib.hid (At.below' hbw HDS.out)
                  replace HS := Lib.hid (And.intro (cell_below HS.out.1 hbw) (And.intro (cell_below HS.out.2.1 hbw) (And.intro (cell_below HS.out.2.2.1 hbw) (cell_below HS.out.2.2.2 hbw))))
                  have HDW := Lib.hid dW
                  have HXX := Lib.hid (And.intro HX0.out HBD0.out)
                  clear hbw dW HX0 HBD0
                  generalize wc.alloc (.cells #[.bool false, .int .i64 0, .int .i64 0, .int .i64 0] 40) = wd at *
                  generalize wc.heap.size = XW at *
                  have cA := fun w => Abi_any big pp w
                  have cK := fun w => Kind_any (kd : Nat) w
                  have hcan3 : CanL pp (kd : Nat) x ⟨p0, p1, p2, p3⟩ ↔ (b = true ∧ (pp == 2 || pp == 4) = true ∧ upTo (kd : Nat) 1 7 = true ∧ (mayS 7 ⟨p0, p1, p2, p3⟩ && decide (p2 < (l : Int))) = true) := by
                    rw [HCAN.out]
                    unfold mayA
                    simp [upTo]
                  have HCAN3 := Lib.hid hcan3
                  clear hcan3 HCAN
                  generalize hAb : (pp == 2 || pp == 4) = ab at *
                  generalize hKb : upTo (kd : Nat) 1 7 = kb at *
                  generalize hPb : (mayS 7 ⟨p0, p1, p2, p3⟩ && decide (p2 < (l : Int))) = pb at *
                  clear hAb hKb hPb
                  go_cut [102] from 86 to 101 (fun v wx => ∃ c : Bool, v = .bool c ∧ (c = true ↔ CanL pp (kd : Nat) x ⟨p0, p1, p2, p3⟩) ∧ Below wd.heap.size wd wx)
                  case first =>
                    have a0 := HDA.out.cell 0 rfl
                    have a1 := HDA.out.cell 1 rfl
                    obtain ⟨s0, s1, s2, s3⟩ := HS.out
                    cases b
                    · go_wp2_with fail
                      go_meet
                      case rel => exact ⟨false, rfl, by rw [HCAN3.out]; simp, Below.refl _ _⟩
                    · cases ab
                      · go_wp2_with (first | (go_at_call 13; (with_reducible refine (cA _).mono ?_); rintro e wa ⟨rfl, hba⟩; replace s0 := cell_below s0 hba; replace s1 := cell_below s1 hba; replace s2 := cell_below s2 hba; replace s3 := cell_below s3 hba) | (go_at_call 14; (with_reducible refine (cK _).mono ?_); rintro e wk ⟨rfl, rfl⟩) | (go_at_call 15; (with_reducible refine (hP _).mono ?_); rintro e wp ⟨rfl, hbp⟩))
                        go_meet
                        case rel => exact ⟨false, rfl, by rw [HCAN3.out]; simp, hba⟩
                      · cases kb
                        · go_wp2_with (first | (go_at_call 13; (with_reducible refine (cA _).mono ?_); rintro e wa ⟨rfl, hba⟩; replace s0 := cell_below s0 hba; replace s1 := cell_below s1 hba; replace s2 := cell_below s2 hba; replace s3 := cell_below s3 hba) | (go_at_call 14; (with_reducible refine (cK _).mono ?_); rintro e wk ⟨rfl, rfl⟩) | (go_at_call 15; (with_reducible refine (hP _).mono ?_); rintro e wp ⟨rfl, hbp⟩))
                          go_meet
                          case rel => exact ⟨false, rfl, by rw [HCAN3.out]; simp, hba⟩
                        · go_wp2_with (first | (go_at_call 13; (with_reducible refine (cA _).mono ?_); rintro e wa ⟨rfl, hba⟩; replace s0 := cell_below s0 hba; replace s1 := cell_below s1 hba; replace s2 := cell_below s2 hba; replace s3 := cell_below s3 hba) | (go_at_call 14; (with_reducible refine (cK _).mono ?_); rintro e wk ⟨rfl, rfl⟩) | (go_at_call 15; (with_reducible refine (hP _).mono ?_); rintro e wp ⟨rfl, hbp⟩))
                          go_meet
                          case rel => exact ⟨pb, rfl, by rw [HCAN3.out]; simp, hba.trans (hbp.mono hba.size)⟩
                  case rest =>
                    obtain ⟨c, rfl, hc, hbw⟩ := hcut
                    replace HMx := Lib.hid (HMx.out.below hbw)
                    replace HBD := Lib.hid (HBD.out.trans (hbw.mono HBD.out.size))
                    replace HDA := Lib.hid (At.below' hbw HDA.out)
                    replace HDS := Lib.hid (At.below' hbw HDS.out)
                    replace HDW := Lib.hid (At.below' hbw HDW.out)
                    replace HS := Lib.hid (And.intro (cell_below HS.out.1 hbw) (And.intro (cell_below HS.out.2.1 hbw) (And.intro (cell_below HS.out.2.2.1 hbw) (cell_below HS.out.2.2.2 hbw))))
                    clear hbw cA cK hP HCAN3
                    have HC := Lib.hid hc
                    clear hc
                    go_upto_if 102 with (fail)
                    go_cut [14, 16] from 103 to 113 (fun v14 v16 wx => v14 = .int .i64 ev ∧ v16 = .int .i64 bad ∧ At wx X #[.bool rp, .int .i64 rn, .int .i64 rb, .int .i64 ro] 40 ∧ At wx XW #[.bool rp, .int .i64 rn, .int .i64 rb, .int .i64 ro] 40 ∧ Below w8.heap.size w8 wx)
                    case first =>
                      cases c
                      · obtain ⟨_, rfl, hR, rfl⟩ : ¬ CanL pp (kd : Nat) x ⟨p0, p1, p2, p3⟩ ∧ ev = 1 ∧ (⟨rp, rn, rb, ro⟩ : SC) = noS ∧ bad = 0 := HCASE.out.resolve_left (fun h => absurd (HC.out.2 h.1) (by simp))
                        cases hR
                        go_wp2_with fail
                        go_meet
                        case rel => exact ⟨rfl, rfl, HDS.out, HDW.out, HBD.out⟩
                      · have hcan := HC.out.1 rfl
                        obtain ⟨_, rfl, hLS⟩ : CanL pp (kd : Nat) x ⟨p0, p1, p2, p3⟩ ∧ ev = 0 ∧ loadS big pp (kd : Nat) x ⟨p0, p1, p2, p3⟩ = (⟨rp, rn, rb, ro⟩, bad) := HCASE.out.resolve_right (fun h => absurd hcan h.1)
                        have hRl := fun w => HRL.out w hcan
                        rw [hLS] at hRl
                        unfold RLoadPost scA at hRl
                        dsimp only at hRl
                        have a0 := HDA.out.cell 0 rfl
                        have a1 := HDA.out.cell 1 rfl
                        obtain ⟨s0, s1, s2, s3⟩ := HS.out
                        clear hLS hcan
                        go_upto_region 23 with (fail)
                        go_region_with ((go_at_call 16; (with_reducible refine (hRl _ (HMx.out.below ((Below.refl wc.heap.size wc).drew))).mono ?_); rintro e wL ⟨rfl, hbL⟩; have dZ : At wL XW #[.bool false, .int .i64 0, .int .i64 0, .int .i64 0] 40 := At.below' hbL (HDW.out.drew); have st := store4 dZ (.bool rp) (.int .i64 rn) (.int .i64 rb) (.int .i64 ro); have E1 := store4_at dZ (.bool rp) (.int .i64 rn) (.int .i64 rb) (.int .i64 ro)))
                        all_goals
                          have hbB : Below w8.heap.size w8 wL := (HBD.out.drew).trans (hbL.mono HBD.out.size)
                          have E2 := store4_below hbB HXX.out.2 (.bool rp) (.int .i64 rn) (.int .i64 rb) (.int .i64 ro)
                          have E3 := ((At.below' hbL (HDS.out.drew)).below (store4_below (Below.refl (X + 1) wL) HXX.out.1 (.bool rp) (.int .i64 rn) (.int .i64 rb) (.int .i64 ro)) (Nat.lt_succ_self X))
                          have HE1 := Lib.hid E1
                          have HE2 := Lib.hid E2
                          have HE3 := Lib.hid E3
                          clear E1 E2 E3 st dZ
                          go_wp2_with fail
                          go_meet
                          case rel => exact ⟨rfl, rfl, HE3.out, HE1.out, HE2.out⟩
                    case rest =>
                      obtain ⟨rfl, rfl, dX, dW, hbw⟩ := hcut
                      have x0 := dX.cell 0 rfl
                      have x1 := dX.cell 1 rfl
                      have x2 := dX.cell 2 rfl
                      have x3 := dX.cell 3 rfl
                      have y0 := dW.cell 0 rfl
                      have y1 := dW.cell 1 rfl
                      have y2 := dW.cell 2 rfl
                      have y3 := dW.cell 3 rfl
                      have hNE := fun w => neq_sc' rp rn rb ro rp rn rb ro w
                      rw [eqS_refl] at hNE
                      have hee : (ev != ev) = false := by simp
                      have hbb2 : (bad != bad) = false := by simp
                      have HBW := Lib.hid hbw
                      clear dX dW hbw HDS HDW HDA HS HMx HBD HCASE HRL HC HXX
                      go_wp2_with (go_at_call 9; (with_reducible refine (cN _ _).mono ?_); rintro e w' ⟨rfl, rfl⟩)
                      go_roundw
                      case rel => exact ⟨kd + 1, by omega, by go_num, HBW.out⟩
                      case measure => (simp [intOf]; try omega)
              · have hk11 : decide ((kd : Int) ≤ 11) = false := by simp; omega
                have hb9 := HBK.out.trans (hbd.mono HBK.out.size)
                clear hbd
                go_wp2_with fail
                go_roundw
                case rel => exact ⟨k + 1, by omega, by go_num, hb9⟩
                case measure => (simp [intOf]; try omega)
          · have hkn3 : decide ((k : Int) < (np : Int)) = false := by simp; omega
            have k0 : wr.cell? ⟨w.heap.size, 0, none⟩ = some (.slice (some ⟨bm, om, none⟩) lm cm) := (At.below' hbk HDK.out).cell 0 rfl
            have z1 := cell_below HZ.out hbk
            have hEq := eqBlocks_yes q2 l cap2 x mq mc mm wr (HX.out.below hbk) (HI.out.below hbk) HDAT.out
            have HB9 := Lib.hid (HB.out.trans (hbk.mono HB.out.size))
            clear hbk
            go_wp2_with fail
            refine hEq.mono ?_
            rintro e wE ⟨rfl, hbE⟩
            replace HB9 := Lib.hid (HB9.out.trans (hbE.mono HB9.out.size))
            clear hEq k0 z1 hbE
            go_wp2_with fail
            go_roundw
            case rel => exact ⟨i + 1, by omega, by go_num, HB9.out⟩
            case measure => (simp [intOf]; try omega)
      · have hcase : ¬ i < lm ∨ (i < lm ∧ ¬ i < 5) := by
          by_cases h1 : i < lm
          · exact Or.inr ⟨h1, fun h2 => hlt ⟨h1, h2⟩⟩
          · exact Or.inl h1
        have hb9 := hb0.trans (hbr.mono hb0.size)
        clear hlt hbr
        rcases hcase with hc1 | ⟨hc1, hc2⟩
        · have t1 : decide ((i : Int) < (lm : Int)) = false := by simp; omega
          go_wp2_with fail
          refine (cW _).mono ?_
          rintro e w3 ⟨rfl, hb3⟩
          go_wp2
          go_ret
          exact ⟨rfl, hb9.trans (hb3.mono hb9.size)⟩
        · have t1 : (i : Int) < (lm : Int) := by omega
          have t2 : decide ((i : Int) < 5) = false := by simp; omega
          go_wp2_with fail
          refine (cW _).mono ?_
          rintro e w3 ⟨rfl, hb3⟩
          go_wp2
          go_ret
          exact ⟨rfl, hb9.trans (hb3.mono hb9.size)⟩
  · have h := hlight
    clear h
    go_wp2
    go_ret
    exact ⟨rfl, hb0⟩
end Go.Proofs.YtoooddjlgbflfaaGreat
