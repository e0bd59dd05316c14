/- BytesBack: its walk. -/
import Derived.Test.YtoooddjlgbflfaaBPutLaw
import Derived.Deep.RegionHeld3
import Derived.BigQuiet
namespace Go.Proofs.Ytoooddjlgbflfaa
open Go.ChangeShapes Go.WideShapes Go.ChangeAt Go.RowKit Go.Joins Go.Deep
set_option linter.unusedVariables false

def RelK2 (w0 : World) (v : Value) (wr : World) : Prop := ∃ k : Int, 1 ≤ k ∧ k ≤ 8 ∧ v = .int .i64 k ∧ Below w0.heap.size w0 wr
def RelP (w0 : World) (v : Value) (wr : World) : Prop := ∃ t : Int, (t = 2 ∨ t = 4 ∨ t = 6) ∧ v = .int .i64 t ∧ Below w0.heap.size w0 wr
theorem putY_turn (n : Nat) (m : Int) (j : Nat) (h : j < n) : putY false n ⟨false, m, 0, 0⟩ j = putY true n ⟨false, m, 0, 0⟩ (n - 1 - j) := by
  rw [putY_num, putY_num]
  have : wtN false n j = wtN true n (n - 1 - j) := by unfold wtN; simp; omega
  rw [this]
theorem turn_row {k : Int} (hk : k ≠ 7) {s : SC} (h : mayS k s = true) (n : Nat) {j : Nat} (hj : j < n) : eqY ((putL false n s).getD j default) ((putL true n s).getD (n - 1 - j) default) = true := by
  have hN : mayN k s = true := by simpa [mayS, hk] using h
  rcases mayS_cases h with ⟨m, rfl⟩ | rfl | ⟨b, o, hb, rfl⟩
  · rw [putL_get _ _ _ _ hj, putL_get _ _ _ _ (by omega), putY_turn n m j hj]; exact eqY_refl _
  · simp [mayN] at hN
  · simp [mayN] at hN

theorem keep7_below {w w' : World} {p0 p1 p2 p3 p4 p5 p6 : Addr} {v0 v1 v2 v3 v4 v5 v6 : Value} (h : w.cell? p0 = some v0 ∧ w.cell? p1 = some v1 ∧ w.cell? p2 = some v2 ∧ w.cell? p3 = some v3 ∧ w.cell? p4 = some v4 ∧ w.cell? p5 = some v5 ∧ w.cell? p6 = some v6) (hb : Below w.heap.size w w') : w'.cell? p0 = some v0 ∧ w'.cell? p1 = some v1 ∧ w'.cell? p2 = some v2 ∧ w'.cell? p3 = some v3 ∧ w'.cell? p4 = some v4 ∧ w'.cell? p5 = some v5 ∧ w'.cell? p6 = some v6 :=
  ⟨cell_below h.1 hb, cell_below h.2.1 hb, cell_below h.2.2.1 hb, cell_below h.2.2.2.1 hb, cell_below h.2.2.2.2.1 hb, cell_below h.2.2.2.2.2.1 hb, cell_below h.2.2.2.2.2.2 hb⟩
def RelT (n : Nat) (w0 : World) (v : Value) (wr : World) : Prop := ∃ j : Nat, j ≤ n ∧ v = .int .i64 (j : Nat) ∧ Below w0.heap.size w0 wr
set_option maxRecDepth 100000 in
set_option maxHeartbeats 12800000 in
theorem backlaw_any (pa ps pb : Option Addr) (la ca ls cs lb cb : Nat) (ss : List SC) (ha : la ≤ 140737488355328) (hs : ls ≤ 140737488355328) (hb : lb ≤ 140737488355328) (w : World) (hss : InScs w ps ls cs ss) :
    Calls Try.prog 4 #[.agg #[.slice pa la ca, .slice ps ls cs, .slice pb lb cb]] w fun e w' => e = .returned (.bool true) ∧ Below w.heap.size w w' := by
  have dK := At.new w #[.slice pa la ca, .slice ps ls cs, .slice pb lb cb] 26
  have hb0 := below_box1 w (.cells #[.slice pa la ca, .slice ps ls cs, .slice pb lb cb] 26)
  have cH := fun w => heavy_any pa ps pb la ca ls cs lb cb ha hs hb w
  have cW := fun w => wakes_any w
  have cNum := fun x w => num_any x w
  have HSS := Lib.hid hss
  clear hss ha hs hb
  go_enter Try.func4, Try.ntmps4
  go_wp2_with fail
  refine (cH _).mono ?_
  rintro e w1 ⟨hv, rfl, hle, hb1⟩
  replace dK := At.below' hb1 dK
  replace hb0 := hb0.trans (hb1.mono hb0.size)
  clear hb1 cH
  cases hv
  · have h300 := hle rfl
    clear hle
    go_wp2_with fail
    go_loopw [3] (fun v wr => RelN ls w1 v wr) (fun v _ => ls - (intOf v).toNat)
    case atStart => exact ⟨0, by omega, rfl, Below.refl _ _⟩
    case round =>
      obtain ⟨i, hi, rfl, hbr⟩ := hrel
      have dKr := At.below' hbr dK
      have k1 : wr.cell? ⟨w.heap.size, 1, none⟩ = some (.slice ps ls cs) := dKr.cell 1 rfl
      by_cases hlt : i < ls ∧ i < 10
      · obtain ⟨hlt1, hlt2⟩ := hlt
        have hi3 : (i : Int) < (ls : Int) := by omega
        have hi4 : (i : Int) < 10 := by omega
        obtain ⟨bb, off, rfl, hbb, hcc⟩ := HSS.out.2.2 (by omega)
        have hE := (hcc i hlt1).below (hb0.trans (hbr.mono hb0.size))
        generalize ss.getD i default = s at *
        obtain ⟨w4, hw4⟩ : ∃ w4, w4 = wr := ⟨_, rfl⟩
        rw [← hw4] at hE hbr dKr k1 ⊢
        clear hw4 hcc
        go_wp2_with fail
        go_loopw [4] (fun v wr => RelK2 w4 v wr) (fun v _ => (8 - intOf v).toNat)
        case atStart => exact ⟨1, by omega, by omega, rfl, Below.refl _ _⟩
        case round =>
          obtain ⟨k, hk1, hk2, rfl, hbk⟩ := hrel
          by_cases hk7 : k ≤ 7
          · have hE5 := hE.below hbk
            have dK5 := At.below' hbk dKr
            obtain ⟨w5, hw5⟩ : ∃ w5, w5 = wr := ⟨_, rfl⟩
            rw [← hw5] at hE5 dK5 hbk ⊢
            clear hw5
            go_wp2_with fail
            go_loopw [5] (fun v wr => RelP w5 v wr) (fun v _ => (6 - intOf v).toNat)
            case atStart => exact ⟨2, Or.inl rfl, rfl, Below.refl _ _⟩
            case round =>
              obtain ⟨t, ht, rfl, hbt⟩ := hrel
              by_cases ht4 : t ≤ 4
              · have hpA : mayA t := by unfold mayA; omega
                have ht2 : (2 : Int) ≤ t := by omega
                have htn : t + 2 = 2 ∨ t + 2 = 4 ∨ t + 2 = 6 := by omega
                have HTN := Lib.hid htn
                have HPA := Lib.hid hpA
                have hE6 := hE5.below hbt
                have dK6 := At.below' hbt dK5
                obtain ⟨w6, hw6⟩ : ∃ w6, w6 = wr := ⟨_, rfl⟩
                rw [← hw6] at hE6 dK6 hbt ⊢
                clear hw6 ht htn
                have dA := At.alloc (At.new w6 #[.bool false, .int .i64 t] 38) (.cells #[.bool true, .int .i64 t] 38)
                have dB := At.new2 w6 (.cells #[.bool false, .int .i64 t] 38) #[.bool true, .int .i64 t] 38
                have hb2 := below_box2 w6 (.cells #[.bool false, .int .i64 t] 38) (.cells #[.bool true, .int .i64 t] 38)
                have hE7 := hE6.below hb2
                have dK7 := At.below' hb2 dK6
                have hb7 := hbt.trans (hb2.mono hbt.size)
                clear hb2 hbt hE6 dK6 hpA
                go_upto_region 13 with (fail)
                generalize ((w6.alloc (.cells #[.bool false, .int .i64 t] 38)).alloc (.cells #[.bool true, .int .i64 t] 38)) = w7 at *
                generalize w6.heap.size = AB at *
                obtain ⟨sp, sn, sb, so⟩ := s
                have HSZ : Hid (w5.heap.size ≤ w7.heap.size) := Lib.hid hb7.size
                have HAL : Hid (AB < w7.heap.size) := Lib.hid dA.lt
                by_cases hmS : mayS k ⟨sp, sn, sb, so⟩ = true
                · have hput1 := fun w => Put_any false t k HPA.out ⟨sp, sn, sb, so⟩ hmS w
                  have hput2 := fun w => Put_any true t k HPA.out ⟨sp, sn, sb, so⟩ hmS w
                  unfold scV at hput1 hput2
                  dsimp only at hput1 hput2
                  have HMS := Lib.hid hmS
                  clear hmS
                  have hSd : w7.drew.cell? ⟨AB, 0, none⟩ = some (.bool false) ∧ w7.drew.cell? ⟨AB, 1, none⟩ = some (.int .i64 t) ∧ w7.drew.cell? ⟨w.heap.size, 1, none⟩ = some (.slice (some ⟨bb, off, none⟩) ls cs) ∧ w7.drew.cell? ⟨bb, off + i * 4, none⟩ = some (.bool sp) ∧ w7.drew.cell? ⟨bb, off + i * 4 + 1, none⟩ = some (.int .i64 sn) ∧ w7.drew.cell? ⟨bb, off + i * 4 + 2, none⟩ = some (.int .i64 sb) ∧ w7.drew.cell? ⟨bb, off + i * 4 + 3, none⟩ = some (.int .i64 so) := ⟨dA.cell 0 rfl, dA.cell 1 rfl, dK7.cell 1 rfl, hE7.1, hE7.2.1, hE7.2.2.1, hE7.2.2.2⟩
                  go_region_held3 (fun w' => w'.cell? ⟨AB, 0, none⟩ = some (.bool false) ∧ w'.cell? ⟨AB, 1, none⟩ = some (.int .i64 t) ∧ w'.cell? ⟨w.heap.size, 1, none⟩ = some (.slice (some ⟨bb, off, none⟩) ls cs) ∧ w'.cell? ⟨bb, off + i * 4, none⟩ = some (.bool sp) ∧ w'.cell? ⟨bb, off + i * 4 + 1, none⟩ = some (.int .i64 sn) ∧ w'.cell? ⟨bb, off + i * 4 + 2, none⟩ = some (.int .i64 sb) ∧ w'.cell? ⟨bb, off + i * 4 + 3, none⟩ = some (.int .i64 so))
                    (first
                      | with_reducible exact hSd
                      | with_reducible exact keep7_below hSd hbp)
                    ((go_at_call 22; (with_reducible refine (hput1 _).mono ?_); rintro e w8 ⟨B1, rfl, hgeB1, hB1, hbp⟩))
                  replace hbp : Below w7.heap.size w7 w8 := (Below.refl w7.heap.size w7).drew.trans hbp
                  clear hSd
                  replace dK7 := At.below' hbp dK7
                  replace dA := At.below' hbp dA
                  replace dB := At.below' hbp dB
                  replace hE7 := hE7.below hbp
                  replace hb7 := hb7.trans (hbp.mono hb7.size)
                  clear hbp
                  clear hput1
                  go_wp2_with fail
                  have hSd : w8.drew.cell? ⟨AB + 1, 0, none⟩ = some (.bool true) ∧ w8.drew.cell? ⟨AB + 1, 1, none⟩ = some (.int .i64 t) ∧ w8.drew.cell? ⟨w.heap.size, 1, none⟩ = some (.slice (some ⟨bb, off, none⟩) ls cs) ∧ w8.drew.cell? ⟨bb, off + i * 4, none⟩ = some (.bool sp) ∧ w8.drew.cell? ⟨bb, off + i * 4 + 1, none⟩ = some (.int .i64 sn) ∧ w8.drew.cell? ⟨bb, off + i * 4 + 2, none⟩ = some (.int .i64 sb) ∧ w8.drew.cell? ⟨bb, off + i * 4 + 3, none⟩ = some (.int .i64 so) := ⟨dB.cell 0 rfl, dB.cell 1 rfl, dK7.cell 1 rfl, hE7.1, hE7.2.1, hE7.2.2.1, hE7.2.2.2⟩
                  go_region_held3 (fun w' => w'.cell? ⟨AB + 1, 0, none⟩ = some (.bool true) ∧ w'.cell? ⟨AB + 1, 1, none⟩ = some (.int .i64 t) ∧ w'.cell? ⟨w.heap.size, 1, none⟩ = some (.slice (some ⟨bb, off, none⟩) ls cs) ∧ w'.cell? ⟨bb, off + i * 4, none⟩ = some (.bool sp) ∧ w'.cell? ⟨bb, off + i * 4 + 1, none⟩ = some (.int .i64 sn) ∧ w'.cell? ⟨bb, off + i * 4 + 2, none⟩ = some (.int .i64 sb) ∧ w'.cell? ⟨bb, off + i * 4 + 3, none⟩ = some (.int .i64 so))
                    (first
                      | with_reducible exact hSd
                      | with_reducible exact keep7_below hSd hbp)
                    ((go_at_call 22; (with_reducible refine (hput2 _).mono ?_); rintro e w9 ⟨B2, rfl, hgeB2, hB2, hbp⟩))
                  replace hbp : Below w8.heap.size w8 w9 := (Below.refl w8.heap.size w8).drew.trans hbp
                  clear hSd
                  replace dK7 := At.below' hbp dK7
                  replace dA := At.below' hbp dA
                  replace dB := At.below' hbp dB
                  replace hB1 := At.below' hbp hB1
                  replace hE7 := hE7.below hbp
                  replace hb7 := hb7.trans (hbp.mono hb7.size)
                  clear hbp
                  clear hput2
                  have hmS := HMS.out
                  have hkk := mayS_kind hmS
                  have hn := siz_cases HPA.out hkk
                  have hg1 := get_put (big := false) HPA.out hmS
                  have hg2 := get_put (big := true) HPA.out hmS
                  have hm1 := mays_put (big := false) hn hmS
                  have hm2 := mays_put (big := true) hn hmS
                  have hl1 := putL_len false (sizN t k) ⟨sp, sn, sb, so⟩
                  have hl2 := putL_len true (sizN t k) ⟨sp, sn, sb, so⟩
                  have hturn := fun h j hj => turn_row (k := k) h hmS (sizN t k) (j := j) hj
                  have hempty := fun j (hj : j < (putL false (sizN t k) ⟨sp, sn, sb, so⟩).length) => get_put_no (big := false) (k := k) (l := putL false (sizN t k) ⟨sp, sn, sb, so⟩) (j := j) hj
                  generalize hnn : sizN t k = n at *
                  have HNN := Lib.hid hnn
                  have HKK := Lib.hid hkk
                  generalize putL false n ⟨sp, sn, sb, so⟩ = xs at *
                  generalize putL true n ⟨sp, sn, sb, so⟩ = ys at *
                  have hn1 : 1 ≤ n := by omega
                  have hn4 : n ≤ 4 := by omega
                  have HM1 := Lib.hid hm1
                  have HM2 := Lib.hid hm2
                  have HL1 := Lib.hid hl1
                  have HL2 := Lib.hid hl2
                  have HT := Lib.hid hturn
                  have HEM := Lib.hid hempty
                  have cG1 := fun w h => Get_any false t k (some ⟨B1, 0, none⟩) n n xs HPA.out HKK.out HNN.out w h HM1.out
                  have cG2 := fun w h => Get_any true t k (some ⟨B2, 0, none⟩) n n ys HPA.out HKK.out HNN.out w h HM2.out
                  rw [hg1] at cG1
                  rw [hg2] at cG2
                  unfold GetPost scA at cG1 cG2
                  dsimp only at cG1 cG2
                  have HGE : Hid (w5.heap.size ≤ B1) := Lib.hid (Nat.le_trans HSZ.out hgeB1)
                  have HAB : Hid (AB < B1) := Lib.hid (Nat.lt_of_lt_of_le HAL.out hgeB1)
                  have D1 := Lib.hid hB1
                  have D2 := Lib.hid hB2
                  have DA := Lib.hid dA
                  have DB := Lib.hid dB
                  have DK := Lib.hid dK7
                  have HE := Lib.hid hE7
                  have HB7 := Lib.hid hb7
                  clear hnn hn hg1 hg2 hm1 hm2 hl1 hl2 hturn hempty hkk hB1 hB2 hmS dA dB dK7 hE7 hb7
                  have a0 : w9.cell? ⟨AB, 0, none⟩ = some (.bool false) := DA.out.cell 0 rfl
                  have a1 : w9.cell? ⟨AB, 1, none⟩ = some (.int .i64 t) := DA.out.cell 1 rfl
                  go_upto_region 18 with (go_at_call 19; (with_reducible refine (cNum _ _).mono ?_); rintro e w' ⟨rfl, rfl⟩)
                  go_wp2_with fail
                  refine (cG1 _ (bys_of_at D1.out HL1.out (by omega))).mono ?_
                  rintro e w10 ⟨rfl, hbp⟩
                  replace hbp := hbp.alloc hbp.size (.cells #[.bool sp, .int .i64 sn, .int .i64 sb, .int .i64 so] 33)
                  have DX := Lib.hid (At.new w10 #[.bool sp, .int .i64 sn, .int .i64 sb, .int .i64 so] 33)
                  replace D1 := Lib.hid (At.below' hbp D1.out)
                  replace D2 := Lib.hid (At.below' hbp D2.out)
                  replace DA := Lib.hid (At.below' hbp DA.out)
                  replace DB := Lib.hid (At.below' hbp DB.out)
                  replace DK := Lib.hid (At.below' hbp DK.out)
                  replace HE := Lib.hid (HE.out.below hbp)
                  replace HB7 := Lib.hid (HB7.out.trans (hbp.mono HB7.out.size))
                  clear hbp
                  clear a0 a1 cG1
                  go_upto_region 19 with (fail)
                  generalize (w10.alloc (.cells #[.bool sp, .int .i64 sn, .int .i64 sb, .int .i64 so] 33)) = w11 at *
                  generalize w10.heap.size = XB at *
                  have b0 : w11.cell? ⟨AB + 1, 0, none⟩ = some (.bool true) := DB.out.cell 0 rfl
                  have b1 : w11.cell? ⟨AB + 1, 1, none⟩ = some (.int .i64 t) := DB.out.cell 1 rfl
                  go_wp2_with fail
                  refine (cG2 _ (bys_of_at D2.out HL2.out (by omega))).mono ?_
                  rintro e w12 ⟨rfl, hbp⟩
                  replace hbp := hbp.alloc hbp.size (.cells #[.bool sp, .int .i64 sn, .int .i64 sb, .int .i64 so] 33)
                  have DY := Lib.hid (At.new w12 #[.bool sp, .int .i64 sn, .int .i64 sb, .int .i64 so] 33)
                  replace D1 := Lib.hid (At.below' hbp D1.out)
                  replace D2 := Lib.hid (At.below' hbp D2.out)
                  replace DA := Lib.hid (At.below' hbp DA.out)
                  replace DK := Lib.hid (At.below' hbp DK.out)
                  replace DX := Lib.hid (At.below' hbp DX.out)
                  replace HE := Lib.hid (HE.out.below hbp)
                  replace HB7 := Lib.hid (HB7.out.trans (hbp.mono HB7.out.size))
                  clear hbp
                  clear b0 b1 cG2 DB
                  go_upto_region 20 with (fail)
                  generalize (w12.alloc (.cells #[.bool sp, .int .i64 sn, .int .i64 sb, .int .i64 so] 33)) = w13 at *
                  generalize w12.heap.size = YB at *
                  have x0 : w13.cell? ⟨XB, 0, none⟩ = some (.bool sp) := DX.out.cell 0 rfl
                  have x1 : w13.cell? ⟨XB, 1, none⟩ = some (.int .i64 sn) := DX.out.cell 1 rfl
                  have x2 : w13.cell? ⟨XB, 2, none⟩ = some (.int .i64 sb) := DX.out.cell 2 rfl
                  have x3 : w13.cell? ⟨XB, 3, none⟩ = some (.int .i64 so) := DX.out.cell 3 rfl
                  have y0 : w13.cell? ⟨YB, 0, none⟩ = some (.bool sp) := DY.out.cell 0 rfl
                  have y1 : w13.cell? ⟨YB, 1, none⟩ = some (.int .i64 sn) := DY.out.cell 1 rfl
                  have y2 : w13.cell? ⟨YB, 2, none⟩ = some (.int .i64 sb) := DY.out.cell 2 rfl
                  have y3 : w13.cell? ⟨YB, 3, none⟩ = some (.int .i64 so) := DY.out.cell 3 rfl
                  have kk : w13.cell? ⟨w.heap.size, 1, none⟩ = some (.slice (some ⟨bb, off, none⟩) ls cs) := DK.out.cell 1 rfl
                  have e0 : w13.cell? ⟨bb, off + i * 4, none⟩ = some (.bool sp) := HE.out.1
                  have e1 : w13.cell? ⟨bb, off + i * 4 + 1, none⟩ = some (.int .i64 sn) := HE.out.2.1
                  have e2 : w13.cell? ⟨bb, off + i * 4 + 2, none⟩ = some (.int .i64 sb) := HE.out.2.2.1
                  have e3 : w13.cell? ⟨bb, off + i * 4 + 3, none⟩ = some (.int .i64 so) := HE.out.2.2.2
                  have hNE := fun w => neq_sc' sp sn sb so sp sn sb so w
                  rw [eqS_refl] at hNE
                  have hnn2 : ((n : Int) != (n : Int)) = false := by simp
                  have hnz : ((n : Int) == 0) = false := by rw [beq_eq_false_iff_ne]; omega
                  have hnz2 : (n == 0) = false := by rw [beq_eq_false_iff_ne]; omega
                  have cQ := fun x w => flipC (num_any x w)
                  go_wp2_with fail
                  go_quiet ((go_at_call 19; exact Calls.quiet_of_same (cQ _ _)))
                  clear x0 x1 x2 x3 y0 y1 y2 y3 kk e0 e1 e2 e3 hNE hnn2 hnz hnz2 cQ
                  replace HB7 := Lib.hid (HB7.out.trans (Joins.below_draws _ _ nq))
                  replace D1 : Hid (At (w13.drewN nq) B1 (byC xs) 51) := Lib.hid (D1.out.drewN nq)
                  replace D2 : Hid (At (w13.drewN nq) B2 (byC ys) 51) := Lib.hid (D2.out.drewN nq)
                  replace DA : Hid (At (w13.drewN nq) AB #[.bool false, .int .i64 t] 38) := Lib.hid (DA.out.drewN nq)
                  clear DK DX DY HE
                  generalize w13.drewN nq = w14 at *
                  go_wp2_with fail
                  go_loopw [18] (fun v wr => RelT n w14 v wr) (fun v _ => n - (intOf v).toNat)
                  case atStart => exact ⟨0, by omega, rfl, Below.refl _ _⟩
                  case round =>
                    obtain ⟨j, hj, rfl, hbj⟩ := hrel
                    by_cases hjn : j < n
                    · have hj3 : (j : Int) < (n : Int) := by omega
                      by_cases h7 : k = 7
                      · subst h7
                        go_wp2_with fail
                        go_quiet (fail)
                        go_wp2
                        go_roundw
                        case rel => exact ⟨j + 1, by omega, by go_num, hbj.trans (Joins.below_draws _ _ _)⟩
                        case measure => (simp [intOf]; try omega)
                      · have t7 : (k != 7) = true := by simpa using h7
                        obtain ⟨m1, hm1⟩ : ∃ m1, m1 = n - 1 := ⟨_, rfl⟩
                        obtain ⟨m2, hm2⟩ : ∃ m2, m2 = n - 1 - j := ⟨_, rfl⟩
                        have q1 : (n : Int) - 1 = (m1 : Nat) := by omega
                        have q2 : (m1 : Int) - (j : Int) = (m2 : Nat) := by omega
                        have q3 : (m2 : Int) < (n : Int) := by omega
                        have hx := byC_get xs j (by rw [HL1.out]; exact hjn)
                        have hy := byC_get ys m2 (by rw [HL2.out]; omega)
                        have heq := HT.out h7 j hjn
                        rw [← hm2] at heq
                        have dx := At.below' hbj D1.out
                        have dy := At.below' hbj D2.out
                        have c0 := dx.cell _ hx.1
                        have c1 := dx.cell _ hx.2.1
                        have c2 := dx.cell _ hx.2.2.1
                        have c3 := dx.cell _ hx.2.2.2.1
                        have c4 := dx.cell _ hx.2.2.2.2
                        have d0 := dy.cell _ hy.1
                        have d1 := dy.cell _ hy.2.1
                        have d2 := dy.cell _ hy.2.2.1
                        have d3 := dy.cell _ hy.2.2.2.1
                        have d4 := dy.cell _ hy.2.2.2.2
                        generalize xs.getD j default = xj at *
                        generalize ys.getD m2 default = ym at *
                        have hNE := fun w => neq_by' xj.st xj.n xj.b xj.o xj.i ym.st ym.n ym.b ym.o ym.i w
                        rw [show eqY ⟨xj.st, xj.n, xj.b, xj.o, xj.i⟩ ⟨ym.st, ym.n, ym.b, ym.o, ym.i⟩ = true from heq] at hNE
                        have q1w : IntKind.i64.wrap ((n : Int) - 1) = (m1 : Nat) := by rw [IntKind.wrap_i64]; omega
                        have q2w : IntKind.i64.wrap ((m1 : Int) - (j : Int)) = (m2 : Nat) := by rw [IntKind.wrap_i64]; omega
                        have q4 : (0 : Int) ≤ (m2 : Int) := by omega
                        clear hm1 hm2 hx hy heq dx dy h7
                        go_wp2_with fail
                        go_quiet (fail)
                        clear q1w q2w q1 q2 c0 c1 c2 c3 c4 d0 d1 d2 d3 d4 hNE
                        go_wp2
                        go_roundw
                        case rel => exact ⟨j + 1, by omega, by go_num, hbj.trans (Joins.below_draws _ _ _)⟩
                        case measure => (simp [intOf]; try omega)
                    · obtain rfl : j = n := by omega
                      obtain ⟨r, hr⟩ : ∃ r, r = i % j := ⟨_, rfl⟩
                      have hrn : r < j := by rw [hr]; exact Nat.mod_lt _ (by omega)
                      have hri : (i : Int) % (j : Int) = (r : Nat) := by rw [hr]; omega
                      have hrt : (i : Int).tmod (j : Int) = (r : Nat) := by rw [Int.tmod_eq_emod_of_nonneg (by omega)]; exact hri
                      have hrn2 : (r : Int) < (j : Int) := by omega
                      have hr0 : (0 : Int) ≤ (r : Int) := by omega
                      have hn0 : ¬ ((j : Int) = 0) := by omega
                      have hn1' : (0 : Int) < (j : Int) := by omega
                      have hrow := BRow.of_at (At.below' hbj D1.out)
                      have DA2 := Lib.hid (At.below' hbj DA.out)
                      have hB := HB7.out.trans (hbj.mono HB7.out.size)
                      obtain ⟨v0, v1, v2, v3, v4, st, hrow2⟩ := hrow.store r (by rw [HL1.out]; exact hrn) ⟨0, 0, 0, 0, 0⟩
                      have hst := store5_below hB (show w5.heap.size ≤ B1 from HGE.out) (r * 5) (.int .i64 0) (.int .i64 0) (.int .i64 0) (.int .i64 0) (.int .i64 0)
                      have hstA := store5_below (Below.refl B1 wr) (Nat.le_refl B1) (r * 5) (.int .i64 0) (.int .i64 0) (.int .i64 0) (.int .i64 0) (.int .i64 0)
                      have DA3 := Lib.hid (At.below DA2.out hstA HAB.out)
                      have hem := HEM.out r (by rw [HL1.out]; exact hrn)
                      have hmy : maysY (xs.set r noY) = true := mays_set HM1.out (by decide) r
                      have hly : (xs.set r noY).length = j := by rw [List.length_set]; exact HL1.out
                      have cG3 := fun w h => Get_any false t k (some ⟨B1, 0, none⟩) j j (xs.set r noY) HPA.out HKK.out HNN.out w h hmy
                      rw [hem] at cG3
                      unfold GetPost scA noS at cG3
                      dsimp only at cG3 st
                      have HR2 := Lib.hid (hrow2.isBys hly (by omega))
                      have HST := Lib.hid hst
                      clear hr hrow DA2 hB hst hstA hem hmy hly hrow2 DA D1 D2 HB7
                      go_upto_region 28 with (fail)
                      clear st
                      generalize (((((wr.setCell ⟨B1, r * 5, none⟩ (.int .i64 0)).setCell ⟨B1, r * 5 + 1, none⟩ (.int .i64 0)).setCell ⟨B1, r * 5 + 2, none⟩ (.int .i64 0)).setCell ⟨B1, r * 5 + 3, none⟩ (.int .i64 0)).setCell ⟨B1, r * 5 + 4, none⟩ (.int .i64 0)) = w15 at *
                      have a0 : w15.cell? ⟨AB, 0, none⟩ = some (.bool false) := DA3.out.cell 0 rfl
                      have a1 : w15.cell? ⟨AB, 1, none⟩ = some (.int .i64 t) := DA3.out.cell 1 rfl
                      go_wp2_with fail
                      refine (cG3 _ HR2.out).mono ?_
                      rintro e w16 ⟨rfl, hbp⟩
                      have hbF := HST.out.trans (hbp.mono HST.out.size)
                      clear a0 a1 hbp cG3
                      go_wp2_with (go_at_call 19; (with_reducible refine (cNum _ _).mono ?_); rintro e w' ⟨rfl, rfl⟩)
                      go_roundw
                      case rel => exact ⟨t + 2, HTN.out, by go_num, hbF⟩
                      case measure => (simp [intOf]; try omega)
                · have hput1 := fun w => Put_no false t k ⟨sp, sn, sb, so⟩ (fun h => hmS h.2) w
                  have hput2 := fun w => Put_no true t k ⟨sp, sn, sb, so⟩ (fun h => hmS h.2) w
                  unfold scV at hput1 hput2
                  dsimp only at hput1 hput2
                  have HMS := Lib.hid hmS
                  clear hmS
                  have hSd : w7.drew.cell? ⟨AB, 0, none⟩ = some (.bool false) ∧ w7.drew.cell? ⟨AB, 1, none⟩ = some (.int .i64 t) ∧ w7.drew.cell? ⟨w.heap.size, 1, none⟩ = some (.slice (some ⟨bb, off, none⟩) ls cs) ∧ w7.drew.cell? ⟨bb, off + i * 4, none⟩ = some (.bool sp) ∧ w7.drew.cell? ⟨bb, off + i * 4 + 1, none⟩ = some (.int .i64 sn) ∧ w7.drew.cell? ⟨bb, off + i * 4 + 2, none⟩ = some (.int .i64 sb) ∧ w7.drew.cell? ⟨bb, off + i * 4 + 3, none⟩ = some (.int .i64 so) := ⟨dA.cell 0 rfl, dA.cell 1 rfl, dK7.cell 1 rfl, hE7.1, hE7.2.1, hE7.2.2.1, hE7.2.2.2⟩
                  go_region_held3 (fun w' => w'.cell? ⟨AB, 0, none⟩ = some (.bool false) ∧ w'.cell? ⟨AB, 1, none⟩ = some (.int .i64 t) ∧ w'.cell? ⟨w.heap.size, 1, none⟩ = some (.slice (some ⟨bb, off, none⟩) ls cs) ∧ w'.cell? ⟨bb, off + i * 4, none⟩ = some (.bool sp) ∧ w'.cell? ⟨bb, off + i * 4 + 1, none⟩ = some (.int .i64 sn) ∧ w'.cell? ⟨bb, off + i * 4 + 2, none⟩ = some (.int .i64 sb) ∧ w'.cell? ⟨bb, off + i * 4 + 3, none⟩ = some (.int .i64 so))
                    (first
                      | with_reducible exact hSd
                      | with_reducible exact keep7_below hSd hbp)
                    ((go_at_call 22; (with_reducible refine (hput1 _).mono ?_); rintro e w8 ⟨rfl, hbp⟩))
                  replace hbp : Below w7.heap.size w7 w8 := (Below.refl w7.heap.size w7).drew.trans hbp
                  clear hSd
                  replace dK7 := At.below' hbp dK7
                  replace dA := At.below' hbp dA
                  replace dB := At.below' hbp dB
                  replace hE7 := hE7.below hbp
                  replace hb7 := hb7.trans (hbp.mono hb7.size)
                  clear hbp
                  clear hput1
                  go_wp2_with fail
                  have hSd : w8.drew.cell? ⟨AB + 1, 0, none⟩ = some (.bool true) ∧ w8.drew.cell? ⟨AB + 1, 1, none⟩ = some (.int .i64 t) ∧ w8.drew.cell? ⟨w.heap.size, 1, none⟩ = some (.slice (some ⟨bb, off, none⟩) ls cs) ∧ w8.drew.cell? ⟨bb, off + i * 4, none⟩ = some (.bool sp) ∧ w8.drew.cell? ⟨bb, off + i * 4 + 1, none⟩ = some (.int .i64 sn) ∧ w8.drew.cell? ⟨bb, off + i * 4 + 2, none⟩ = some (.int .i64 sb) ∧ w8.drew.cell? ⟨bb, off + i * 4 + 3, none⟩ = some (.int .i64 so) := ⟨dB.cell 0 rfl, dB.cell 1 rfl, dK7.cell 1 rfl, hE7.1, hE7.2.1, hE7.2.2.1, hE7.2.2.2⟩
                  go_region_held3 (fun w' => w'.cell? ⟨AB + 1, 0, none⟩ = some (.bool true) ∧ w'.cell? ⟨AB + 1, 1, none⟩ = some (.int .i64 t) ∧ w'.cell? ⟨w.heap.size, 1, none⟩ = some (.slice (some ⟨bb, off, none⟩) ls cs) ∧ w'.cell? ⟨bb, off + i * 4, none⟩ = some (.bool sp) ∧ w'.cell? ⟨bb, off + i * 4 + 1, none⟩ = some (.int .i64 sn) ∧ w'.cell? ⟨bb, off + i * 4 + 2, none⟩ = some (.int .i64 sb) ∧ w'.cell? ⟨bb, off + i * 4 + 3, none⟩ = some (.int .i64 so))
                    (first
                      | with_reducible exact hSd
                      | with_reducible exact keep7_below hSd hbp)
                    ((go_at_call 22; (with_reducible refine (hput2 _).mono ?_); rintro e w9 ⟨rfl, hbp⟩))
                  replace hbp : Below w8.heap.size w8 w9 := (Below.refl w8.heap.size w8).drew.trans hbp
                  clear hSd
                  replace dK7 := At.below' hbp dK7
                  replace dA := At.below' hbp dA
                  replace dB := At.below' hbp dB
                  replace hE7 := hE7.below hbp
                  replace hb7 := hb7.trans (hbp.mono hb7.size)
                  clear hbp
                  clear hput2
                  have HB7 := Lib.hid hb7
                  clear hb7 dK7 dA dB hE7
                  go_wp2_with (go_at_call 19; (with_reducible refine (cNum _ _).mono ?_); rintro e w' ⟨rfl, rfl⟩)
                  go_roundw
                  case rel => exact ⟨t + 2, HTN.out, by go_num, HB7.out⟩
                  case measure => (simp [intOf]; try omega)
              · have hb9 := hbk.trans (hbt.mono hbk.size)
                clear hbt hbk
                go_wp2
                go_roundw
                case rel => exact ⟨k + 1, by omega, by omega, by go_num, hb9⟩
                case measure => (simp [intOf]; try omega)
          · have hb9 := hbr.trans (hbk.mono hbr.size)
            clear hbk hbr
            go_wp2
            go_roundw
            case rel => exact ⟨i + 1, by omega, by go_num, hb9⟩
            case measure => (simp [intOf]; try omega)
      · have hbF := hb0.trans (hbr.mono hb0.size)
        have hcase : ¬ i < ls ∨ (i < ls ∧ ¬ i < 10) := by
          by_cases h1 : i < ls
          · exact Or.inr ⟨h1, fun h2 => hlt ⟨h1, h2⟩⟩
          · exact Or.inl h1
        clear hlt hbr
        rcases hcase with hc1 | ⟨hc1, hc2⟩
        all_goals
          first
            | (have t10 : decide ((i : Int) < 10) = false := by (simp; omega))
            | skip
          first
            | (have tls : (i : Int) < (ls : Int) := by omega)
            | (have tls : decide ((i : Int) < (ls : Int)) = false := by (simp; omega))
          go_wp2_with fail
          refine (cW _).mono ?_
          rintro e w7 ⟨rfl, hb7⟩
          go_wp2
          go_ret
          exact ⟨rfl, hbF.trans (hb7.mono hbF.size)⟩
  · clear hle
    go_wp2
    go_ret
    exact ⟨rfl, hb0⟩
end Go.Proofs.Ytoooddjlgbflfaa
