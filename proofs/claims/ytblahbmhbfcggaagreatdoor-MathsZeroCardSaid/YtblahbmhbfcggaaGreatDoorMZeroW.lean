/- Operators of one set: the law's walk over all kinds, over what One tells. -/
import Derived.Test.YtblahbmhbfcggaaGreatDoorZBad
import Derived.Test.YtblahbmhbfcggaaGreatDoorMOnesOdd
import Derived.Test.YtblahbmhbfcggaaGreatDoorVSome30
namespace Go.Proofs.YtblahbmhbfcggaaGreatDoor
open Go.ChangeShapes Go.WideShapes Go.ChangeAt Go.RowKit Go.Joins Go.Deep
set_option linter.unusedVariables false

set_option maxRecDepth 100000 in
set_option maxHeartbeats 4000000 in
theorem ones_good (op : Int) (ho : 5 ≤ op ∧ op ≤ 7) (H : OneH op) (pv : Option Addr) (lv cv : Nat) (vs : List VI) (pn : Option Addr) (ln cn : Nat) (zs : List Int) (w : World) (hv : IsVals w pv lv vs) (hn : IsInts w pn ln zs) :
    Calls Tryz.prog 7 #[.agg #[.slice pv lv cv, .slice pn ln cn], .int .i64 op] w fun e w' => e = .returned (.bool true) ∧ Below w.heap.size w w' := by
  have HH := Lib.hid H
  have d0 := At.new w #[.slice pv lv cv, .slice pn ln cn] 25
  have hb0 : Below w.heap.size w (w.alloc (.cells #[.slice pv lv cv, .slice pn ln cn] 25)) := (Below.refl _ _).alloc (Nat.le_refl _) _
  have cW := wakes4_holds
  unfold Wakes4 at cW
  go_enter Tryz.func7, Tryz.ntmps7
  go_wp2_with fail
  refine (heavy_any pv lv cv pn ln cn _).mono ?_
  rintro e w1 ⟨hvy, rfl, hle, hb1⟩
  replace d0 := At.below' hb1 d0
  replace hb0 := hb0.trans (hb1.mono hb0.size)
  clear hb1
  obtain ⟨BP, hBP⟩ : ∃ B, B = w.heap.size := ⟨_, rfl⟩
  have HBP := Lib.hid hBP
  rw [← hBP] at d0
  cases hvy
  · obtain ⟨hlv, hln⟩ := hle rfl
    rw [← hBP]
    clear hle hBP
    go_wp2_with fail
    go_loopw [5] (fun v5 wr => ∃ k : Nat, k ≤ 8 ∧ v5 = .int .i64 (k : Nat) ∧ Below w1.heap.size w1 wr) (fun v5 _ => 8 - (intOf v5).toNat)
    case atStart => exact ⟨0, by omega, rfl, Below.refl _ _⟩
    case round =>
      obtain ⟨k, hk, rfl, hbr⟩ := hrel
      have d1 := At.below' hbr d0
      have c0 : wr.cell? ⟨BP, 0, none⟩ = some (.slice pv lv cv) := d1.cell 0 rfl
      have c1 : wr.cell? ⟨BP, 1, none⟩ = some (.slice pn ln cn) := d1.cell 1 rfl
      have hbx := hb0.trans (hbr.mono hb0.size)
      by_cases hk7 : k ≤ 7
      · have t0 : decide ((k : Int) ≤ 7) = true := by simp; omega
        go_wp2_with fail
        refine (sets_any pv lv cv vs pn ln cn zs k _ (hv.below hbx) (hn.below hbx) hlv).mono ?_
        rintro e w2 ⟨p, len, cap, vs2, rfl, hI, hlen, hb2⟩
        have hbK := hbr.trans (hb2.mono hbr.size)
        clear c0 c1 d1 hbr hb2 hbx
        go_wp2_with fail
        go_loopw [7] (fun v7 wi => ∃ i : Nat, i ≤ len ∧ v7 = .int .i64 (i : Nat) ∧ Below w2.heap.size w2 wi) (fun v7 _ => len - (intOf v7).toNat)
        case atStart => exact ⟨0, by omega, rfl, Below.refl _ _⟩
        case round =>
          obtain ⟨i, hi, rfl, hbi⟩ := hrel
          by_cases hil : i < len
          · have hil3 : (i : Int) < (len : Int) := by omega
            obtain ⟨bb, off, ⟨vk, vno, vl, vh, vf, vb⟩, rfl, p0, p1, p2, p3, p4, p5⟩ := (hI.below hbi).at hil
            dsimp only at p0 p1 p2 p3 p4 p5
            have dA := At.new wr #[.int .i64 vk, .bool vno, .int .i64 vl, .int .i64 vh, .int .i64 vf, .int .i64 vb] 30
            have hbj := hbi.alloc hbi.size (.cells #[.int .i64 vk, .bool vno, .int .i64 vl, .int .i64 vh, .int .i64 vf, .int .i64 vb] 30)
            obtain ⟨BA, hBA⟩ : ∃ B, B = wr.heap.size := ⟨_, rfl⟩
            rw [← hBA] at dA
            have HBA := Lib.hid hBA
            clear hI hBA
            obtain ⟨gd, hgd⟩ : ∃ g, g = goodB k vk vno vl vh vf vb := ⟨_, rfl⟩
            go_upto_region 11 with (fail)
            rw [← HBA.out]
            generalize wr.alloc (.cells #[.int .i64 vk, .bool vno, .int .i64 vl, .int .i64 vh, .int .i64 vf, .int .i64 vb] 30) = w2b at *
            clear p0 p1 p2 p3 p4 p5 hbi
            have a0 : w2b.cell? ⟨BA, 0, none⟩ = some (.int .i64 vk) := dA.cell 0 rfl
            have a1 : w2b.cell? ⟨BA, 1, none⟩ = some (.bool vno) := dA.cell 1 rfl
            have a2 : w2b.cell? ⟨BA, 2, none⟩ = some (.int .i64 vl) := dA.cell 2 rfl
            have a3 : w2b.cell? ⟨BA, 3, none⟩ = some (.int .i64 vh) := dA.cell 3 rfl
            have a4 : w2b.cell? ⟨BA, 4, none⟩ = some (.int .i64 vf) := dA.cell 4 rfl
            have a5 : w2b.cell? ⟨BA, 5, none⟩ = some (.int .i64 vb) := dA.cell 5 rfl
            cases gd
            · have cO := fun w => one_refused op k ho vk vno vl vh vf vb hgd.symm w
              have HGD := Lib.hid hgd
              clear hgd
              go_wp2_with fail
              refine (cO _).mono ?_
              rintro e w3 ⟨rfl, hb3⟩
              replace hbj := hbj.trans (hb3.mono hbj.size)
              have hbl := hbj.alloc hbj.size (.cells #[.int .i64 0, .bool false, .int .i64 0, .int .i64 0, .int .i64 0, .int .i64 0] 30)
              have dA4 := At.alloc (At.below' hb3 dA) (.cells #[.int .i64 0, .bool false, .int .i64 0, .int .i64 0, .int .i64 0, .int .i64 0] 30)
              clear hb3 dA a0 a1 a2 a3 a4 a5 cO hbj
              go_upto_region 13 with (fail)
              generalize w3.alloc (.cells #[.int .i64 0, .bool false, .int .i64 0, .int .i64 0, .int .i64 0, .int .i64 0] 30) = w4 at *
              go_cut [59] from 46 to 59 (fun v59 wx => v59 = .bool false ∧ Below w4.heap.size w4 wx)
              case first =>
                have q0 := fun p : BelowBy w4 => p.cell (dA4.cell 0 rfl : w4.cell? ⟨BA, 0, none⟩ = some (.int .i64 vk))
                have q1 := fun p : BelowBy w4 => p.cell (dA4.cell 1 rfl : w4.cell? ⟨BA, 1, none⟩ = some (.bool vno))
                have q2 := fun p : BelowBy w4 => p.cell (dA4.cell 2 rfl : w4.cell? ⟨BA, 2, none⟩ = some (.int .i64 vl))
                have q3 := fun p : BelowBy w4 => p.cell (dA4.cell 3 rfl : w4.cell? ⟨BA, 3, none⟩ = some (.int .i64 vh))
                have q4 := fun p : BelowBy w4 => p.cell (dA4.cell 4 rfl : w4.cell? ⟨BA, 4, none⟩ = some (.int .i64 vf))
                have q5 := fun p : BelowBy w4 => p.cell (dA4.cell 5 rfl : w4.cell? ⟨BA, 5, none⟩ = some (.int .i64 vb))
                clear dA4 hbl
                have cWd := fun w => Al.rWidth_any k w
                have cV := fun w => rVal_any vk vno vl vh vf vb w
                by_cases hk6 : 1 ≤ (k : Int) ∧ (k : Int) ≤ 6
                · have cM := fun w => Al.rMayOne_yes op k ho hk6 w
                  cases hm : mayB vk vno vl vh vf vb
                  · rw [hm] at cV
                    refine wp_region_quiet_below (by kernel_rfl) (by kernel_rfl) ?_
                    repeat (go_big_quiet_step ((first | (go_at_call 24; with_reducible exact Calls.below_same (cM _)) | (go_at_call 12; with_reducible exact Calls.below_of (cV _)) | (go_at_call 13; with_reducible exact Calls.below_same (cWd _)))))
                    refine wpQuiet_nil ?_
                    intro wx hw'
                    obtain ⟨⟨wx', hbx⟩, hw''⟩ := hw'
                    subst hw''
                    go_wp2_with fail
                    go_meet
                    exact ⟨rfl, hbx⟩
                  · rw [hm] at cV
                    have hne : (vk == Al.widthI k) = false := by
                      have := HGD.out.symm
                      simp only [goodB, hm, decide_eq_true hk6, Bool.true_and] at this
                      exact this
                    refine wp_region_quiet_below (by kernel_rfl) (by kernel_rfl) ?_
                    repeat (go_big_quiet_step ((first | (go_at_call 24; with_reducible exact Calls.below_same (cM _)) | (go_at_call 12; with_reducible exact Calls.below_of (cV _)) | (go_at_call 13; with_reducible exact Calls.below_same (cWd _)))))
                    refine wpQuiet_nil ?_
                    intro wx hw'
                    obtain ⟨⟨wx', hbx⟩, hw''⟩ := hw'
                    subst hw''
                    go_wp2_with fail
                    go_meet
                    exact ⟨rfl, hbx⟩
                · have cM := fun w => Al.rMayOne_no_k op k ho hk6 w
                  refine wp_region_quiet_below (by kernel_rfl) (by kernel_rfl) ?_
                  repeat (go_big_quiet_step ((first | (go_at_call 24; with_reducible exact Calls.below_same (cM _)) | (go_at_call 12; with_reducible exact Calls.below_of (cV _)) | (go_at_call 13; with_reducible exact Calls.below_same (cWd _)))))
                  refine wpQuiet_nil ?_
                  intro wx hw'
                  obtain ⟨⟨wx', hbx⟩, hw''⟩ := hw'
                  subst hw''
                  go_wp2_with fail
                  go_meet
                  exact ⟨rfl, hbx⟩
              case rest =>
              obtain ⟨rfl, hbx⟩ := hcut
              have hbm := hbl.trans (hbx.mono hbl.size)
              generalize wc = w5 at *
              clear hbl hbx dA4
              go_wp2_with (go_at_call 14; refine (num4_any _ _).mono ?_; rintro e w' ⟨rfl, rfl⟩)
              go_roundw
              case rel => exact ⟨i + 1, by omega, by go_num, hbm⟩
              case measure => simp [intOf]; omega
            · obtain ⟨hk6, K, l, h, f, b, rfl, rfl, rfl, rfl, rfl, ok, hmA, hKw⟩ := good_nat hgd.symm
              have cO := fun w => H k K vno l h f b hk6 hKw ok hmA w
              clear hgd
              go_wp2_with fail
              refine (cO _).mono ?_
              rintro e w3 ⟨WA, tno, tl, th, tf, tb, rfl, okT, hmT, hans, hgood, hb3⟩
              replace hbj := hbj.trans (hb3.mono hbj.size)
              have hbl := hbj.alloc hbj.size (.cells #[.int .i64 WA, .bool tno, .int .i64 tl, .int .i64 th, .int .i64 tf, .int .i64 tb] 30)
              have dA4 := At.alloc (At.below' hb3 dA) (.cells #[.int .i64 WA, .bool tno, .int .i64 tl, .int .i64 th, .int .i64 tf, .int .i64 tb] 30)
              have dT4 := At.new w3 #[.int .i64 WA, .bool tno, .int .i64 tl, .int .i64 th, .int .i64 tf, .int .i64 tb] 30
              obtain ⟨BT, hBT⟩ : ∃ B, B = w3.heap.size := ⟨_, rfl⟩
              rw [← hBT] at dT4
              have HBT := Lib.hid hBT
              have HG := Lib.hid hgood
              clear hb3 dA a0 a1 a2 a3 a4 a5 cO hbj hBT hgood
              go_upto_region 13 with (fail)
              rw [← HBT.out]
              generalize w3.alloc (.cells #[.int .i64 WA, .bool tno, .int .i64 tl, .int .i64 th, .int .i64 tf, .int .i64 tb] 30) = w4 at *
              go_cut [59] from 46 to 59 (fun v59 wx => v59 = .bool true ∧ Below w4.heap.size w4 wx)
              case first =>
                have q0 := fun p : BelowBy w4 => p.cell (dA4.cell 0 rfl : w4.cell? ⟨BA, 0, none⟩ = some (.int .i64 K))
                have q1 := fun p : BelowBy w4 => p.cell (dA4.cell 1 rfl : w4.cell? ⟨BA, 1, none⟩ = some (.bool vno))
                have q2 := fun p : BelowBy w4 => p.cell (dA4.cell 2 rfl : w4.cell? ⟨BA, 2, none⟩ = some (.int .i64 l))
                have q3 := fun p : BelowBy w4 => p.cell (dA4.cell 3 rfl : w4.cell? ⟨BA, 3, none⟩ = some (.int .i64 h))
                have q4 := fun p : BelowBy w4 => p.cell (dA4.cell 4 rfl : w4.cell? ⟨BA, 4, none⟩ = some (.int .i64 f))
                have q5 := fun p : BelowBy w4 => p.cell (dA4.cell 5 rfl : w4.cell? ⟨BA, 5, none⟩ = some (.int .i64 b))
                clear dA4 hbl dT4
                have cWd := fun w => Al.rWidth_any k w
                rw [hKw] at cWd
                have cV := fun w => rVal_any (K : Int) vno (l : Int) (h : Int) (f : Int) (b : Int) w
                rw [hmA] at cV
                have cM := fun w => Al.rMayOne_yes op k ho hk6 w
                refine wp_region_quiet_below (by kernel_rfl) (by kernel_rfl) ?_
                repeat (go_big_quiet_step ((first | (go_at_call 24; with_reducible exact Calls.below_same (cM _)) | (go_at_call 12; with_reducible exact Calls.below_of (cV _)) | (go_at_call 13; with_reducible exact Calls.below_same (cWd _)))))
                refine wpQuiet_nil ?_
                intro wx hw'
                obtain ⟨⟨wx', hbx⟩, hw''⟩ := hw'
                subst hw''
                go_wp2_with fail
                go_meet
                exact ⟨rfl, hbx⟩
              case rest =>
              obtain ⟨rfl, hbx⟩ := hcut
              have hbm := hbl.trans (hbx.mono hbl.size)
              generalize wc = w5 at *
              have dA5 := At.below' hbx dA4
              have dT5 := At.below' hbx dT4
              clear hbl hbx dA4 dT4
              have a0 : w5.cell? ⟨BA, 0, none⟩ = some (.int .i64 K) := dA5.cell 0 rfl
              have a1 : w5.cell? ⟨BA, 1, none⟩ = some (.bool vno) := dA5.cell 1 rfl
              have a2 : w5.cell? ⟨BA, 2, none⟩ = some (.int .i64 l) := dA5.cell 2 rfl
              have a3 : w5.cell? ⟨BA, 3, none⟩ = some (.int .i64 h) := dA5.cell 3 rfl
              have a4 : w5.cell? ⟨BA, 4, none⟩ = some (.int .i64 f) := dA5.cell 4 rfl
              have a5 : w5.cell? ⟨BA, 5, none⟩ = some (.int .i64 b) := dA5.cell 5 rfl
              have cS := fun w => some_30 K vno l h f b ok (i : Int) w
              go_wp2_with (go_at_call 14; refine (num4_any _ _).mono ?_; rintro e w' ⟨rfl, rfl⟩)
              refine (cS _).mono ?_
              rintro e w6 ⟨zz, p2, cap2, rfl, hI2, hM2, hE2, hl2, hb6⟩
              replace hbm := hbm.trans (hb6.mono hbm.size)
              have dA6 := At.below' hb6 dA5
              have dT6 := At.below' hb6 dT5
              obtain ⟨m, hmz⟩ : ∃ m, m = zz.length := ⟨_, rfl⟩
              rw [← hmz] at hl2 ⊢
              have HZ := Lib.hid hmz
              have cF := fun w => fine_ok op k WA tno tl th tf tb hmT hans w
              clear cS hb6 dA5 dT5 a0 a1 a2 a3 a4 a5 hmz
              go_upto_region 19 with (fail)
              go_cut [89] from 69 to 89 (fun v89 wx => v89 = .bool false ∧ Below w6.heap.size w6 wx)
              case first =>
                have t0 : w6.cell? ⟨BT, 0, none⟩ = some (.int .i64 WA) := dT6.cell 0 rfl
                have t1 : w6.cell? ⟨BT, 1, none⟩ = some (.bool tno) := dT6.cell 1 rfl
                have t2 : w6.cell? ⟨BT, 2, none⟩ = some (.int .i64 tl) := dT6.cell 2 rfl
                have t3 : w6.cell? ⟨BT, 3, none⟩ = some (.int .i64 th) := dT6.cell 3 rfl
                have t4 : w6.cell? ⟨BT, 4, none⟩ = some (.int .i64 tf) := dT6.cell 4 rfl
                have t5 : w6.cell? ⟨BT, 5, none⟩ = some (.int .i64 tb) := dT6.cell 5 rfl
                by_cases hm0 : m = 0
                · have hno := HG.out.1 (hE2 (List.length_eq_zero_iff.1 (by have := HZ.out; omega)))
                  have cNx := fun w => rNext_v WA tno tl th tf tb 0 okT (by omega) w
                  have HNO := Lib.hid hno
                  have t6 : ((m : Int) == 0) = true := by simp; omega
                  have HM0 := Lib.hid hm0
                  clear hno hM2 hE2 hI2 dA6 hbm hm0
                  go_wp2_with fail
                  refine (cF _).mono ?_
                  rintro e w7 ⟨rfl, hb7⟩
                  have dT7 := At.below' hb7 dT6
                  clear t0 t1 t2 t3 t4 t5 dT6 cF
                  have t0 : w7.cell? ⟨BT, 0, none⟩ = some (.int .i64 WA) := dT7.cell 0 rfl
                  have t1 : w7.cell? ⟨BT, 1, none⟩ = some (.bool tno) := dT7.cell 1 rfl
                  have t2 : w7.cell? ⟨BT, 2, none⟩ = some (.int .i64 tl) := dT7.cell 2 rfl
                  have t3 : w7.cell? ⟨BT, 3, none⟩ = some (.int .i64 th) := dT7.cell 3 rfl
                  have t4 : w7.cell? ⟨BT, 4, none⟩ = some (.int .i64 tf) := dT7.cell 4 rfl
                  have t5 : w7.cell? ⟨BT, 5, none⟩ = some (.int .i64 tb) := dT7.cell 5 rfl
                  go_wp2_with fail
                  refine (cNx _).mono ?_
                  rintro e w8 ⟨r, hr, rfl, hb8⟩
                  obtain rfl : r = -1 := by
                    rcases hr with ⟨h1, _⟩ | ⟨mm, _, _, hMm, _⟩
                    · exact h1
                    · exact absurd hMm (HNO.out mm)
                  have hb9 := hb7.trans (hb8.mono hb7.size)
                  clear hr hb7 hb8 dT7 t0 t1 t2 t3 t4 t5 cNx
                  go_wp2_with fail
                  go_meet
                  exact ⟨rfl, hb9⟩
                · have t6 : ((m : Int) == 0) = false := by simp; omega
                  clear hM2 hE2 hI2 dA6 hbm
                  go_wp2_with fail
                  refine (cF _).mono ?_
                  rintro e w7 ⟨rfl, hb7⟩
                  clear t0 t1 t2 t3 t4 t5 dT6 cF
                  go_wp2_with fail
                  go_meet
                  exact ⟨rfl, hb7⟩
              case rest =>
              obtain ⟨rfl, hbx⟩ := hcut
              replace hbm := hbm.trans (hbx.mono hbm.size)
              generalize wc = w7 at *
              have dA7 := At.below' hbx dA6
              have dT7 := At.below' hbx dT6
              have HX := Lib.hid hbx
              clear hbx dA6 dT6 cF hE2
              go_wp2_with fail
              go_loopw [14] (fun v14 wj => ∃ s : Nat, s ≤ m ∧ v14 = .int .i64 (s : Nat) ∧ Below w7.heap.size w7 wj) (fun v14 _ => m - (intOf v14).toNat)
              case atStart => exact ⟨0, by omega, rfl, Below.refl _ _⟩
              case round =>
                obtain ⟨s, hs, rfl, hbs⟩ := hrel
                by_cases hsm : s < m
                · have hs3 : (s : Int) < (m : Int) := by omega
                  have hzl : s < zz.length := by have := HZ.out; omega
                  obtain ⟨g, rfl, hc⟩ := hI2.resolve_left (by have := HZ.out; omega)
                  have cz := cell_below (cell_below (hc s hzl) HX.out) hbs
                  obtain ⟨z, hz⟩ : ∃ z : Nat, z = zz[s] := ⟨_, rfl⟩
                  rw [← hz] at cz
                  have hzA : MemV K vno l h f b z := by rw [hz]; exact hM2 _ (List.getElem_mem _)
                  obtain ⟨n, n1, n2, n3, n4⟩ := HG.out.2 z hzA
                  have hzn : Al.isN (z : Int) (Al.widthI k) := by rw [hKw]; exact isN_nat hzA.2.lt
                  have cOne : ∀ w, Calls Tryz.prog 25 #[.int .i64 op, .int .i64 k, .int .i64 z] w (Al.TwoPost (n : Int) 0 w) := fun w => by
                    have hh := Al.rOne_any op k z ho hk6 hzn w
                    rw [n1] at hh
                    exact hh
                  have dA8 := At.below' hbs dA7
                  have dT8 := At.below' hbs dT7
                  have cHo := fun w => holds_ok WA tno tl th tf tb okT n n2 n3 w
                  have cOa := fun w => rOnly_v K vno l h f b ok w
                  have HN4 := Lib.hid n4
                  have HZA := Lib.hid hzA
                  clear hz hc hM2 hI2 n1 n2 n3 n4 hzn dA7 dT7 hzA
                  go_wp2_with fail
                  refine (cOne _).mono ?_
                  rintro e w9 ⟨rfl, nd, rfl⟩
                  have dA9 := dA8.drewN nd
                  have dT9 := dT8.drewN nd
                  have hb9 := hbs.trans ((Joins.below_draws wr.heap.size wr nd).mono hbs.size)
                  clear dA8 dT8 cz cOne hbs
                  generalize wr.drewN nd = w9 at *
                  have t0 : w9.cell? ⟨BT, 0, none⟩ = some (.int .i64 WA) := dT9.cell 0 rfl
                  have t1 : w9.cell? ⟨BT, 1, none⟩ = some (.bool tno) := dT9.cell 1 rfl
                  have t2 : w9.cell? ⟨BT, 2, none⟩ = some (.int .i64 tl) := dT9.cell 2 rfl
                  have t3 : w9.cell? ⟨BT, 3, none⟩ = some (.int .i64 th) := dT9.cell 3 rfl
                  have t4 : w9.cell? ⟨BT, 4, none⟩ = some (.int .i64 tf) := dT9.cell 4 rfl
                  have t5 : w9.cell? ⟨BT, 5, none⟩ = some (.int .i64 tb) := dT9.cell 5 rfl
                  go_wp2_with fail
                  refine (cHo _).mono ?_
                  rintro e wA ⟨rfl, hbA⟩
                  have dAA := At.below' hbA dA9
                  have dTA := At.below' hbA dT9
                  replace hb9 := hb9.trans (hbA.mono hb9.size)
                  clear t0 t1 t2 t3 t4 t5 dA9 dT9 hbA cHo
                  have a0 : wA.cell? ⟨BA, 0, none⟩ = some (.int .i64 K) := dAA.cell 0 rfl
                  have a1 : wA.cell? ⟨BA, 1, none⟩ = some (.bool vno) := dAA.cell 1 rfl
                  have a2 : wA.cell? ⟨BA, 2, none⟩ = some (.int .i64 l) := dAA.cell 2 rfl
                  have a3 : wA.cell? ⟨BA, 3, none⟩ = some (.int .i64 h) := dAA.cell 3 rfl
                  have a4 : wA.cell? ⟨BA, 4, none⟩ = some (.int .i64 f) := dAA.cell 4 rfl
                  have a5 : wA.cell? ⟨BA, 5, none⟩ = some (.int .i64 b) := dAA.cell 5 rfl
                  go_wp2_with fail
                  refine (cOa _).mono ?_
                  rintro e wB ⟨x, is, hx, rfl, hbB⟩
                  have dTB := At.below' hbB dTA
                  replace hb9 := hb9.trans (hbB.mono hb9.size)
                  clear a0 a1 a2 a3 a4 a5 dAA dTA hbB cOa
                  cases is
                  · clear hx dTB
                    go_wp2_with fail
                    go_roundw
                    case rel => exact ⟨s + 1, by omega, by go_num, hb9⟩
                    case measure => simp [intOf]; omega
                  · have hone : ∀ y, MemV K vno l h f b y ↔ y = z := by
                      rcases hx with ⟨_, m2, _, h3⟩ | ⟨h1, _⟩
                      · have := (h3 z).1 HZA.out
                        subst this
                        exact h3
                      · cases h1
                    have cJu := fun w => just_ok WA tno tl th tf tb okT n (HN4.out hone) w
                    have t0 : wB.cell? ⟨BT, 0, none⟩ = some (.int .i64 WA) := dTB.cell 0 rfl
                    have t1 : wB.cell? ⟨BT, 1, none⟩ = some (.bool tno) := dTB.cell 1 rfl
                    have t2 : wB.cell? ⟨BT, 2, none⟩ = some (.int .i64 tl) := dTB.cell 2 rfl
                    have t3 : wB.cell? ⟨BT, 3, none⟩ = some (.int .i64 th) := dTB.cell 3 rfl
                    have t4 : wB.cell? ⟨BT, 4, none⟩ = some (.int .i64 tf) := dTB.cell 4 rfl
                    have t5 : wB.cell? ⟨BT, 5, none⟩ = some (.int .i64 tb) := dTB.cell 5 rfl
                    clear hone hx
                    go_wp2_with fail
                    refine (cJu _).mono ?_
                    rintro e wC ⟨rfl, hbC⟩
                    have hbD := hb9.trans (hbC.mono hb9.size)
                    clear t0 t1 t2 t3 t4 t5 dTB hbC cJu hb9
                    go_wp2_with fail
                    go_roundw
                    case rel => exact ⟨s + 1, by omega, by go_num, hbD⟩
                    case measure => simp [intOf]; omega
                · have hs3 : decide ((s : Int) < (m : Int)) = false := by simp; omega
                  have hbk := hbm.trans (hbs.mono hbm.size)
                  clear hbs hbm dA7 dT7 hM2 hI2
                  go_wp2_with fail
                  go_roundw
                  case rel => exact ⟨i + 1, by omega, by go_num, hbk⟩
                  case measure => simp [intOf]; omega
          · have hil3 : decide ((i : Int) < (len : Int)) = false := by simp; omega
            have hbk := hbK.trans (hbi.mono hbK.size)
            clear hI hbi hbK
            go_wp2_with fail
            go_roundw
            case rel => exact ⟨k + 1, by omega, by go_num, hbk⟩
            case measure => simp [intOf]; omega
      · have t0 : decide ((k : Int) ≤ 7) = false := by simp; omega
        clear c0 c1 d1
        go_wp2_with fail
        refine (cW _).mono ?_
        rintro e w2 ⟨rfl, hb2⟩
        have hbF := hbx.trans (hb2.mono hbx.size)
        clear hb2 hbx hbr cW
        go_wp2_with fail
        go_ret
        rw [HBP.out] at *
        exact ⟨rfl, hbF⟩
  · clear cW hBP
    go_wp2_with fail
    go_ret
    exact ⟨rfl, hb0⟩
end Go.Proofs.YtblahbmhbfcggaaGreatDoor

/- MathsZero's walk. -/
namespace Go.Proofs.YtblahbmhbfcggaaGreatDoor
open Go.ChangeShapes Go.WideShapes Go.ChangeAt Go.RowKit Go.Joins Go.Deep
set_option linter.unusedVariables false

set_option maxRecDepth 100000 in
set_option maxHeartbeats 1600000 in
theorem mathsZero_holds (pv : Option Addr) (lv cv : Nat) (vs : List VI) (pn : Option Addr) (ln cn : Nat) (zs : List Int) (w : World) (hv : IsVals w pv lv vs) (hn : IsInts w pn ln zs) :
    Calls Tryz.prog 5 #[.agg #[.slice pv lv cv, .slice pn ln cn]] w fun e w' => e = .returned (.bool true) ∧ Below w.heap.size w w' := by
  have d0 := At.new w #[.slice pv lv cv, .slice pn ln cn] 25
  have hb0 : Below w.heap.size w (w.alloc (.cells #[.slice pv lv cv, .slice pn ln cn] 25)) := (Below.refl _ _).alloc (Nat.le_refl _) _
  go_enter Tryz.func5, Tryz.ntmps5
  go_upto_region 1 with (fail)
  generalize w.alloc (.cells #[.slice pv lv cv, .slice pn ln cn] 25) = w0 at *
  have c0 : w0.cell? ⟨w.heap.size, 0, none⟩ = some (.slice pv lv cv) := d0.cell 0 rfl
  have c1 : w0.cell? ⟨w.heap.size, 1, none⟩ = some (.slice pn ln cn) := d0.cell 1 rfl
  go_wp2_with fail
  refine (ones_good 7 (by omega) zero_good pv lv cv vs pn ln cn zs _ (hv.below hb0) (hn.below hb0)).mono ?_
  rintro e w1 ⟨rfl, hb⟩
  replace hb0 := hb0.trans (hb.mono hb0.size)
  clear c0 c1 hb d0
  go_wp2_with fail
  go_ret
  exact ⟨rfl, hb0⟩
end Go.Proofs.YtblahbmhbfcggaaGreatDoor
