/- FilterZero: the law's last question. -/
import Derived.Test.YtdbbfcnblgokpaaGreatDoorZeroA
import Derived.Test.YtdbbfcnblgokpaaGreatDoorFTwoYes
namespace Go.Proofs.YtdbbfcnblgokpaaGreatDoor
open Go.ChangeShapes Go.WideShapes Go.ChangeAt Go.RowKit Go.Joins Go.Deep
set_option linter.unusedVariables false

set_option maxRecDepth 100000 in
set_option maxHeartbeats 1600000 in
theorem rAll_8 (w : World) : Calls Tryz.prog 26 #[.int .i64 8] w fun e w' => e = .returned (valV 8 false 0 255 255 0) ∧ Below w.heap.size w w' := by
  have hb0 : Below w.heap.size w (w.alloc (.cells #[.int .i64 8, .bool false, .int .i64 0, .int .i64 255, .int .i64 255, .int .i64 0] 28)) := (Below.refl _ _).alloc (Nat.le_refl _) _
  go_enter Tryz.func26, Tryz.ntmps26
  go_wp2_with fail
  go_region
  all_goals
    go_wp2_with fail
    exact bodyPost_ret (v := valV 8 false 0 255 255 0) (by simp [results, Tryz.results26, go_sem]) rfl ⟨rfl, hb0.drew⟩
set_option maxRecDepth 100000 in
set_option maxHeartbeats 1600000 in
theorem rJust_83 (w : World) : Calls Tryz.prog 27 #[.int .i64 8, .int .i64 3] w fun e w' => e = .returned (valV 8 false 3 3 0 3) ∧ Below w.heap.size w w' := by
  have hb0 : Below w.heap.size w (w.alloc (.cells #[.int .i64 8, .bool false, .int .i64 3, .int .i64 3, .int .i64 0, .int .i64 3] 28)) := (Below.refl _ _).alloc (Nat.le_refl _) _
  go_enter Tryz.func27, Tryz.ntmps27
  go_wp2_with fail
  exact bodyPost_ret (v := valV 8 false 3 3 0 3) (by simp [results, Tryz.results27, go_sem]) rfl ⟨rfl, hb0⟩
set_option maxRecDepth 100000 in
set_option maxHeartbeats 1600000 in
theorem wakes_hold : WakesHold := by
  intro w
  have okA : ValOk 8 false 0 255 255 0 := all_ok (Or.inl rfl) (by decide)
  have okB : ValOk 8 false 3 3 0 3 := one_ok (Or.inl rfl) (by decide)
  have hmA : mayB (8 : Nat) false (0 : Nat) (255 : Nat) (255 : Nat) (0 : Nat) = true := ok_may okA (fun h => by cases h)
  have hmB : mayB (8 : Nat) false (3 : Nat) (3 : Nat) (0 : Nat) (3 : Nat) = true := ok_may okB (fun h => by cases h)
  have hA3 : MemV 8 false 0 255 255 0 3 := (hasB_iff okA (by decide : (3 : Nat) < 2 ^ 8)).1 (by unfold hasB; rw [hasAll okA (by decide) (by decide)]; rfl)
  have hB3 : MemV 8 false 3 3 0 3 3 := (mem1 (k := 8) (n := 3) (by decide)).2 rfl
  have HA3 := Lib.hid hA3
  have HB3 := Lib.hid hB3
  have cT : ∀ w, Calls Tryz.prog 25 #[.int .i64 18, .int .i64 1, .agg #[.int .i64 8, .bool false, .int .i64 0, .int .i64 255, .int .i64 255, .int .i64 0], .agg #[.int .i64 8, .bool false, .int .i64 3, .int .i64 3, .int .i64 0, .int .i64 3], .bool true] w (FTwoPost 8 (MemV 8 false 0 255 255 0) (MemV 8 false 3 3 0 3) w) := fun w => FTwo_yes 1 (by decide) 8 rfl false 0 255 255 0 false 3 3 0 3 okA okB hmA hmB ⟨3, hA3, hB3⟩ w
  have cZ : ∀ w, Calls Tryz.prog 5 #[.agg #[.int .i64 8, .bool false, .int .i64 3, .int .i64 3, .int .i64 0, .int .i64 3], .bool true] w (ZeroPost 8 true (MemV 8 false 3 3 0 3) w) := fun w => Zero_yes 8 false 3 3 0 3 okB hmB true w
  clear okA okB hmA hmB hA3 hB3
  go_enter Tryz.func12, Tryz.ntmps12
  go_wp2_with fail
  refine (rAll_8 _).mono ?_
  rintro e w1 ⟨rfl, hb1⟩
  go_wp2_with fail
  refine (rJust_83 _).mono ?_
  rintro e w2 ⟨rfl, hb2⟩
  have hb0 := hb1.trans (hb2.mono hb1.size)
  clear hb1 hb2
  go_wp2_with fail
  refine (cT _).mono ?_
  rintro e w3 ⟨xno, xl, xh, xf, xb, yno, yl, yh, yf, yb, rfl, okX, x1, hb3⟩
  have hx3 := x1 3 HA3.out HB3.out
  have HX3 := Lib.hid hx3
  replace hb0 := hb0.trans (hb3.mono hb0.size)
  obtain ⟨dX, _, hb4⟩ := two_boxes w3 #[.int .i64 8, .bool xno, .int .i64 xl, .int .i64 xh, .int .i64 xf, .int .i64 xb] #[.int .i64 8, .bool yno, .int .i64 yl, .int .i64 yh, .int .i64 yf, .int .i64 yb] 28
  replace hb0 := hb0.trans (hb4.mono hb0.size)
  obtain ⟨BX, hBX⟩ : ∃ B, B = w3.heap.size := ⟨_, rfl⟩
  rw [← hBX] at dX
  clear hb3 hb4 x1 hx3 cT HA3 HB3
  go_upto_region 2 with (fail)
  rw [← hBX]
  clear hBX
  generalize ((w3.alloc (.cells #[.int .i64 8, .bool xno, .int .i64 xl, .int .i64 xh, .int .i64 xf, .int .i64 xb] 28)).alloc (.cells #[.int .i64 8, .bool yno, .int .i64 yl, .int .i64 yh, .int .i64 yf, .int .i64 yb] 28)) = w4 at *
  go_wp2_with fail
  refine (rJust_83 _).mono ?_
  rintro e w5 ⟨rfl, hb5⟩
  replace dX := At.below' hb5 dX
  replace hb0 := hb0.trans (hb5.mono hb0.size)
  clear hb5
  go_wp2_with fail
  refine (cZ _).mono ?_
  rintro e w6 ⟨zno, zl, zh, zf, zb, rfl, okZ, hmZ, hz, hb6⟩
  have hno : ∀ z, ¬ MemV 8 zno zl zh zf zb z := fun z h => by
    have h1 := (hz.1 rfl z).1 h
    have h2 := (mem1 (k := 8) (n := 3) (by decide)).1 h1.2
    omega
  have HN := Lib.hid hno
  replace dX := At.alloc (At.below' hb6 dX) (.cells #[.int .i64 8, .bool zno, .int .i64 zl, .int .i64 zh, .int .i64 zf, .int .i64 zb] 28)
  replace hb0 := (hb0.trans (hb6.mono hb0.size)).alloc (hb0.trans (hb6.mono hb0.size)).size (.cells #[.int .i64 8, .bool zno, .int .i64 zl, .int .i64 zh, .int .i64 zf, .int .i64 zb] 28)
  have dZ := At.new w6 #[.int .i64 8, .bool zno, .int .i64 zl, .int .i64 zh, .int .i64 zf, .int .i64 zb] 28
  obtain ⟨BZ, hBZ⟩ : ∃ B, B = w6.heap.size := ⟨_, rfl⟩
  rw [← hBZ] at dZ
  clear hb6 hz hno cZ
  go_upto_region 3 with (fail)
  rw [← hBZ]
  clear hBZ
  generalize w6.alloc (.cells #[.int .i64 8, .bool zno, .int .i64 zl, .int .i64 zh, .int .i64 zf, .int .i64 zb] 28) = w7 at *
  have cH : ∀ w, Calls Tryz.prog 10 #[.agg #[.int .i64 8, .bool xno, .int .i64 xl, .int .i64 xh, .int .i64 xf, .int .i64 xb], .int .i64 3] w (fun e w' => e = .returned (.bool true) ∧ Below w.heap.size w w') := fun w => by
    have h := rHas_b 8 xno xl xh xf xb 3 okX (by decide) w
    rw [(hasB_iff okX (by decide : (3 : Nat) < 2 ^ 8)).2 HX3.out] at h
    exact h
  have cN := fun w => rNext_f 8 zno zl zh zf zb okZ (-1) (Or.inl ⟨rfl, fun z _ => HN.out z⟩) w
  have cV := fun w => rVal_any (8 : Nat) zno (zl : Int) (zh : Int) (zf : Int) (zb : Int) w
  rw [hmZ] at cV
  have x0 : w7.cell? ⟨BX, 0, none⟩ = some (.int .i64 8) := dX.cell 0 rfl
  have x1 : w7.cell? ⟨BX, 1, none⟩ = some (.bool xno) := dX.cell 1 rfl
  have x2 : w7.cell? ⟨BX, 2, none⟩ = some (.int .i64 xl) := dX.cell 2 rfl
  have x3 : w7.cell? ⟨BX, 3, none⟩ = some (.int .i64 xh) := dX.cell 3 rfl
  have x4 : w7.cell? ⟨BX, 4, none⟩ = some (.int .i64 xf) := dX.cell 4 rfl
  have x5 : w7.cell? ⟨BX, 5, none⟩ = some (.int .i64 xb) := dX.cell 5 rfl
  clear HX3 HN okX okZ hmZ dX
  go_wp2_with ((go_at_call 7; refine (num5_any _ _).mono ?_; rintro e w' ⟨rfl, rfl⟩))
  refine (cH _).mono ?_
  rintro e w8 ⟨rfl, hb8⟩
  replace dZ := At.below' hb8 dZ
  replace hb0 := hb0.trans (hb8.mono hb0.size)
  clear hb8 cH x0 x1 x2 x3 x4 x5
  have z0 : w8.cell? ⟨BZ, 0, none⟩ = some (.int .i64 8) := dZ.cell 0 rfl
  have z1 : w8.cell? ⟨BZ, 1, none⟩ = some (.bool zno) := dZ.cell 1 rfl
  have z2 : w8.cell? ⟨BZ, 2, none⟩ = some (.int .i64 zl) := dZ.cell 2 rfl
  have z3 : w8.cell? ⟨BZ, 3, none⟩ = some (.int .i64 zh) := dZ.cell 3 rfl
  have z4 : w8.cell? ⟨BZ, 4, none⟩ = some (.int .i64 zf) := dZ.cell 4 rfl
  have z5 : w8.cell? ⟨BZ, 5, none⟩ = some (.int .i64 zb) := dZ.cell 5 rfl
  go_wp2_with fail
  refine (cN _).mono ?_
  rintro e w9 ⟨rfl, hb9⟩
  replace dZ := At.below' hb9 dZ
  replace hb0 := hb0.trans (hb9.mono hb0.size)
  clear hb9 cN z0 z1 z2 z3 z4 z5
  have z0 : w9.cell? ⟨BZ, 0, none⟩ = some (.int .i64 8) := dZ.cell 0 rfl
  have z1 : w9.cell? ⟨BZ, 1, none⟩ = some (.bool zno) := dZ.cell 1 rfl
  have z2 : w9.cell? ⟨BZ, 2, none⟩ = some (.int .i64 zl) := dZ.cell 2 rfl
  have z3 : w9.cell? ⟨BZ, 3, none⟩ = some (.int .i64 zh) := dZ.cell 3 rfl
  have z4 : w9.cell? ⟨BZ, 4, none⟩ = some (.int .i64 zf) := dZ.cell 4 rfl
  have z5 : w9.cell? ⟨BZ, 5, none⟩ = some (.int .i64 zb) := dZ.cell 5 rfl
  go_wp2_with fail
  refine (cV _).mono ?_
  rintro e wA ⟨rfl, hbA⟩
  replace hb0 := hb0.trans (hbA.mono hb0.size)
  clear hbA cV dZ z0 z1 z2 z3 z4 z5
  go_wp2_with fail
  go_ret
  exact ⟨rfl, hb0⟩
theorem zero_holds (pv : Option Addr) (lv cv : Nat) (vs : List VI) (pn : Option Addr) (ln cn : Nat) (zs : List Int) (w : World) (hv : IsVals w pv lv vs) (hn : IsInts w pn ln zs) (hcn : pn = none → cn = 0) :
    Calls Tryz.prog 3 #[.agg #[.slice pv lv cv, .slice pn ln cn]] w fun e w' => e = .returned (.bool true) ∧ Below w.heap.size w w' := zero_loop wakes_hold pv lv cv vs pn ln cn zs w hv hn hcn
end Go.Proofs.YtdbbfcnblgokpaaGreatDoor
