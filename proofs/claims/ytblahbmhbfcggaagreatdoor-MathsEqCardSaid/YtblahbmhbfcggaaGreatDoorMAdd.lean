/- Package maths: a call's work at the operator add, width 8. -/
import Derived.Test.YtblahbmhbfcggaaGreatDoorFMTwo
import Derived.Test.YtblahbmhbfcggaaGreatDoorMOnce
namespace Go.Proofs.YtblahbmhbfcggaaGreatDoor
open Go.ChangeShapes Go.WideShapes Go.ChangeAt Go.RowKit Go.Joins Go.Deep
set_option linter.unusedVariables false

def Wk8 (w : World) (bw : Nat) (kd W : Int) (sg : Bool) (tno : Bool) (tl th tf tb : Nat) : Prop := At w bw (wkC kd W sg 8 8 tno tl th tf tb 0) 80
def Tells8 (w : World) (bw : Nat) (kd W : Int) (sg : Bool) (P : (Nat → Prop) → Prop) : Prop := ∃ tno tl th tf tb, Wk8 w bw kd W sg tno tl th tf tb ∧ ValOk 8 tno tl th tf tb ∧ mayB (8 : Nat) tno tl th tf tb = true ∧ P (MemV 8 tno tl th tf tb)
set_option maxRecDepth 100000 in
set_option maxHeartbeats 1600000 in
theorem add8 (bw : Nat) (kd W : Int) (sg : Bool) (tno : Bool) (tl th tf tb : Nat) (okT : ValOk 8 tno tl th tf tb) (hmT : mayB (8 : Nat) tno tl th tf tb = true) (n : Nat) (hn : n < 256) (w : World) (hA : Wk8 w bw kd W sg tno tl th tf tb) :
    Calls Tryz.prog 73 #[.pointer (some ⟨bw, 0, none⟩), .int .i64 n, .int .i64 n, .agg #[.int .i64 0, .int .i64 n]] w fun e w' => e = .returned (.tuple #[]) ∧ Tells8 w' bw kd W sg (fun M => (∀ z, MemV 8 tno tl th tf tb z ∨ z = n → M z) ∧ ((∀ z, MemV 8 tno tl th tf tb z → z = n) → ∀ z, M z ↔ z = n)) ∧ Keeps bw w w' := by
  unfold Wk8 wkC at hA
  have ok1 : ValOk 8 false n n 0 n := one_ok (Or.inl rfl) hn
  have hm1 : mayB (8 : Nat) false (n : Nat) (n : Nat) (0 : Nat) (n : Nat) = true := ok_may ok1 (fun h => by cases h)
  have cA := fun w => All_yes 8 (Or.inl rfl) w
  rw [show wrapI (-1) 8 = 255 from rfl] at cA
  have cJ := fun w => Join_yes meet_holds merge_holds 8 tno tl th tf tb false n n 0 n okT ok1 hmT hm1 w
  have en := and_top8 n hn
  have e0 : bits .and .i64 0 255 = 0 := and_top8 0 (by omega)
  have hlt := hA.lt
  have dP := At.new w #[.int .i64 0, .int .i64 n] 110
  have hb0 : Below w.heap.size w (w.alloc (.cells #[.int .i64 0, .int .i64 n] 110)) := (Below.refl _ _).alloc (Nat.le_refl _) _
  have hW := At.alloc hA (.cells #[.int .i64 0, .int .i64 n] 110)
  have c4 : (w.alloc (.cells #[.int .i64 0, .int .i64 n] 110)).cell? ⟨bw, 4, none⟩ = some (.int .i64 8) := hW.cell 4 rfl
  clear hmT hm1
  go_enter Tryz.func73, Tryz.ntmps73
  go_wp2_with fail
  refine (cA _).mono ?_
  rintro e w1 ⟨rfl, hb1⟩
  replace dP := At.alloc (At.below' hb1 dP) (.cells #[.int .i64 8, .bool false, .int .i64 0, .int .i64 255, .int .i64 255, .int .i64 0] 30)
  replace hW := At.alloc (At.below' hb1 hW) (.cells #[.int .i64 8, .bool false, .int .i64 0, .int .i64 255, .int .i64 255, .int .i64 0] 30)
  replace hb0 := (hb0.trans (hb1.mono hb0.size)).alloc (hb0.trans (hb1.mono hb0.size)).size (.cells #[.int .i64 8, .bool false, .int .i64 0, .int .i64 255, .int .i64 255, .int .i64 0] 30)
  have dV := At.new w1 #[.int .i64 8, .bool false, .int .i64 0, .int .i64 255, .int .i64 255, .int .i64 0] 30
  obtain ⟨BV, hBV⟩ : ∃ B, B = w1.heap.size := ⟨_, rfl⟩
  obtain ⟨BP, hBP⟩ : ∃ B, B = w.heap.size := ⟨_, rfl⟩
  have hPV : BP < BV := by have := hb1.size; simp at this; omega
  have hwP : bw < BP := by omega
  rw [← hBV] at dV
  rw [← hBP] at dP hb0 ⊢
  have HBP := Lib.hid hBP
  clear hb1 c4 hBP cA
  go_upto_region 2 with (fail)
  rw [← hBV]
  clear hBV
  generalize w1.alloc (.cells #[.int .i64 8, .bool false, .int .i64 0, .int .i64 255, .int .i64 255, .int .i64 0] 30) = w2 at *
  have HB := Lib.hid hb0
  have v3 : w2.cell? ⟨BV, 3, none⟩ = some (.int .i64 255) := dV.cell 3 rfl
  have v2 : w2.cell? ⟨BV, 2, none⟩ = some (.int .i64 0) := dV.cell 2 rfl
  have fv2 := At.free dV 2
  have dV2 : At (w2.setCell ⟨BV, 2, none⟩ (.int .i64 n)) BV #[.int .i64 8, .bool false, .int .i64 n, .int .i64 255, .int .i64 255, .int .i64 0] 30 := At.set dV 2 (.int .i64 n) (by simp)
  have fv3 := At.free dV2 3
  have v3b : (w2.setCell ⟨BV, 2, none⟩ (.int .i64 n)).cell? ⟨BV, 3, none⟩ = some (.int .i64 255) := dV2.cell 3 rfl
  have dV3 : At ((w2.setCell ⟨BV, 2, none⟩ (.int .i64 n)).setCell ⟨BV, 3, none⟩ (.int .i64 n)) BV #[.int .i64 8, .bool false, .int .i64 n, .int .i64 n, .int .i64 255, .int .i64 0] 30 := At.set dV2 3 (.int .i64 n) (by simp)
  have kV : Keeps BV w2 ((w2.setCell ⟨BV, 2, none⟩ (.int .i64 n)).setCell ⟨BV, 3, none⟩ (.int .i64 n)) := ((Keeps.refl BV w2).setCell 2 (.int .i64 n)).setCell 3 (.int .i64 n)
  have dP3 := At.keeps dP kV (by omega)
  have hW3 := At.keeps hW kV (by omega)
  have hb3 : Below BP w ((w2.setCell ⟨BV, 2, none⟩ (.int .i64 n)).setCell ⟨BV, 3, none⟩ (.int .i64 n)) := (hb0.setCell (p := ⟨BV, 2, none⟩) (by show BP ≤ BV; omega) (.int .i64 n)).setCell (p := ⟨BV, 3, none⟩) (by show BP ≤ BV; omega) (.int .i64 n)
  clear dV dV2 dP hW hb0 kV
  go_upto_region 5 with (fail)
  generalize ((w2.setCell ⟨BV, 2, none⟩ (.int .i64 n)).setCell ⟨BV, 3, none⟩ (.int .i64 n)) = w3 at *
  clear v3 v2 fv2 fv3 v3b
  go_cut [] from 38 to 47 (fun wx => At wx BV #[.int .i64 8, .bool false, .int .i64 n, .int .i64 n, .int .i64 0, .int .i64 n] 30 ∧ At wx BP #[.int .i64 0, .int .i64 n] 110 ∧ At wx bw #[.int .i64 kd, .int .i64 W, .bool sg, .int .i64 8, .int .i64 8, .bool tno, .int .i64 tl, .int .i64 th, .int .i64 tf, .int .i64 tb, .int .i32 0] 80 ∧ Below BP w wx)
  case first =>
    have p0 : w3.cell? ⟨BP, 0, none⟩ = some (.int .i64 0) := dP3.cell 0 rfl
    have p1 : w3.cell? ⟨BP, 1, none⟩ = some (.int .i64 n) := dP3.cell 1 rfl
    have d4 : At (w3.setCell ⟨BV, 4, none⟩ (.int .i64 0)) BV #[.int .i64 8, .bool false, .int .i64 n, .int .i64 n, .int .i64 0, .int .i64 0] 30 := At.set dV3 4 (.int .i64 0) (by simp)
    have d5 : At (w3.setCell ⟨BV, 5, none⟩ (.int .i64 n)) BV #[.int .i64 8, .bool false, .int .i64 n, .int .i64 n, .int .i64 255, .int .i64 n] 30 := At.set dV3 5 (.int .i64 n) (by simp)
    have d45 : At ((w3.setCell ⟨BV, 4, none⟩ (.int .i64 0)).setCell ⟨BV, 5, none⟩ (.int .i64 n)) BV #[.int .i64 8, .bool false, .int .i64 n, .int .i64 n, .int .i64 0, .int .i64 n] 30 := At.set d4 5 (.int .i64 n) (by simp)
    have d54 : At ((w3.setCell ⟨BV, 5, none⟩ (.int .i64 n)).setCell ⟨BV, 4, none⟩ (.int .i64 0)) BV #[.int .i64 8, .bool false, .int .i64 n, .int .i64 n, .int .i64 0, .int .i64 n] 30 := At.set d5 4 (.int .i64 0) (by simp)
    have k4 : Keeps BV w3 (w3.setCell ⟨BV, 4, none⟩ (.int .i64 0)) := (Keeps.refl BV w3).setCell 4 (.int .i64 0)
    have k5 : Keeps BV w3 (w3.setCell ⟨BV, 5, none⟩ (.int .i64 n)) := (Keeps.refl BV w3).setCell 5 (.int .i64 n)
    have k45 : Keeps BV w3 ((w3.setCell ⟨BV, 4, none⟩ (.int .i64 0)).setCell ⟨BV, 5, none⟩ (.int .i64 n)) := k4.setCell 5 (.int .i64 n)
    have k54 : Keeps BV w3 ((w3.setCell ⟨BV, 5, none⟩ (.int .i64 n)).setCell ⟨BV, 4, none⟩ (.int .i64 0)) := k5.setCell 4 (.int .i64 0)
    have e4 := At.keeps dP3 k4 (by omega)
    have e5 := At.keeps dP3 k5 (by omega)
    have q0 : (w3.setCell ⟨BV, 5, none⟩ (.int .i64 n)).cell? ⟨BP, 0, none⟩ = some (.int .i64 0) := e5.cell 0 rfl
    have q1 : (w3.setCell ⟨BV, 4, none⟩ (.int .i64 0)).cell? ⟨BP, 1, none⟩ = some (.int .i64 n) := e4.cell 1 rfl
    have v4 : w3.cell? ⟨BV, 4, none⟩ = some (.int .i64 255) := dV3.cell 4 rfl
    have v5 : w3.cell? ⟨BV, 5, none⟩ = some (.int .i64 0) := dV3.cell 5 rfl
    have f4 := At.free dV3 4
    have f5 := At.free dV3 5
    have v45 : (w3.setCell ⟨BV, 5, none⟩ (.int .i64 n)).cell? ⟨BV, 4, none⟩ = some (.int .i64 255) := d5.cell 4 rfl
    have v54 : (w3.setCell ⟨BV, 4, none⟩ (.int .i64 0)).cell? ⟨BV, 5, none⟩ = some (.int .i64 0) := d4.cell 5 rfl
    have f45 := At.free d5 4
    have f54 := At.free d4 5
    have fin45 : At ((w3.setCell ⟨BV, 4, none⟩ (.int .i64 0)).setCell ⟨BV, 5, none⟩ (.int .i64 n)).drew BV #[.int .i64 8, .bool false, .int .i64 n, .int .i64 n, .int .i64 0, .int .i64 n] 30 ∧ At ((w3.setCell ⟨BV, 4, none⟩ (.int .i64 0)).setCell ⟨BV, 5, none⟩ (.int .i64 n)).drew BP #[.int .i64 0, .int .i64 n] 110 ∧ At ((w3.setCell ⟨BV, 4, none⟩ (.int .i64 0)).setCell ⟨BV, 5, none⟩ (.int .i64 n)).drew bw #[.int .i64 kd, .int .i64 W, .bool sg, .int .i64 8, .int .i64 8, .bool tno, .int .i64 tl, .int .i64 th, .int .i64 tf, .int .i64 tb, .int .i32 0] 80 ∧ Below BP w ((w3.setCell ⟨BV, 4, none⟩ (.int .i64 0)).setCell ⟨BV, 5, none⟩ (.int .i64 n)).drew := ⟨d45.drew, (At.keeps dP3 k45 (by omega)).drew, (At.keeps hW3 k45 (by omega)).drew, ((hb3.setCell (p := ⟨BV, 4, none⟩) (by show BP ≤ BV; omega) (.int .i64 0)).setCell (p := ⟨BV, 5, none⟩) (by show BP ≤ BV; omega) (.int .i64 n)).drew⟩
    have fin54 : At ((w3.setCell ⟨BV, 5, none⟩ (.int .i64 n)).setCell ⟨BV, 4, none⟩ (.int .i64 0)).drew BV #[.int .i64 8, .bool false, .int .i64 n, .int .i64 n, .int .i64 0, .int .i64 n] 30 ∧ At ((w3.setCell ⟨BV, 5, none⟩ (.int .i64 n)).setCell ⟨BV, 4, none⟩ (.int .i64 0)).drew BP #[.int .i64 0, .int .i64 n] 110 ∧ At ((w3.setCell ⟨BV, 5, none⟩ (.int .i64 n)).setCell ⟨BV, 4, none⟩ (.int .i64 0)).drew bw #[.int .i64 kd, .int .i64 W, .bool sg, .int .i64 8, .int .i64 8, .bool tno, .int .i64 tl, .int .i64 th, .int .i64 tf, .int .i64 tb, .int .i32 0] 80 ∧ Below BP w ((w3.setCell ⟨BV, 5, none⟩ (.int .i64 n)).setCell ⟨BV, 4, none⟩ (.int .i64 0)).drew := ⟨d54.drew, (At.keeps dP3 k54 (by omega)).drew, (At.keeps hW3 k54 (by omega)).drew, ((hb3.setCell (p := ⟨BV, 5, none⟩) (by show BP ≤ BV; omega) (.int .i64 n)).setCell (p := ⟨BV, 4, none⟩) (by show BP ≤ BV; omega) (.int .i64 0)).drew⟩
    have F1 := Lib.hid fin45
    have F2 := Lib.hid fin54
    clear dV3 dP3 hW3 hb3 d4 d5 d45 d54 k4 k5 k45 k54 e4 e5 fin45 fin54 cJ okT ok1 hA
    go_region
    all_goals
      go_wp2_with fail
      go_meet
      first | exact F1.out | exact F2.out
  case rest =>
  obtain ⟨dV4, dP4, hW4, hb4⟩ := hcut
  generalize wc = w4 at *
  clear dV3 dP3 hW3 hb3 e0 en
  go_upto_region 6 with (fail)
  have v0 : w4.cell? ⟨BV, 0, none⟩ = some (.int .i64 8) := dV4.cell 0 rfl
  have v1 : w4.cell? ⟨BV, 1, none⟩ = some (.bool false) := dV4.cell 1 rfl
  have v2 : w4.cell? ⟨BV, 2, none⟩ = some (.int .i64 n) := dV4.cell 2 rfl
  have v3 : w4.cell? ⟨BV, 3, none⟩ = some (.int .i64 n) := dV4.cell 3 rfl
  have v4 : w4.cell? ⟨BV, 4, none⟩ = some (.int .i64 0) := dV4.cell 4 rfl
  have v5 : w4.cell? ⟨BV, 5, none⟩ = some (.int .i64 n) := dV4.cell 5 rfl
  have o0 : w4.cell? ⟨bw, 4, none⟩ = some (.int .i64 8) := hW4.cell 4 rfl
  have o1 : w4.cell? ⟨bw, 5, none⟩ = some (.bool tno) := hW4.cell 5 rfl
  have o2 : w4.cell? ⟨bw, 6, none⟩ = some (.int .i64 tl) := hW4.cell 6 rfl
  have o3 : w4.cell? ⟨bw, 7, none⟩ = some (.int .i64 th) := hW4.cell 7 rfl
  have o4 : w4.cell? ⟨bw, 8, none⟩ = some (.int .i64 tf) := hW4.cell 8 rfl
  have o5 : w4.cell? ⟨bw, 9, none⟩ = some (.int .i64 tb) := hW4.cell 9 rfl
  have HW := Lib.hid hW4
  have hs4 := hb4.size
  clear dV4 dP4 hW4 hA
  go_region_with
    ((go_at_call 116; refine (cJ _).mono ?_; rintro e w5 ⟨xno, xl, xh, xf, xb, rfl, okX, hmX, xall, xone, hb5⟩
      have dW5 := At.below' hb5 HW.out.drew
      have tc0 : w5.cell? ⟨bw, 4, none⟩ = some (.int .i64 8) := dW5.cell 4 rfl
      have tf0 : w5.frozen? ⟨bw, 4, none⟩ = false := At.free dW5 4
      have ts0 : At (w5.setCell ⟨bw, 4, none⟩ (.int .i64 8)) bw #[.int .i64 kd, .int .i64 W, .bool sg, .int .i64 8, .int .i64 8, .bool tno, .int .i64 tl, .int .i64 th, .int .i64 tf, .int .i64 tb, .int .i32 0] 80 := At.set dW5 4 (.int .i64 8) (by simp)
      have tc1 : (w5.setCell ⟨bw, 4, none⟩ (.int .i64 8)).cell? ⟨bw, 5, none⟩ = some (.bool tno) := ts0.cell 5 rfl
      have tf1 : (w5.setCell ⟨bw, 4, none⟩ (.int .i64 8)).frozen? ⟨bw, 5, none⟩ = false := At.free ts0 5
      have ts1 : At ((w5.setCell ⟨bw, 4, none⟩ (.int .i64 8)).setCell ⟨bw, 5, none⟩ (.bool xno)) bw #[.int .i64 kd, .int .i64 W, .bool sg, .int .i64 8, .int .i64 8, .bool xno, .int .i64 tl, .int .i64 th, .int .i64 tf, .int .i64 tb, .int .i32 0] 80 := At.set ts0 5 (.bool xno) (by simp)
      have tc2 : ((w5.setCell ⟨bw, 4, none⟩ (.int .i64 8)).setCell ⟨bw, 5, none⟩ (.bool xno)).cell? ⟨bw, 6, none⟩ = some (.int .i64 tl) := ts1.cell 6 rfl
      have tf2 : ((w5.setCell ⟨bw, 4, none⟩ (.int .i64 8)).setCell ⟨bw, 5, none⟩ (.bool xno)).frozen? ⟨bw, 6, none⟩ = false := At.free ts1 6
      have ts2 : At (((w5.setCell ⟨bw, 4, none⟩ (.int .i64 8)).setCell ⟨bw, 5, none⟩ (.bool xno)).setCell ⟨bw, 6, none⟩ (.int .i64 xl)) bw #[.int .i64 kd, .int .i64 W, .bool sg, .int .i64 8, .int .i64 8, .bool xno, .int .i64 xl, .int .i64 th, .int .i64 tf, .int .i64 tb, .int .i32 0] 80 := At.set ts1 6 (.int .i64 xl) (by simp)
      have tc3 : (((w5.setCell ⟨bw, 4, none⟩ (.int .i64 8)).setCell ⟨bw, 5, none⟩ (.bool xno)).setCell ⟨bw, 6, none⟩ (.int .i64 xl)).cell? ⟨bw, 7, none⟩ = some (.int .i64 th) := ts2.cell 7 rfl
      have tf3 : (((w5.setCell ⟨bw, 4, none⟩ (.int .i64 8)).setCell ⟨bw, 5, none⟩ (.bool xno)).setCell ⟨bw, 6, none⟩ (.int .i64 xl)).frozen? ⟨bw, 7, none⟩ = false := At.free ts2 7
      have ts3 : At ((((w5.setCell ⟨bw, 4, none⟩ (.int .i64 8)).setCell ⟨bw, 5, none⟩ (.bool xno)).setCell ⟨bw, 6, none⟩ (.int .i64 xl)).setCell ⟨bw, 7, none⟩ (.int .i64 xh)) bw #[.int .i64 kd, .int .i64 W, .bool sg, .int .i64 8, .int .i64 8, .bool xno, .int .i64 xl, .int .i64 xh, .int .i64 tf, .int .i64 tb, .int .i32 0] 80 := At.set ts2 7 (.int .i64 xh) (by simp)
      have tc4 : ((((w5.setCell ⟨bw, 4, none⟩ (.int .i64 8)).setCell ⟨bw, 5, none⟩ (.bool xno)).setCell ⟨bw, 6, none⟩ (.int .i64 xl)).setCell ⟨bw, 7, none⟩ (.int .i64 xh)).cell? ⟨bw, 8, none⟩ = some (.int .i64 tf) := ts3.cell 8 rfl
      have tf4 : ((((w5.setCell ⟨bw, 4, none⟩ (.int .i64 8)).setCell ⟨bw, 5, none⟩ (.bool xno)).setCell ⟨bw, 6, none⟩ (.int .i64 xl)).setCell ⟨bw, 7, none⟩ (.int .i64 xh)).frozen? ⟨bw, 8, none⟩ = false := At.free ts3 8
      have ts4 : At (((((w5.setCell ⟨bw, 4, none⟩ (.int .i64 8)).setCell ⟨bw, 5, none⟩ (.bool xno)).setCell ⟨bw, 6, none⟩ (.int .i64 xl)).setCell ⟨bw, 7, none⟩ (.int .i64 xh)).setCell ⟨bw, 8, none⟩ (.int .i64 xf)) bw #[.int .i64 kd, .int .i64 W, .bool sg, .int .i64 8, .int .i64 8, .bool xno, .int .i64 xl, .int .i64 xh, .int .i64 xf, .int .i64 tb, .int .i32 0] 80 := At.set ts3 8 (.int .i64 xf) (by simp)
      have tc5 : (((((w5.setCell ⟨bw, 4, none⟩ (.int .i64 8)).setCell ⟨bw, 5, none⟩ (.bool xno)).setCell ⟨bw, 6, none⟩ (.int .i64 xl)).setCell ⟨bw, 7, none⟩ (.int .i64 xh)).setCell ⟨bw, 8, none⟩ (.int .i64 xf)).cell? ⟨bw, 9, none⟩ = some (.int .i64 tb) := ts4.cell 9 rfl
      have tf5 : (((((w5.setCell ⟨bw, 4, none⟩ (.int .i64 8)).setCell ⟨bw, 5, none⟩ (.bool xno)).setCell ⟨bw, 6, none⟩ (.int .i64 xl)).setCell ⟨bw, 7, none⟩ (.int .i64 xh)).setCell ⟨bw, 8, none⟩ (.int .i64 xf)).frozen? ⟨bw, 9, none⟩ = false := At.free ts4 9
      have ts5 : At ((((((w5.setCell ⟨bw, 4, none⟩ (.int .i64 8)).setCell ⟨bw, 5, none⟩ (.bool xno)).setCell ⟨bw, 6, none⟩ (.int .i64 xl)).setCell ⟨bw, 7, none⟩ (.int .i64 xh)).setCell ⟨bw, 8, none⟩ (.int .i64 xf)).setCell ⟨bw, 9, none⟩ (.int .i64 xb)) bw #[.int .i64 kd, .int .i64 W, .bool sg, .int .i64 8, .int .i64 8, .bool xno, .int .i64 xl, .int .i64 xh, .int .i64 xf, .int .i64 xb, .int .i32 0] 80 := At.set ts4 9 (.int .i64 xb) (by simp)
      have XA := Lib.hid xall
      have XO := Lib.hid xone
      have DW := Lib.hid ts5
      have HB5 := Lib.hid hb5
      clear xall xone dW5 ts5 hb5 ts0 ts1 ts2 ts3 ts4))
  all_goals
    have hn2 : n < 2 ^ 8 := hn
    have hbe : Below w.heap.size w w4 := by
      rw [← HBP.out]
      exact hb4
    have fin : Tells8 ((((((w5.setCell ⟨bw, 4, none⟩ (.int .i64 8)).setCell ⟨bw, 5, none⟩ (.bool xno)).setCell ⟨bw, 6, none⟩ (.int .i64 xl)).setCell ⟨bw, 7, none⟩ (.int .i64 xh)).setCell ⟨bw, 8, none⟩ (.int .i64 xf)).setCell ⟨bw, 9, none⟩ (.int .i64 xb)) bw kd W sg (fun M => (∀ z, MemV 8 tno tl th tf tb z ∨ z = n → M z) ∧ ((∀ z, MemV 8 tno tl th tf tb z → z = n) → ∀ z, M z ↔ z = n)) := ⟨xno, xl, xh, xf, xb, DW.out, okX, hmX, fun z hz => XA.out z (hz.elim Or.inl (fun h => Or.inr ((mem1 hn2).2 h))), fun hne z => XO.out n (Or.inl fun z hz => (mem1 hn2).2 (hne z hz)) (fun z => ⟨fun h => h.elim (hne z) (mem1 hn2).1, fun h => Or.inr ((mem1 hn2).2 h)⟩) z⟩
    have hKK : Keeps bw w ((((((w5.setCell ⟨bw, 4, none⟩ (.int .i64 8)).setCell ⟨bw, 5, none⟩ (.bool xno)).setCell ⟨bw, 6, none⟩ (.int .i64 xl)).setCell ⟨bw, 7, none⟩ (.int .i64 xh)).setCell ⟨bw, 8, none⟩ (.int .i64 xf)).setCell ⟨bw, 9, none⟩ (.int .i64 xb)) := ((Keeps.of_below hbe).drew.trans (Keeps.of_below HB5.out)).trans ((((((((Keeps.refl bw w5).setCell 4 (.int .i64 8)).setCell 5 (.bool xno)).setCell 6 (.int .i64 xl)).setCell 7 (.int .i64 xh)).setCell 8 (.int .i64 xf)).setCell 9 (.int .i64 xb)))
    clear tc0 tc1 tc2 tc3 tc4 tc5 tf0 tf1 tf2 tf3 tf4 tf5 DW HB5 XA XO HW hbe hb4 v0 v1 v2 v3 v4 v5 o0 o1 o2 o3 o4 o5 cJ
    go_wp2_with fail
    go_end0
    exact ⟨rfl, fin, hKK⟩
set_option maxRecDepth 100000 in
set_option maxHeartbeats 1600000 in
theorem classes8 (bw : Nat) (kd W : Int) (sg : Bool) (tno : Bool) (tl th tf tb : Nat) (w : World) (hW : Wk8 w bw kd W sg tno tl th tf tb) :
    Calls Tryz.prog 35 #[.pointer (some ⟨bw, 0, none⟩)] w fun e w' => e = .returned (.slice none 0 0) ∧ Below w.heap.size w w' := by
  have cL := fun w h => load32 bw (wkC kd W sg 8 8 tno tl th tf tb 0) 80 w h rfl
  unfold Wk8 at hW
  go_enter Tryz.func35, Tryz.ntmps35
  go_wp2_with fail
  go_loopw [3, 4] (fun v3 v4 wr => v3 = .slice none 0 0 ∧ ∃ c : Nat, 1 ≤ c ∧ c ≤ 11 ∧ v4 = .int .i64 c ∧ Below w.heap.size w wr) (fun _ v4 _ => 11 - (intOf v4).toNat)
  case atStart => exact ⟨rfl, 1, by omega, by omega, rfl, Below.refl _ _⟩
  case round =>
    obtain ⟨rfl, c, hc1, hc2, rfl, hb⟩ := hrel
    by_cases hlt : c ≤ 10
    · have hlt1 : (c : Int) ≤ 10 := by omega
      have hW2 := At.below' hb hW
      go_upto_region 5 with (fail)
      go_cut [16] from 9 to 16 (fun v16 wx => v16 = .bool false ∧ Below wr.heap.size wr wx)
      case first =>
        have hcL := fun p : BelowBy wr => cL p.world (p.at hW2)
        clear cL hW hW2 hb
        have hcc : c = 1 ∨ c = 2 ∨ c = 3 ∨ c = 4 ∨ c = 5 ∨ c = 6 ∨ c = 7 ∨ c = 8 ∨ c = 9 ∨ c = 10 := by omega
        clear hc1 hc2 hlt hlt1
        rcases hcc with rfl | rfl | rfl | rfl | rfl | rfl | rfl | rfl | rfl | rfl
        all_goals
          refine wp_region_quiet_below (by kernel_rfl) (by kernel_rfl) ?_
          repeat (go_big_quiet_step ((go_at_call 66; with_reducible exact Calls.below_same (hcL _))))
          refine wpQuiet_nil ?_
          intro wx hw'
          obtain ⟨⟨wx', hbx⟩, hw''⟩ := hw'
          subst hw''
          go_wp2_with fail
          go_meet
          exact ⟨rfl, hbx⟩
      case rest =>
      obtain ⟨rfl, hbx⟩ := hcut
      have hbJ := hb.trans (hbx.mono hb.size)
      clear hbx hW2 hb
      go_wp2_with fail
      go_roundw
      case rel => exact ⟨rfl, c + 1, by omega, by omega, by go_num, hbJ⟩
      case measure => simp [intOf]; omega
    · have hlt1 : decide ((c : Int) ≤ 10) = false := by simp; omega
      go_wp2_with fail
      go_ret
      exact ⟨rfl, hb⟩
set_option maxRecDepth 100000 in
set_option maxHeartbeats 1600000 in
theorem start8 (kd : Int) (sg : Bool) (w : World) :
    Calls Tryz.prog 32 #[.int .i64 8, .agg #[.int .i64 kd, .int .i64 8, .bool sg]] w fun e w' => ∃ bw, e = .returned (.pointer (some ⟨bw, 0, none⟩)) ∧ At w' bw (wkC kd 8 sg 8 8 true 0 0 0 0 0) 80 ∧ w.heap.size ≤ bw ∧ Below w.heap.size w w' := by
  have cO := fun w => No_yes 8 (Or.inl rfl) w
  have dN := At.new w #[.int .i64 kd, .int .i64 8, .bool sg] 60
  have hb0 : Below w.heap.size w (w.alloc (.cells #[.int .i64 kd, .int .i64 8, .bool sg] 60)) := (Below.refl _ _).alloc (Nat.le_refl _) _
  go_enter Tryz.func32, Tryz.ntmps32
  go_wp2_with fail
  refine (cO _).mono ?_
  rintro e w1 ⟨rfl, hb1⟩
  replace dN := At.alloc (At.below' hb1 dN) (.cells #[.int .i64 8, .bool true, .int .i64 0, .int .i64 0, .int .i64 0, .int .i64 0] 30)
  replace hb0 := (hb0.trans (hb1.mono hb0.size)).alloc (hb0.trans (hb1.mono hb0.size)).size (.cells #[.int .i64 8, .bool true, .int .i64 0, .int .i64 0, .int .i64 0, .int .i64 0] 30)
  have dO := At.new w1 #[.int .i64 8, .bool true, .int .i64 0, .int .i64 0, .int .i64 0, .int .i64 0] 30
  obtain ⟨BO, hBO⟩ : ∃ B, B = w1.heap.size := ⟨_, rfl⟩
  rw [← hBO] at dO
  have n0 : (w1.alloc (.cells #[.int .i64 8, .bool true, .int .i64 0, .int .i64 0, .int .i64 0, .int .i64 0] 30)).cell? ⟨w.heap.size, 0, none⟩ = some (.int .i64 kd) := dN.cell 0 rfl
  have n1 : (w1.alloc (.cells #[.int .i64 8, .bool true, .int .i64 0, .int .i64 0, .int .i64 0, .int .i64 0] 30)).cell? ⟨w.heap.size, 1, none⟩ = some (.int .i64 8) := dN.cell 1 rfl
  have n2 : (w1.alloc (.cells #[.int .i64 8, .bool true, .int .i64 0, .int .i64 0, .int .i64 0, .int .i64 0] 30)).cell? ⟨w.heap.size, 2, none⟩ = some (.bool sg) := dN.cell 2 rfl
  have o0 : (w1.alloc (.cells #[.int .i64 8, .bool true, .int .i64 0, .int .i64 0, .int .i64 0, .int .i64 0] 30)).cell? ⟨BO, 0, none⟩ = some (.int .i64 8) := dO.cell 0 rfl
  have o1 : (w1.alloc (.cells #[.int .i64 8, .bool true, .int .i64 0, .int .i64 0, .int .i64 0, .int .i64 0] 30)).cell? ⟨BO, 1, none⟩ = some (.bool true) := dO.cell 1 rfl
  have o2 : (w1.alloc (.cells #[.int .i64 8, .bool true, .int .i64 0, .int .i64 0, .int .i64 0, .int .i64 0] 30)).cell? ⟨BO, 2, none⟩ = some (.int .i64 0) := dO.cell 2 rfl
  have o3 : (w1.alloc (.cells #[.int .i64 8, .bool true, .int .i64 0, .int .i64 0, .int .i64 0, .int .i64 0] 30)).cell? ⟨BO, 3, none⟩ = some (.int .i64 0) := dO.cell 3 rfl
  have o4 : (w1.alloc (.cells #[.int .i64 8, .bool true, .int .i64 0, .int .i64 0, .int .i64 0, .int .i64 0] 30)).cell? ⟨BO, 4, none⟩ = some (.int .i64 0) := dO.cell 4 rfl
  have o5 : (w1.alloc (.cells #[.int .i64 8, .bool true, .int .i64 0, .int .i64 0, .int .i64 0, .int .i64 0] 30)).cell? ⟨BO, 5, none⟩ = some (.int .i64 0) := dO.cell 5 rfl
  clear hb1 cO dN dO
  go_upto_region 8 with (fail)
  rw [← hBO]
  clear hBO
  generalize w1.alloc (.cells #[.int .i64 8, .bool true, .int .i64 0, .int .i64 0, .int .i64 0, .int .i64 0] 30) = w2 at *
  go_wp2_with fail
  go_ret
  exact ⟨_, rfl, At.new w2 (wkC kd 8 sg 8 8 true 0 0 0 0 0) 80, hb0.size, hb0.alloc hb0.size _⟩
end Go.Proofs.YtblahbmhbfcggaaGreatDoor
