/- Package maths: a call's work at the operator zero: truths told. -/
import Derived.Test.YtblahbmhbfcggaaGreatDoorFMTwo
import Derived.Test.YtblahbmhbfcggaaGreatDoorFTwo
import Derived.Test.YtblahbmhbfcggaaGreatDoorMRefused
import Derived.Test.YtblahbmhbfcggaaGreatDoorMWakes
import Derived.Test.YtblahbmhbfcggaaGreatDoorVSome30
import Derived.Test.YtblahbmhbfcggaaGreatDoorVQuiet
namespace Go.Proofs.YtblahbmhbfcggaaGreatDoor
open Go.ChangeShapes Go.WideShapes Go.ChangeAt Go.RowKit Go.Joins Go.Deep
set_option linter.unusedVariables false

def WkZ (w : World) (bw : Nat) (kd W : Int) (sg : Bool) (tno : Bool) (tl th tf tb : Nat) : Prop := At w bw (wkC kd W sg 7 32 tno tl th tf tb 0) 80
def TellsZ (w : World) (bw : Nat) (kd W : Int) (sg : Bool) (P : (Nat → Prop) → Prop) : Prop := ∃ tno tl th tf tb, WkZ w bw kd W sg tno tl th tf tb ∧ ValOk 32 tno tl th tf tb ∧ mayB (32 : Nat) tno tl th tf tb = true ∧ P (MemV 32 tno tl th tf tb)
set_option maxRecDepth 100000 in
set_option maxHeartbeats 1600000 in
theorem addZ (bw : Nat) (kd W : Int) (sg : Bool) (tno : Bool) (tl th tf tb : Nat) (okT : ValOk 32 tno tl th tf tb) (hmT : mayB (32 : Nat) tno tl th tf tb = true) (n : Nat) (hn : n < 4294967296) (w : World) (hA : WkZ w bw kd W sg tno tl th tf tb) :
    Calls Tryz.prog 73 #[.pointer (some ⟨bw, 0, none⟩), .int .i64 n, .int .i64 n, .agg #[.int .i64 0, .int .i64 n]] w fun e w' => e = .returned (.tuple #[]) ∧ TellsZ w' bw kd W sg (fun M => (∀ z, MemV 32 tno tl th tf tb z ∨ z = n → M z) ∧ ((∀ z, ¬ MemV 32 tno tl th tf tb z) → ∀ z, M z ↔ z = n)) ∧ Keeps bw w w' := by
  unfold WkZ wkC at hA
  have ok1 : ValOk 32 false n n 0 n := one_ok (Or.inr (Or.inr rfl)) hn
  have hm1 : mayB (32 : Nat) false (n : Nat) (n : Nat) (0 : Nat) (n : Nat) = true := ok_may ok1 (fun h => by cases h)
  have cA := fun w => All_yes 32 (Or.inr (Or.inr rfl)) w
  rw [show wrapI (-1) 32 = 4294967295 from rfl] at cA
  have cJ := fun w => Join_yes meet_holds merge_holds 32 tno tl th tf tb false n n 0 n okT ok1 hmT hm1 w
  have en := and_top n hn
  have e0 : bits .and .i64 0 4294967295 = 0 := and_top 0 (by omega)
  have hlt := hA.lt
  have dP := At.new w #[.int .i64 0, .int .i64 n] 110
  have hb0 : Below w.heap.size w (w.alloc (.cells #[.int .i64 0, .int .i64 n] 110)) := (Below.refl _ _).alloc (Nat.le_refl _) _
  have hW := At.alloc hA (.cells #[.int .i64 0, .int .i64 n] 110)
  have c4 : (w.alloc (.cells #[.int .i64 0, .int .i64 n] 110)).cell? ⟨bw, 4, none⟩ = some (.int .i64 32) := hW.cell 4 rfl
  clear hmT hm1
  go_enter Tryz.func73, Tryz.ntmps73
  go_wp2_with fail
  refine (cA _).mono ?_
  rintro e w1 ⟨rfl, hb1⟩
  replace dP := At.alloc (At.below' hb1 dP) (.cells #[.int .i64 32, .bool false, .int .i64 0, .int .i64 4294967295, .int .i64 4294967295, .int .i64 0] 30)
  replace hW := At.alloc (At.below' hb1 hW) (.cells #[.int .i64 32, .bool false, .int .i64 0, .int .i64 4294967295, .int .i64 4294967295, .int .i64 0] 30)
  replace hb0 := (hb0.trans (hb1.mono hb0.size)).alloc (hb0.trans (hb1.mono hb0.size)).size (.cells #[.int .i64 32, .bool false, .int .i64 0, .int .i64 4294967295, .int .i64 4294967295, .int .i64 0] 30)
  have dV := At.new w1 #[.int .i64 32, .bool false, .int .i64 0, .int .i64 4294967295, .int .i64 4294967295, .int .i64 0] 30
  obtain ⟨BV, hBV⟩ : ∃ B, B = w1.heap.size := ⟨_, rfl⟩
  obtain ⟨BP, hBP⟩ : ∃ B, B = w.heap.size := ⟨_, rfl⟩
  have hPV : BP < BV := by have := hb1.size; simp at this; omega
  have hwP : bw < BP := by omega
  rw [← hBV] at dV
  rw [← hBP] at dP hb0 ⊢
  have HBP := Lib.hid hBP
  clear hb1 c4 hBP cA
  go_upto_region 2 with (fail)
  rw [← hBV]
  clear hBV
  generalize w1.alloc (.cells #[.int .i64 32, .bool false, .int .i64 0, .int .i64 4294967295, .int .i64 4294967295, .int .i64 0] 30) = w2 at *
  have HB := Lib.hid hb0
  have v3 : w2.cell? ⟨BV, 3, none⟩ = some (.int .i64 4294967295) := dV.cell 3 rfl
  have v2 : w2.cell? ⟨BV, 2, none⟩ = some (.int .i64 0) := dV.cell 2 rfl
  have fv2 := At.free dV 2
  have dV2 : At (w2.setCell ⟨BV, 2, none⟩ (.int .i64 n)) BV #[.int .i64 32, .bool false, .int .i64 n, .int .i64 4294967295, .int .i64 4294967295, .int .i64 0] 30 := At.set dV 2 (.int .i64 n) (by simp)
  have fv3 := At.free dV2 3
  have v3b : (w2.setCell ⟨BV, 2, none⟩ (.int .i64 n)).cell? ⟨BV, 3, none⟩ = some (.int .i64 4294967295) := dV2.cell 3 rfl
  have dV3 : At ((w2.setCell ⟨BV, 2, none⟩ (.int .i64 n)).setCell ⟨BV, 3, none⟩ (.int .i64 n)) BV #[.int .i64 32, .bool false, .int .i64 n, .int .i64 n, .int .i64 4294967295, .int .i64 0] 30 := At.set dV2 3 (.int .i64 n) (by simp)
  have kV : Keeps BV w2 ((w2.setCell ⟨BV, 2, none⟩ (.int .i64 n)).setCell ⟨BV, 3, none⟩ (.int .i64 n)) := ((Keeps.refl BV w2).setCell 2 (.int .i64 n)).setCell 3 (.int .i64 n)
  have dP3 := At.keeps dP kV (by omega)
  have hW3 := At.keeps hW kV (by omega)
  have hb3 : Below BP w ((w2.setCell ⟨BV, 2, none⟩ (.int .i64 n)).setCell ⟨BV, 3, none⟩ (.int .i64 n)) := (hb0.setCell (p := ⟨BV, 2, none⟩) (by show BP ≤ BV; omega) (.int .i64 n)).setCell (p := ⟨BV, 3, none⟩) (by show BP ≤ BV; omega) (.int .i64 n)
  clear dV dV2 dP hW hb0 kV
  go_upto_region 5 with (fail)
  generalize ((w2.setCell ⟨BV, 2, none⟩ (.int .i64 n)).setCell ⟨BV, 3, none⟩ (.int .i64 n)) = w3 at *
  clear v3 v2 fv2 fv3 v3b
  go_cut [] from 38 to 47 (fun wx => At wx BV #[.int .i64 32, .bool false, .int .i64 n, .int .i64 n, .int .i64 0, .int .i64 n] 30 ∧ At wx BP #[.int .i64 0, .int .i64 n] 110 ∧ At wx bw #[.int .i64 kd, .int .i64 W, .bool sg, .int .i64 7, .int .i64 32, .bool tno, .int .i64 tl, .int .i64 th, .int .i64 tf, .int .i64 tb, .int .i32 0] 80 ∧ Below BP w wx)
  case first =>
    have p0 : w3.cell? ⟨BP, 0, none⟩ = some (.int .i64 0) := dP3.cell 0 rfl
    have p1 : w3.cell? ⟨BP, 1, none⟩ = some (.int .i64 n) := dP3.cell 1 rfl
    have d4 : At (w3.setCell ⟨BV, 4, none⟩ (.int .i64 0)) BV #[.int .i64 32, .bool false, .int .i64 n, .int .i64 n, .int .i64 0, .int .i64 0] 30 := At.set dV3 4 (.int .i64 0) (by simp)
    have d5 : At (w3.setCell ⟨BV, 5, none⟩ (.int .i64 n)) BV #[.int .i64 32, .bool false, .int .i64 n, .int .i64 n, .int .i64 4294967295, .int .i64 n] 30 := At.set dV3 5 (.int .i64 n) (by simp)
    have d45 : At ((w3.setCell ⟨BV, 4, none⟩ (.int .i64 0)).setCell ⟨BV, 5, none⟩ (.int .i64 n)) BV #[.int .i64 32, .bool false, .int .i64 n, .int .i64 n, .int .i64 0, .int .i64 n] 30 := At.set d4 5 (.int .i64 n) (by simp)
    have d54 : At ((w3.setCell ⟨BV, 5, none⟩ (.int .i64 n)).setCell ⟨BV, 4, none⟩ (.int .i64 0)) BV #[.int .i64 32, .bool false, .int .i64 n, .int .i64 n, .int .i64 0, .int .i64 n] 30 := At.set d5 4 (.int .i64 0) (by simp)
    have k4 : Keeps BV w3 (w3.setCell ⟨BV, 4, none⟩ (.int .i64 0)) := (Keeps.refl BV w3).setCell 4 (.int .i64 0)
    have k5 : Keeps BV w3 (w3.setCell ⟨BV, 5, none⟩ (.int .i64 n)) := (Keeps.refl BV w3).setCell 5 (.int .i64 n)
    have k45 : Keeps BV w3 ((w3.setCell ⟨BV, 4, none⟩ (.int .i64 0)).setCell ⟨BV, 5, none⟩ (.int .i64 n)) := k4.setCell 5 (.int .i64 n)
    have k54 : Keeps BV w3 ((w3.setCell ⟨BV, 5, none⟩ (.int .i64 n)).setCell ⟨BV, 4, none⟩ (.int .i64 0)) := k5.setCell 4 (.int .i64 0)
    have e4 := At.keeps dP3 k4 (by omega)
    have e5 := At.keeps dP3 k5 (by omega)
    have q0 : (w3.setCell ⟨BV, 5, none⟩ (.int .i64 n)).cell? ⟨BP, 0, none⟩ = some (.int .i64 0) := e5.cell 0 rfl
    have q1 : (w3.setCell ⟨BV, 4, none⟩ (.int .i64 0)).cell? ⟨BP, 1, none⟩ = some (.int .i64 n) := e4.cell 1 rfl
    have v4 : w3.cell? ⟨BV, 4, none⟩ = some (.int .i64 4294967295) := dV3.cell 4 rfl
    have v5 : w3.cell? ⟨BV, 5, none⟩ = some (.int .i64 0) := dV3.cell 5 rfl
    have f4 := At.free dV3 4
    have f5 := At.free dV3 5
    have v45 : (w3.setCell ⟨BV, 5, none⟩ (.int .i64 n)).cell? ⟨BV, 4, none⟩ = some (.int .i64 4294967295) := d5.cell 4 rfl
    have v54 : (w3.setCell ⟨BV, 4, none⟩ (.int .i64 0)).cell? ⟨BV, 5, none⟩ = some (.int .i64 0) := d4.cell 5 rfl
    have f45 := At.free d5 4
    have f54 := At.free d4 5
    have fin45 : At ((w3.setCell ⟨BV, 4, none⟩ (.int .i64 0)).setCell ⟨BV, 5, none⟩ (.int .i64 n)).drew BV #[.int .i64 32, .bool false, .int .i64 n, .int .i64 n, .int .i64 0, .int .i64 n] 30 ∧ At ((w3.setCell ⟨BV, 4, none⟩ (.int .i64 0)).setCell ⟨BV, 5, none⟩ (.int .i64 n)).drew BP #[.int .i64 0, .int .i64 n] 110 ∧ At ((w3.setCell ⟨BV, 4, none⟩ (.int .i64 0)).setCell ⟨BV, 5, none⟩ (.int .i64 n)).drew bw #[.int .i64 kd, .int .i64 W, .bool sg, .int .i64 7, .int .i64 32, .bool tno, .int .i64 tl, .int .i64 th, .int .i64 tf, .int .i64 tb, .int .i32 0] 80 ∧ Below BP w ((w3.setCell ⟨BV, 4, none⟩ (.int .i64 0)).setCell ⟨BV, 5, none⟩ (.int .i64 n)).drew := ⟨d45.drew, (At.keeps dP3 k45 (by omega)).drew, (At.keeps hW3 k45 (by omega)).drew, ((hb3.setCell (p := ⟨BV, 4, none⟩) (by show BP ≤ BV; omega) (.int .i64 0)).setCell (p := ⟨BV, 5, none⟩) (by show BP ≤ BV; omega) (.int .i64 n)).drew⟩
    have fin54 : At ((w3.setCell ⟨BV, 5, none⟩ (.int .i64 n)).setCell ⟨BV, 4, none⟩ (.int .i64 0)).drew BV #[.int .i64 32, .bool false, .int .i64 n, .int .i64 n, .int .i64 0, .int .i64 n] 30 ∧ At ((w3.setCell ⟨BV, 5, none⟩ (.int .i64 n)).setCell ⟨BV, 4, none⟩ (.int .i64 0)).drew BP #[.int .i64 0, .int .i64 n] 110 ∧ At ((w3.setCell ⟨BV, 5, none⟩ (.int .i64 n)).setCell ⟨BV, 4, none⟩ (.int .i64 0)).drew bw #[.int .i64 kd, .int .i64 W, .bool sg, .int .i64 7, .int .i64 32, .bool tno, .int .i64 tl, .int .i64 th, .int .i64 tf, .int .i64 tb, .int .i32 0] 80 ∧ Below BP w ((w3.setCell ⟨BV, 5, none⟩ (.int .i64 n)).setCell ⟨BV, 4, none⟩ (.int .i64 0)).drew := ⟨d54.drew, (At.keeps dP3 k54 (by omega)).drew, (At.keeps hW3 k54 (by omega)).drew, ((hb3.setCell (p := ⟨BV, 5, none⟩) (by show BP ≤ BV; omega) (.int .i64 n)).setCell (p := ⟨BV, 4, none⟩) (by show BP ≤ BV; omega) (.int .i64 0)).drew⟩
    have F1 := Lib.hid fin45
    have F2 := Lib.hid fin54
    clear dV3 dP3 hW3 hb3 d4 d5 d45 d54 k4 k5 k45 k54 e4 e5 fin45 fin54 cJ okT ok1 hA
    go_region
    all_goals
      go_wp2_with fail
      go_meet
      first | exact F1.out | exact F2.out
  case rest =>
  obtain ⟨dV4, dP4, hW4, hb4⟩ := hcut
  generalize wc = w4 at *
  clear dV3 dP3 hW3 hb3 e0 en
  go_upto_region 6 with (fail)
  have v0 : w4.cell? ⟨BV, 0, none⟩ = some (.int .i64 32) := dV4.cell 0 rfl
  have v1 : w4.cell? ⟨BV, 1, none⟩ = some (.bool false) := dV4.cell 1 rfl
  have v2 : w4.cell? ⟨BV, 2, none⟩ = some (.int .i64 n) := dV4.cell 2 rfl
  have v3 : w4.cell? ⟨BV, 3, none⟩ = some (.int .i64 n) := dV4.cell 3 rfl
  have v4 : w4.cell? ⟨BV, 4, none⟩ = some (.int .i64 0) := dV4.cell 4 rfl
  have v5 : w4.cell? ⟨BV, 5, none⟩ = some (.int .i64 n) := dV4.cell 5 rfl
  have o0 : w4.cell? ⟨bw, 4, none⟩ = some (.int .i64 32) := hW4.cell 4 rfl
  have o1 : w4.cell? ⟨bw, 5, none⟩ = some (.bool tno) := hW4.cell 5 rfl
  have o2 : w4.cell? ⟨bw, 6, none⟩ = some (.int .i64 tl) := hW4.cell 6 rfl
  have o3 : w4.cell? ⟨bw, 7, none⟩ = some (.int .i64 th) := hW4.cell 7 rfl
  have o4 : w4.cell? ⟨bw, 8, none⟩ = some (.int .i64 tf) := hW4.cell 8 rfl
  have o5 : w4.cell? ⟨bw, 9, none⟩ = some (.int .i64 tb) := hW4.cell 9 rfl
  have HW := Lib.hid hW4
  have hs4 := hb4.size
  clear dV4 dP4 hW4 hA
  go_region_with
    ((go_at_call 116; refine (cJ _).mono ?_; rintro e w5 ⟨xno, xl, xh, xf, xb, rfl, okX, hmX, xall, xone, hb5⟩
      have dW5 := At.below' hb5 HW.out.drew
      have tc0 : w5.cell? ⟨bw, 4, none⟩ = some (.int .i64 32) := dW5.cell 4 rfl
      have tf0 : w5.frozen? ⟨bw, 4, none⟩ = false := At.free dW5 4
      have ts0 : At (w5.setCell ⟨bw, 4, none⟩ (.int .i64 32)) bw #[.int .i64 kd, .int .i64 W, .bool sg, .int .i64 7, .int .i64 32, .bool tno, .int .i64 tl, .int .i64 th, .int .i64 tf, .int .i64 tb, .int .i32 0] 80 := At.set dW5 4 (.int .i64 32) (by simp)
      have tc1 : (w5.setCell ⟨bw, 4, none⟩ (.int .i64 32)).cell? ⟨bw, 5, none⟩ = some (.bool tno) := ts0.cell 5 rfl
      have tf1 : (w5.setCell ⟨bw, 4, none⟩ (.int .i64 32)).frozen? ⟨bw, 5, none⟩ = false := At.free ts0 5
      have ts1 : At ((w5.setCell ⟨bw, 4, none⟩ (.int .i64 32)).setCell ⟨bw, 5, none⟩ (.bool xno)) bw #[.int .i64 kd, .int .i64 W, .bool sg, .int .i64 7, .int .i64 32, .bool xno, .int .i64 tl, .int .i64 th, .int .i64 tf, .int .i64 tb, .int .i32 0] 80 := At.set ts0 5 (.bool xno) (by simp)
      have tc2 : ((w5.setCell ⟨bw, 4, none⟩ (.int .i64 32)).setCell ⟨bw, 5, none⟩ (.bool xno)).cell? ⟨bw, 6, none⟩ = some (.int .i64 tl) := ts1.cell 6 rfl
      have tf2 : ((w5.setCell ⟨bw, 4, none⟩ (.int .i64 32)).setCell ⟨bw, 5, none⟩ (.bool xno)).frozen? ⟨bw, 6, none⟩ = false := At.free ts1 6
      have ts2 : At (((w5.setCell ⟨bw, 4, none⟩ (.int .i64 32)).setCell ⟨bw, 5, none⟩ (.bool xno)).setCell ⟨bw, 6, none⟩ (.int .i64 xl)) bw #[.int .i64 kd, .int .i64 W, .bool sg, .int .i64 7, .int .i64 32, .bool xno, .int .i64 xl, .int .i64 th, .int .i64 tf, .int .i64 tb, .int .i32 0] 80 := At.set ts1 6 (.int .i64 xl) (by simp)
      have tc3 : (((w5.setCell ⟨bw, 4, none⟩ (.int .i64 32)).setCell ⟨bw, 5, none⟩ (.bool xno)).setCell ⟨bw, 6, none⟩ (.int .i64 xl)).cell? ⟨bw, 7, none⟩ = some (.int .i64 th) := ts2.cell 7 rfl
      have tf3 : (((w5.setCell ⟨bw, 4, none⟩ (.int .i64 32)).setCell ⟨bw, 5, none⟩ (.bool xno)).setCell ⟨bw, 6, none⟩ (.int .i64 xl)).frozen? ⟨bw, 7, none⟩ = false := At.free ts2 7
      have ts3 : At ((((w5.setCell ⟨bw, 4, none⟩ (.int .i64 32)).setCell ⟨bw, 5, none⟩ (.bool xno)).setCell ⟨bw, 6, none⟩ (.int .i64 xl)).setCell ⟨bw, 7, none⟩ (.int .i64 xh)) bw #[.int .i64 kd, .int .i64 W, .bool sg, .int .i64 7, .int .i64 32, .bool xno, .int .i64 xl, .int .i64 xh, .int .i64 tf, .int .i64 tb, .int .i32 0] 80 := At.set ts2 7 (.int .i64 xh) (by simp)
      have tc4 : ((((w5.setCell ⟨bw, 4, none⟩ (.int .i64 32)).setCell ⟨bw, 5, none⟩ (.bool xno)).setCell ⟨bw, 6, none⟩ (.int .i64 xl)).setCell ⟨bw, 7, none⟩ (.int .i64 xh)).cell? ⟨bw, 8, none⟩ = some (.int .i64 tf) := ts3.cell 8 rfl
      have tf4 : ((((w5.setCell ⟨bw, 4, none⟩ (.int .i64 32)).setCell ⟨bw, 5, none⟩ (.bool xno)).setCell ⟨bw, 6, none⟩ (.int .i64 xl)).setCell ⟨bw, 7, none⟩ (.int .i64 xh)).frozen? ⟨bw, 8, none⟩ = false := At.free ts3 8
      have ts4 : At (((((w5.setCell ⟨bw, 4, none⟩ (.int .i64 32)).setCell ⟨bw, 5, none⟩ (.bool xno)).setCell ⟨bw, 6, none⟩ (.int .i64 xl)).setCell ⟨bw, 7, none⟩ (.int .i64 xh)).setCell ⟨bw, 8, none⟩ (.int .i64 xf)) bw #[.int .i64 kd, .int .i64 W, .bool sg, .int .i64 7, .int .i64 32, .bool xno, .int .i64 xl, .int .i64 xh, .int .i64 xf, .int .i64 tb, .int .i32 0] 80 := At.set ts3 8 (.int .i64 xf) (by simp)
      have tc5 : (((((w5.setCell ⟨bw, 4, none⟩ (.int .i64 32)).setCell ⟨bw, 5, none⟩ (.bool xno)).setCell ⟨bw, 6, none⟩ (.int .i64 xl)).setCell ⟨bw, 7, none⟩ (.int .i64 xh)).setCell ⟨bw, 8, none⟩ (.int .i64 xf)).cell? ⟨bw, 9, none⟩ = some (.int .i64 tb) := ts4.cell 9 rfl
      have tf5 : (((((w5.setCell ⟨bw, 4, none⟩ (.int .i64 32)).setCell ⟨bw, 5, none⟩ (.bool xno)).setCell ⟨bw, 6, none⟩ (.int .i64 xl)).setCell ⟨bw, 7, none⟩ (.int .i64 xh)).setCell ⟨bw, 8, none⟩ (.int .i64 xf)).frozen? ⟨bw, 9, none⟩ = false := At.free ts4 9
      have ts5 : At ((((((w5.setCell ⟨bw, 4, none⟩ (.int .i64 32)).setCell ⟨bw, 5, none⟩ (.bool xno)).setCell ⟨bw, 6, none⟩ (.int .i64 xl)).setCell ⟨bw, 7, none⟩ (.int .i64 xh)).setCell ⟨bw, 8, none⟩ (.int .i64 xf)).setCell ⟨bw, 9, none⟩ (.int .i64 xb)) bw #[.int .i64 kd, .int .i64 W, .bool sg, .int .i64 7, .int .i64 32, .bool xno, .int .i64 xl, .int .i64 xh, .int .i64 xf, .int .i64 xb, .int .i32 0] 80 := At.set ts4 9 (.int .i64 xb) (by simp)
      have XA := Lib.hid xall
      have XO := Lib.hid xone
      have DW := Lib.hid ts5
      have HB5 := Lib.hid hb5
      clear xall xone dW5 ts5 hb5 ts0 ts1 ts2 ts3 ts4))
  all_goals
    have hn2 : n < 2 ^ 32 := hn
    have hbe : Below w.heap.size w w4 := by
      rw [← HBP.out]
      exact hb4
    have fin : TellsZ ((((((w5.setCell ⟨bw, 4, none⟩ (.int .i64 32)).setCell ⟨bw, 5, none⟩ (.bool xno)).setCell ⟨bw, 6, none⟩ (.int .i64 xl)).setCell ⟨bw, 7, none⟩ (.int .i64 xh)).setCell ⟨bw, 8, none⟩ (.int .i64 xf)).setCell ⟨bw, 9, none⟩ (.int .i64 xb)) bw kd W sg (fun M => (∀ z, MemV 32 tno tl th tf tb z ∨ z = n → M z) ∧ ((∀ z, ¬ MemV 32 tno tl th tf tb z) → ∀ z, M z ↔ z = n)) := ⟨xno, xl, xh, xf, xb, DW.out, okX, hmX, fun z hz => XA.out z (hz.elim Or.inl (fun h => Or.inr ((mem1 hn2).2 h))), fun hne z => XO.out n (Or.inl fun z hz => absurd hz (hne z)) (fun z => ⟨fun h => h.elim (fun h => absurd h (hne z)) (mem1 hn2).1, fun h => Or.inr ((mem1 hn2).2 h)⟩) z⟩
    have hKK : Keeps bw w ((((((w5.setCell ⟨bw, 4, none⟩ (.int .i64 32)).setCell ⟨bw, 5, none⟩ (.bool xno)).setCell ⟨bw, 6, none⟩ (.int .i64 xl)).setCell ⟨bw, 7, none⟩ (.int .i64 xh)).setCell ⟨bw, 8, none⟩ (.int .i64 xf)).setCell ⟨bw, 9, none⟩ (.int .i64 xb)) := ((Keeps.of_below hbe).drew.trans (Keeps.of_below HB5.out)).trans ((((((((Keeps.refl bw w5).setCell 4 (.int .i64 32)).setCell 5 (.bool xno)).setCell 6 (.int .i64 xl)).setCell 7 (.int .i64 xh)).setCell 8 (.int .i64 xf)).setCell 9 (.int .i64 xb)))
    clear tc0 tc1 tc2 tc3 tc4 tc5 tf0 tf1 tf2 tf3 tf4 tf5 DW HB5 XA XO HW hbe hb4 v0 v1 v2 v3 v4 v5 o0 o1 o2 o3 o4 o5 cJ
    go_wp2_with fail
    go_end0
    exact ⟨rfl, fin, hKK⟩
set_option maxRecDepth 100000 in
set_option maxHeartbeats 1600000 in
theorem truthZ (bw : Nat) (kd W : Int) (sg : Bool) (y n : Bool) (w : World) (hA : WkZ w bw kd W sg true 0 0 0 0) :
    Calls Tryz.prog 75 #[.pointer (some ⟨bw, 0, none⟩), .bool y, .bool n] w fun e w' => e = .returned (.tuple #[]) ∧ TellsZ w' bw kd W sg (TruthTold y n) ∧ Keeps bw w w' := by
  have cE1 := fun w => except_0 1 (by omega) w
  have cE0 := fun w => except_0 0 (by omega) w
  have hne : ∀ z, ¬ MemV 32 true 0 0 0 0 z := fun z hz => by cases hz.1
  cases y <;> cases n
  · go_enter Tryz.func75, Tryz.ntmps75
    go_wp2_with fail
    go_end0
    exact ⟨rfl, ⟨true, 0, 0, 0, 0, hA, no_32, no_32m, by simp [TruthTold, hne]⟩, Keeps.refl _ _⟩
  · go_enter Tryz.func75, Tryz.ntmps75
    go_wp2_with fail
    refine (cE0 _).mono ?_
    rintro e w1 ⟨rfl, hb1⟩
    have cA := addZ bw kd W sg true 0 0 0 0 no_32 no_32m 0 (by omega) w1 (At.below' hb1 hA)
    go_wp2_with fail
    refine cA.mono ?_
    rintro e w2 ⟨rfl, ⟨xno, xl, xh, xf, xb, hX, okX, hmX, p1, p2⟩, hK⟩
    have fin : TellsZ w2 bw kd W sg (TruthTold false true) := ⟨xno, xl, xh, xf, xb, hX, okX, hmX, ⟨(fun h => by cases h), fun _ => p1 0 (Or.inr rfl), (fun h => by cases h), fun _ _ => p2 hne, (fun _ h => by cases h)⟩⟩
    have hKK := (Keeps.of_below hb1).trans hK
    clear hX okX hmX p1 p2 hK hb1
    go_wp2_with fail
    go_end0
    exact ⟨rfl, fin, hKK⟩
  · go_enter Tryz.func75, Tryz.ntmps75
    go_wp2_with fail
    refine (cE1 _).mono ?_
    rintro e w1 ⟨rfl, hb1⟩
    have cA := addZ bw kd W sg true 0 0 0 0 no_32 no_32m 1 (by omega) w1 (At.below' hb1 hA)
    go_wp2_with fail
    refine cA.mono ?_
    rintro e w2 ⟨rfl, ⟨xno, xl, xh, xf, xb, hX, okX, hmX, p1, p2⟩, hK⟩
    have fin : TellsZ w2 bw kd W sg (TruthTold true false) := ⟨xno, xl, xh, xf, xb, hX, okX, hmX, ⟨fun _ => p1 1 (Or.inr rfl), (fun h => by cases h), fun _ _ => p2 hne, (fun h => by cases h), (fun h => by cases h)⟩⟩
    have hKK := (Keeps.of_below hb1).trans hK
    clear hX okX hmX p1 p2 hK hb1
    go_wp2_with fail
    go_end0
    exact ⟨rfl, fin, hKK⟩
  · go_enter Tryz.func75, Tryz.ntmps75
    go_wp2_with fail
    refine (cE1 _).mono ?_
    rintro e w1 ⟨rfl, hb1⟩
    have cA := addZ bw kd W sg true 0 0 0 0 no_32 no_32m 1 (by omega) w1 (At.below' hb1 hA)
    go_wp2_with fail
    refine cA.mono ?_
    rintro e w2 ⟨rfl, ⟨xno, xl, xh, xf, xb, hX, okX, hmX, p1, p2⟩, hK⟩
    have q1 := p1 1 (Or.inr rfl)
    have hKK := (Keeps.of_below hb1).trans hK
    clear p1 p2 hK hb1
    go_wp2_with fail
    refine (cE0 _).mono ?_
    rintro e w3 ⟨rfl, hb3⟩
    have cB := addZ bw kd W sg xno xl xh xf xb okX hmX 0 (by omega) w3 (At.below' hb3 hX)
    have hKL := hKK.trans (Keeps.of_below hb3)
    clear hKK hb3 hX okX hmX
    go_wp2_with fail
    refine cB.mono ?_
    rintro e w4 ⟨rfl, ⟨yno, yl, yh, yf, yb, hY, okY, hmY, r1, r2⟩, hK⟩
    have fin : TellsZ w4 bw kd W sg (TruthTold true true) := ⟨yno, yl, yh, yf, yb, hY, okY, hmY, ⟨fun _ => r1 1 (Or.inl q1), fun _ => r1 0 (Or.inr rfl), (fun _ h => by cases h), (fun h => by cases h), (fun h => by cases h)⟩⟩
    have hKM := hKL.trans hK
    clear hY okY hmY r1 r2 hK q1 hKL
    go_wp2_with fail
    go_end0
    exact ⟨rfl, fin, hKM⟩
set_option maxRecDepth 100000 in
set_option maxHeartbeats 1600000 in
theorem classesZ (bw : Nat) (kd W : Int) (sg : Bool) (tno : Bool) (tl th tf tb : Nat) (w : World) (hW : WkZ w bw kd W sg tno tl th tf tb) :
    Calls Tryz.prog 35 #[.pointer (some ⟨bw, 0, none⟩)] w fun e w' => e = .returned (.slice none 0 0) ∧ Below w.heap.size w w' := by
  have cL := fun w h => load32 bw (wkC kd W sg 7 32 tno tl th tf tb 0) 80 w h rfl
  unfold WkZ at hW
  go_enter Tryz.func35, Tryz.ntmps35
  go_wp2_with fail
  go_loopw [3, 4] (fun v3 v4 wr => v3 = .slice none 0 0 ∧ ∃ c : Nat, 1 ≤ c ∧ c ≤ 11 ∧ v4 = .int .i64 c ∧ Below w.heap.size w wr) (fun _ v4 _ => 11 - (intOf v4).toNat)
  case atStart => exact ⟨rfl, 1, by omega, by omega, rfl, Below.refl _ _⟩
  case round =>
    obtain ⟨rfl, c, hc1, hc2, rfl, hb⟩ := hrel
    by_cases hlt : c ≤ 10
    · have hlt1 : (c : Int) ≤ 10 := by omega
      have hW2 := At.below' hb hW
      go_upto_region 5 with (fail)
      go_cut [16] from 9 to 16 (fun v16 wx => v16 = .bool false ∧ Below wr.heap.size wr wx)
      case first =>
        have hcL := fun p : BelowBy wr => cL p.world (p.at hW2)
        clear cL hW hW2 hb
        have hcc : c = 1 ∨ c = 2 ∨ c = 3 ∨ c = 4 ∨ c = 5 ∨ c = 6 ∨ c = 7 ∨ c = 8 ∨ c = 9 ∨ c = 10 := by omega
        clear hc1 hc2 hlt hlt1
        rcases hcc with rfl | rfl | rfl | rfl | rfl | rfl | rfl | rfl | rfl | rfl
        all_goals
          refine wp_region_quiet_below (by kernel_rfl) (by kernel_rfl) ?_
          repeat (go_big_quiet_step ((go_at_call 66; with_reducible exact Calls.below_same (hcL _))))
          refine wpQuiet_nil ?_
          intro wx hw'
          obtain ⟨⟨wx', hbx⟩, hw''⟩ := hw'
          subst hw''
          go_wp2_with fail
          go_meet
          exact ⟨rfl, hbx⟩
      case rest =>
      obtain ⟨rfl, hbx⟩ := hcut
      have hbJ := hb.trans (hbx.mono hb.size)
      clear hbx hW2 hb
      go_wp2_with fail
      go_roundw
      case rel => exact ⟨rfl, c + 1, by omega, by omega, by go_num, hbJ⟩
      case measure => simp [intOf]; omega
    · have hlt1 : decide ((c : Int) ≤ 10) = false := by simp; omega
      go_wp2_with fail
      go_ret
      exact ⟨rfl, hb⟩
set_option maxRecDepth 100000 in
set_option maxHeartbeats 1600000 in
theorem startZ (kd W : Int) (sg : Bool) (w : World) :
    Calls Tryz.prog 32 #[.int .i64 7, .agg #[.int .i64 kd, .int .i64 W, .bool sg]] w fun e w' => ∃ bw, e = .returned (.pointer (some ⟨bw, 0, none⟩)) ∧ At w' bw (wkC kd W sg 7 32 true 0 0 0 0 0) 80 ∧ w.heap.size ≤ bw ∧ Below w.heap.size w w' := by
  have cO := fun w => No_yes 32 (Or.inr (Or.inr rfl)) w
  have dN := At.new w #[.int .i64 kd, .int .i64 W, .bool sg] 60
  have hb0 : Below w.heap.size w (w.alloc (.cells #[.int .i64 kd, .int .i64 W, .bool sg] 60)) := (Below.refl _ _).alloc (Nat.le_refl _) _
  go_enter Tryz.func32, Tryz.ntmps32
  go_wp2_with fail
  refine (cO _).mono ?_
  rintro e w1 ⟨rfl, hb1⟩
  replace dN := At.alloc (At.below' hb1 dN) (.cells #[.int .i64 32, .bool true, .int .i64 0, .int .i64 0, .int .i64 0, .int .i64 0] 30)
  replace hb0 := (hb0.trans (hb1.mono hb0.size)).alloc (hb0.trans (hb1.mono hb0.size)).size (.cells #[.int .i64 32, .bool true, .int .i64 0, .int .i64 0, .int .i64 0, .int .i64 0] 30)
  have dO := At.new w1 #[.int .i64 32, .bool true, .int .i64 0, .int .i64 0, .int .i64 0, .int .i64 0] 30
  obtain ⟨BO, hBO⟩ : ∃ B, B = w1.heap.size := ⟨_, rfl⟩
  rw [← hBO] at dO
  have n0 : (w1.alloc (.cells #[.int .i64 32, .bool true, .int .i64 0, .int .i64 0, .int .i64 0, .int .i64 0] 30)).cell? ⟨w.heap.size, 0, none⟩ = some (.int .i64 kd) := dN.cell 0 rfl
  have n1 : (w1.alloc (.cells #[.int .i64 32, .bool true, .int .i64 0, .int .i64 0, .int .i64 0, .int .i64 0] 30)).cell? ⟨w.heap.size, 1, none⟩ = some (.int .i64 W) := dN.cell 1 rfl
  have n2 : (w1.alloc (.cells #[.int .i64 32, .bool true, .int .i64 0, .int .i64 0, .int .i64 0, .int .i64 0] 30)).cell? ⟨w.heap.size, 2, none⟩ = some (.bool sg) := dN.cell 2 rfl
  have o0 : (w1.alloc (.cells #[.int .i64 32, .bool true, .int .i64 0, .int .i64 0, .int .i64 0, .int .i64 0] 30)).cell? ⟨BO, 0, none⟩ = some (.int .i64 32) := dO.cell 0 rfl
  have o1 : (w1.alloc (.cells #[.int .i64 32, .bool true, .int .i64 0, .int .i64 0, .int .i64 0, .int .i64 0] 30)).cell? ⟨BO, 1, none⟩ = some (.bool true) := dO.cell 1 rfl
  have o2 : (w1.alloc (.cells #[.int .i64 32, .bool true, .int .i64 0, .int .i64 0, .int .i64 0, .int .i64 0] 30)).cell? ⟨BO, 2, none⟩ = some (.int .i64 0) := dO.cell 2 rfl
  have o3 : (w1.alloc (.cells #[.int .i64 32, .bool true, .int .i64 0, .int .i64 0, .int .i64 0, .int .i64 0] 30)).cell? ⟨BO, 3, none⟩ = some (.int .i64 0) := dO.cell 3 rfl
  have o4 : (w1.alloc (.cells #[.int .i64 32, .bool true, .int .i64 0, .int .i64 0, .int .i64 0, .int .i64 0] 30)).cell? ⟨BO, 4, none⟩ = some (.int .i64 0) := dO.cell 4 rfl
  have o5 : (w1.alloc (.cells #[.int .i64 32, .bool true, .int .i64 0, .int .i64 0, .int .i64 0, .int .i64 0] 30)).cell? ⟨BO, 5, none⟩ = some (.int .i64 0) := dO.cell 5 rfl
  clear hb1 cO dN dO
  go_upto_region 8 with (fail)
  rw [← hBO]
  clear hBO
  generalize w1.alloc (.cells #[.int .i64 32, .bool true, .int .i64 0, .int .i64 0, .int .i64 0, .int .i64 0] 30) = w2 at *
  go_wp2_with fail
  go_ret
  exact ⟨_, rfl, At.new w2 (wkC kd W sg 7 32 true 0 0 0 0 0) 80, hb0.size, hb0.alloc hb0.size _⟩
end Go.Proofs.YtblahbmhbfcggaaGreatDoor

/- Package maths: operands asked whether they have a number; operands that are none. -/
namespace Go.Proofs.YtblahbmhbfcggaaGreatDoor
open Go.ChangeShapes Go.WideShapes Go.ChangeAt Go.RowKit Go.Joins Go.Deep
set_option linter.unusedVariables false

set_option maxRecDepth 100000 in
set_option maxHeartbeats 1600000 in
theorem mhas_any (sb : Nat) (kd : Int) (K : Nat) (no : Bool) (l h f b : Nat) (ok : ValOk K no l h f b) (hm : mayB K no l h f b = true) (n : Nat) (hnK : n < 2 ^ K) (w : World) (hA : OpNew w sb kd K no l h f b) :
    Calls Tryz.prog 76 #[.pointer (some ⟨sb, 0, none⟩), .int .i64 n] w fun e w' => ∃ is : Bool, (is = true ↔ MemV K no l h f b n) ∧ e = .returned (.bool is) ∧ Below w.heap.size w w' := by
  unfold OpNew opC at hA
  have p0 : w.cell? ⟨sb, 3, none⟩ = some (.int .i64 K) := hA.cell 3 rfl
  have p1 : w.cell? ⟨sb, 4, none⟩ = some (.bool no) := hA.cell 4 rfl
  have p2 : w.cell? ⟨sb, 5, none⟩ = some (.int .i64 l) := hA.cell 5 rfl
  have p3 : w.cell? ⟨sb, 6, none⟩ = some (.int .i64 h) := hA.cell 6 rfl
  have p4 : w.cell? ⟨sb, 7, none⟩ = some (.int .i64 f) := hA.cell 7 rfl
  have p5 : w.cell? ⟨sb, 8, none⟩ = some (.int .i64 b) := hA.cell 8 rfl
  have cE := fun w => Has_yes K no l h f b n ok hm hnK w
  clear hA hm ok
  go_enter Tryz.func76, Tryz.ntmps76
  go_wp2_with fail
  refine (cE _).mono ?_
  rintro e w1 ⟨is, his, rfl, hb1⟩
  have fin : ∃ is' : Bool, (is' = true ↔ MemV K no l h f b n) ∧ Ending.returned (.bool is) = .returned (.bool is') ∧ Below w.heap.size w w1 := ⟨is, his, rfl, hb1⟩
  clear his hb1
  go_wp2_with fail
  go_ret
  exact fin
set_option maxRecDepth 100000 in
set_option maxHeartbeats 1600000 in
theorem mtake_bad1 (kd : Int) (hk : 1 ≤ kd ∧ kd ≤ 6) (W : Nat) (hW : Al.widthI kd = W) (K : Int) (no : Bool) (l h f b : Int) (hm : mayB K no l h f b = false) (w : World) :
    Calls Tryz.prog 31 #[.int .i64 kd, valV K no l h f b] w fun e w' => e = .returned (.tuple #[.pointer none, .int .i64 1]) ∧ Below w.heap.size w w' := by
  have d0 := At.new w #[.int .i64 K, .bool no, .int .i64 l, .int .i64 h, .int .i64 f, .int .i64 b] 30
  have hb0 : Below w.heap.size w (w.alloc (.cells #[.int .i64 K, .bool no, .int .i64 l, .int .i64 h, .int .i64 f, .int .i64 b] 30)) := (Below.refl _ _).alloc (Nat.le_refl _) _
  have cN := fun w => numbersOf_yes kd hk w
  rw [hW] at cN
  have cC := fun w => Check_no K no l h f b hm w
  clear hm
  generalize Al.signedB kd = sg at *
  clear hk hW
  go_enter Tryz.func31, Tryz.ntmps31
  go_wp2_with fail
  refine (cN _).mono ?_
  rintro e w1 ⟨rfl, hb1⟩
  replace d0 := At.alloc (At.below' hb1 d0) (.cells #[.int .i64 kd, .int .i64 W, .bool sg] 60)
  replace hb0 := (hb0.trans (hb1.mono hb0.size)).alloc (hb0.trans (hb1.mono hb0.size)).size (.cells #[.int .i64 kd, .int .i64 W, .bool sg] 60)
  have dN := At.new w1 #[.int .i64 kd, .int .i64 W, .bool sg] 60
  obtain ⟨BN, hBN⟩ : ∃ B, B = w1.heap.size := ⟨_, rfl⟩
  rw [← hBN] at dN
  have p0 : (w1.alloc (.cells #[.int .i64 kd, .int .i64 W, .bool sg] 60)).cell? ⟨w.heap.size, 0, none⟩ = some (.int .i64 K) := d0.cell 0 rfl
  have p1 : (w1.alloc (.cells #[.int .i64 kd, .int .i64 W, .bool sg] 60)).cell? ⟨w.heap.size, 1, none⟩ = some (.bool no) := d0.cell 1 rfl
  have p2 : (w1.alloc (.cells #[.int .i64 kd, .int .i64 W, .bool sg] 60)).cell? ⟨w.heap.size, 2, none⟩ = some (.int .i64 l) := d0.cell 2 rfl
  have p3 : (w1.alloc (.cells #[.int .i64 kd, .int .i64 W, .bool sg] 60)).cell? ⟨w.heap.size, 3, none⟩ = some (.int .i64 h) := d0.cell 3 rfl
  have p4 : (w1.alloc (.cells #[.int .i64 kd, .int .i64 W, .bool sg] 60)).cell? ⟨w.heap.size, 4, none⟩ = some (.int .i64 f) := d0.cell 4 rfl
  have p5 : (w1.alloc (.cells #[.int .i64 kd, .int .i64 W, .bool sg] 60)).cell? ⟨w.heap.size, 5, none⟩ = some (.int .i64 b) := d0.cell 5 rfl
  clear hb1 cN
  go_wp2_with fail
  rw [← hBN]
  clear hBN
  generalize w1.alloc (.cells #[.int .i64 kd, .int .i64 W, .bool sg] 60) = w1' at *
  refine (cC _).mono ?_
  rintro e w2 ⟨rfl, hb1⟩
  replace d0 := At.below' hb1 d0
  replace dN := At.below' hb1 dN
  replace hb0 := hb0.trans (hb1.mono hb0.size)
  clear p0 p1 p2 p3 p4 p5
  clear hb1 cC d0 dN
  go_wp2_with fail
  go_ret2
  exact ⟨rfl, hb0⟩
set_option maxRecDepth 100000 in
set_option maxHeartbeats 1600000 in
theorem mtake_bad2 (kd : Int) (hk : 1 ≤ kd ∧ kd ≤ 6) (W : Nat) (hW : Al.widthI kd = W) (K : Nat) (no : Bool) (l h f b : Nat) (hm : mayB K no l h f b = true) (hKW : K ≠ W) (w : World) :
    Calls Tryz.prog 31 #[.int .i64 kd, valV K no l h f b] w fun e w' => e = .returned (.tuple #[.pointer none, .int .i64 1]) ∧ Below w.heap.size w w' := by
  have d0 := At.new w #[.int .i64 K, .bool no, .int .i64 l, .int .i64 h, .int .i64 f, .int .i64 b] 30
  have hb0 : Below w.heap.size w (w.alloc (.cells #[.int .i64 K, .bool no, .int .i64 l, .int .i64 h, .int .i64 f, .int .i64 b] 30)) := (Below.refl _ _).alloc (Nat.le_refl _) _
  have cN := fun w => numbersOf_yes kd hk w
  rw [hW] at cN
  have cC := fun w => Check_yes K no l h f b hm w
  have hKW2 : ((K : Int) != (W : Int)) = true := by simp; omega
  have hKW3 : ((K : Int) == (W : Int)) = false := by simp; omega
  have hKW4 : ¬ ((K : Int) = (W : Int)) := by omega
  clear hm hKW
  generalize Al.signedB kd = sg at *
  clear hk hW
  go_enter Tryz.func31, Tryz.ntmps31
  go_wp2_with fail
  refine (cN _).mono ?_
  rintro e w1 ⟨rfl, hb1⟩
  replace d0 := At.alloc (At.below' hb1 d0) (.cells #[.int .i64 kd, .int .i64 W, .bool sg] 60)
  replace hb0 := (hb0.trans (hb1.mono hb0.size)).alloc (hb0.trans (hb1.mono hb0.size)).size (.cells #[.int .i64 kd, .int .i64 W, .bool sg] 60)
  have dN := At.new w1 #[.int .i64 kd, .int .i64 W, .bool sg] 60
  obtain ⟨BN, hBN⟩ : ∃ B, B = w1.heap.size := ⟨_, rfl⟩
  rw [← hBN] at dN
  have p0 : (w1.alloc (.cells #[.int .i64 kd, .int .i64 W, .bool sg] 60)).cell? ⟨w.heap.size, 0, none⟩ = some (.int .i64 K) := d0.cell 0 rfl
  have p1 : (w1.alloc (.cells #[.int .i64 kd, .int .i64 W, .bool sg] 60)).cell? ⟨w.heap.size, 1, none⟩ = some (.bool no) := d0.cell 1 rfl
  have p2 : (w1.alloc (.cells #[.int .i64 kd, .int .i64 W, .bool sg] 60)).cell? ⟨w.heap.size, 2, none⟩ = some (.int .i64 l) := d0.cell 2 rfl
  have p3 : (w1.alloc (.cells #[.int .i64 kd, .int .i64 W, .bool sg] 60)).cell? ⟨w.heap.size, 3, none⟩ = some (.int .i64 h) := d0.cell 3 rfl
  have p4 : (w1.alloc (.cells #[.int .i64 kd, .int .i64 W, .bool sg] 60)).cell? ⟨w.heap.size, 4, none⟩ = some (.int .i64 f) := d0.cell 4 rfl
  have p5 : (w1.alloc (.cells #[.int .i64 kd, .int .i64 W, .bool sg] 60)).cell? ⟨w.heap.size, 5, none⟩ = some (.int .i64 b) := d0.cell 5 rfl
  clear hb1 cN
  go_wp2_with fail
  rw [← hBN]
  clear hBN
  generalize w1.alloc (.cells #[.int .i64 kd, .int .i64 W, .bool sg] 60) = w1' at *
  refine (cC _).mono ?_
  rintro e w2 ⟨rfl, hb1⟩
  replace d0 := At.below' hb1 d0
  replace dN := At.below' hb1 dN
  replace hb0 := hb0.trans (hb1.mono hb0.size)
  clear p0 p1 p2 p3 p4 p5
  have p0 : w2.cell? ⟨w.heap.size, 0, none⟩ = some (.int .i64 K) := d0.cell 0 rfl
  have n1 : w2.cell? ⟨BN, 1, none⟩ = some (.int .i64 W) := dN.cell 1 rfl
  clear hb1 cC d0 dN
  go_wp2_with fail
  go_ret2
  exact ⟨rfl, hb0⟩
end Go.Proofs.YtblahbmhbfcggaaGreatDoor

/- Package maths: One, asked whether a set's members are 0. -/
namespace Go.Proofs.YtblahbmhbfcggaaGreatDoor
open Go.ChangeShapes Go.WideShapes Go.ChangeAt Go.RowKit Go.Joins Go.Deep
set_option linter.unusedVariables false

/-- what is told of a set, asked whether its members are 0 -/
def ZeroT (A M : Nat → Prop) : Prop := ∃ y n : Bool, (y = true ↔ A 0) ∧ (n = true ↔ ¬ ∀ z, A z ↔ z = 0) ∧ TruthTold y n M
set_option maxRecDepth 100000 in
set_option maxHeartbeats 1600000 in
theorem one_zero (bw xa : Nat) (kd W : Int) (sg : Bool) (K : Nat) (no : Bool) (l h f b : Nat) (ok : ValOk K no l h f b) (hm : mayB K no l h f b = true) (w : World) (hA : OpNew w xa kd K no l h f b) (hW : WkZ w bw kd W sg true 0 0 0 0) :
    Calls Tryz.prog 53 #[.pointer (some ⟨bw, 0, none⟩), .pointer (some ⟨xa, 0, none⟩)] w fun e w' => e = .returned (.tuple #[]) ∧ TellsZ w' bw kd W sg (ZeroT (MemV K no l h f b)) ∧ Keeps bw w w' := by
  have c3 : w.cell? ⟨bw, 3, none⟩ = some (.int .i64 7) := hW.cell 3 rfl
  have cH := fun w g => mhas_any xa kd K no l h f b ok hm 0 (Nat.two_pow_pos K) w g
  have cJ := fun w g => mjust_any xa kd K no l h f b ok hm 0 w g
  have cT := fun y n w g => truthZ bw kd W sg y n w g
  generalize hMM : MemV K no l h f b = M at *
  clear ok hm hMM
  go_enter Tryz.func53, Tryz.ntmps53
  go_wp2_with fail
  refine (cH _ hA).mono ?_
  rintro e w1 ⟨y, hy, rfl, hb1⟩
  have hA1 : OpNew w1 xa kd K no l h f b := At.below' hb1 hA
  have hW1 : WkZ w1 bw kd W sg true 0 0 0 0 := At.below' hb1 hW
  have HY := Lib.hid hy
  clear hA hW c3 cH hy
  go_wp2_with fail
  refine (cJ _ hA1).mono ?_
  rintro e w2 ⟨js, hj, rfl, hb2⟩
  have hW2 : WkZ w2 bw kd W sg true 0 0 0 0 := At.below' hb2 hW1
  have hbE := hb1.trans (hb2.mono hb1.size)
  have HJ := Lib.hid hj
  clear hA1 hW1 cJ hj hb1 hb2
  go_wp2_with fail
  refine (cT _ _ _ hW2).mono ?_
  rintro e w3 ⟨rfl, hT, hK⟩
  have hKE := (Keeps.of_below hbE).trans hK
  have fin : TellsZ w3 bw kd W sg (ZeroT M) := by
    obtain ⟨tno, tl, th, tf, tb, h1, h2, h3, h4⟩ := hT
    refine ⟨tno, tl, th, tf, tb, h1, h2, h3, y, !js, HY.out, ?_, h4⟩
    have hj := HJ.out
    unfold JustB at hj
    constructor
    · intro hn hall
      have : js = true := hj.2 ⟨0, rfl, hall⟩
      rw [this] at hn
      cases hn
    · intro hn
      cases js
      · rfl
      · obtain ⟨m, h0, hall⟩ := hj.1 rfl
        obtain rfl : m = 0 := by omega
        exact absurd hall hn
  clear cT hT hK hW2 hbE
  go_wp2_with fail
  first | go_end0 | (simp only [Exit.inBlock, Exit.then]; refine bodyPost_ret (results_none rfl _ _ _) rfl ?_) | refine bodyPost_ret (results_none rfl _ _ _) rfl ?_
  exact ⟨rfl, fin, hKE⟩
/-- what One tells, asked whether a set's members are 0 -/
def MZero (A : Nat → Prop) (w : World) (e : Ending) (w' : World) : Prop := ∃ tno tl th tf tb, e = .returned (.tuple #[valV 32 tno (tl : Nat) (th : Nat) (tf : Nat) (tb : Nat), .slice none 0 0, .int .i64 0]) ∧ ValOk 32 tno tl th tf tb ∧ mayB (32 : Nat) tno tl th tf tb = true ∧ ((∀ z, ¬ A z) → ∀ z, ¬ MemV 32 tno tl th tf tb z) ∧ ((∃ z, A z) → ZeroT A (MemV 32 tno tl th tf tb)) ∧ Below w.heap.size w w'
set_option maxRecDepth 100000 in
set_option maxHeartbeats 1600000 in
theorem MOne_zero (kd : Int) (hk : 1 ≤ kd ∧ kd ≤ 6) (K : Nat) (hK : Al.widthI kd = K) (no : Bool) (l h f b : Nat) (ok : ValOk K no l h f b) (hm : mayB K no l h f b = true) (w : World) :
    Calls Tryz.prog 23 #[.int .i64 7, .int .i64 kd, valV K no l h f b] w (MZero (MemV K no l h f b) w) := by
  obtain ⟨dA, d6, hbE⟩ := two_boxes w #[.int .i64 K, .bool no, .int .i64 l, .int .i64 h, .int .i64 f, .int .i64 b] #[.int .i64 0, .bool false, .int .i64 0, .int .i64 0, .int .i64 0, .int .i64 0] 30
  have hz0 : Al.isN 0 (Al.widthI kd) := by rcases Al.num_cases hk with rfl | rfl | rfl | rfl | rfl | rfl <;> exact ⟨Int.le_refl 0, by decide⟩
  have cO := fun w => Al.One_yes 7 kd 0 (by omega) hk hz0 w
  generalize Al.oneI 7 kd 0 = r at *
  obtain ⟨r1, r2⟩ := r
  have cX := fun w => mtake_yes kd hk K hK no l h f b hm w
  have cS := fun w => startZ kd K (Al.signedB kd) w
  obtain ⟨BR, hBR⟩ : ∃ B, B = w.heap.size + 1 := ⟨_, rfl⟩
  have hBw : w.heap.size ≤ BR := by omega
  rw [← hBR] at d6
  have HBR := Lib.hid hBR
  clear hz0 hBR
  go_enter Tryz.func23, Tryz.ntmps23
  go_upto_region 1 with (fail)
  rw [← HBR.out]
  generalize ((w.alloc (.cells #[.int .i64 K, .bool no, .int .i64 l, .int .i64 h, .int .i64 f, .int .i64 b] 30)).alloc (.cells #[.int .i64 0, .bool false, .int .i64 0, .int .i64 0, .int .i64 0, .int .i64 0] 30)) = w0 at *
  go_wp2_with fail
  refine (cO _).mono ?_
  rintro e w1 ⟨rfl, hb1⟩
  replace dA := At.below' hb1 dA
  replace d6 := At.below' hb1 d6
  replace hbE := hbE.trans (hb1.mono hbE.size)
  clear hb1 cO
  have p0 : w1.cell? ⟨w.heap.size, 0, none⟩ = some (.int .i64 K) := dA.cell 0 rfl
  have p1 : w1.cell? ⟨w.heap.size, 1, none⟩ = some (.bool no) := dA.cell 1 rfl
  have p2 : w1.cell? ⟨w.heap.size, 2, none⟩ = some (.int .i64 l) := dA.cell 2 rfl
  have p3 : w1.cell? ⟨w.heap.size, 3, none⟩ = some (.int .i64 h) := dA.cell 3 rfl
  have p4 : w1.cell? ⟨w.heap.size, 4, none⟩ = some (.int .i64 f) := dA.cell 4 rfl
  have p5 : w1.cell? ⟨w.heap.size, 5, none⟩ = some (.int .i64 b) := dA.cell 5 rfl
  go_wp2_with fail
  refine (cX _).mono ?_
  rintro e w2 ⟨xa, rfl, hXA, hxa, hb2⟩
  replace d6 := At.below' hb2 d6
  replace hbE := hbE.trans (hb2.mono hbE.size)
  clear p0 p1 p2 p3 p4 p5 hb2 cX dA
  have n0 : w2.cell? ⟨xa, 0, none⟩ = some (.int .i64 kd) := hXA.cell 0 rfl
  have n1 : w2.cell? ⟨xa, 1, none⟩ = some (.int .i64 K) := hXA.cell 1 rfl
  have n2 : w2.cell? ⟨xa, 2, none⟩ = some (.bool (Al.signedB kd)) := hXA.cell 2 rfl
  go_wp2_with fail
  refine (cS _).mono ?_
  rintro e w3 ⟨bw, rfl, hW, hbw, hb3⟩
  have hXA3 : OpNew w3 xa kd K no l h f b := At.below' hb3 hXA
  have hn6 : BR < bw := Nat.lt_of_lt_of_le d6.lt hbw
  replace d6 := At.below' hb3 d6
  replace hbE := hbE.trans (hb3.mono hbE.size)
  clear hb3 cS n0 n1 n2 hXA hbw
  have cE := fun w g => mempty_any xa kd K no l h f b ok hm w g
  have cM := fun w g g2 => one_zero bw xa kd K (Al.signedB kd) K no l h f b ok hm w g g2
  generalize hMM : MemV K no l h f b = M at *
  have hNV : NoneV K no l h f b ↔ ∀ z, ¬ M z := by rw [← hMM]; rfl
  have HNV := Lib.hid hNV
  clear hMM hNV ok hm
  go_wp2_with fail
  refine (cE _ hXA3).mono ?_
  rintro e w4 ⟨is, his, rfl, hb4⟩
  have hXA4 : OpNew w4 xa kd K no l h f b := At.below' hb4 hXA3
  have hW4 : WkZ w4 bw kd K (Al.signedB kd) true 0 0 0 0 := At.below' hb4 hW
  replace d6 := At.below' hb4 d6
  replace hbE := hbE.trans (hb4.mono hbE.size)
  have hmp := his.trans HNV.out
  clear hb4 cE hXA3 hW his
  go_upto_if 43 with (fail)
  go_cut [] from 44 to 46 (fun wx => (∃ tno tl th tf tb, WkZ wx bw kd K (Al.signedB kd) tno tl th tf tb ∧ ValOk 32 tno tl th tf tb ∧ mayB (32 : Nat) tno tl th tf tb = true ∧ ((∀ z, ¬ M z) → ∀ z, ¬ MemV 32 tno tl th tf tb z) ∧ ((∃ z, M z) → ZeroT M (MemV 32 tno tl th tf tb))) ∧ Keeps bw w4 wx)
  case first =>
    clear d6 hbE
    cases is
    · have HMP := Lib.hid hmp
      clear hmp
      go_wp2_with fail
      refine (cM _ hXA4 hW4).mono ?_
      rintro e w5 ⟨rfl, ⟨tno, tl, th, tf, tb, hT, okT, hmT, hZ⟩, hK⟩
      have fin : (∃ tno tl th tf tb, WkZ w5 bw kd K (Al.signedB kd) tno tl th tf tb ∧ ValOk 32 tno tl th tf tb ∧ mayB (32 : Nat) tno tl th tf tb = true ∧ ((∀ z, ¬ M z) → ∀ z, ¬ MemV 32 tno tl th tf tb z) ∧ ((∃ z, M z) → ZeroT M (MemV 32 tno tl th tf tb))) ∧ Keeps bw w4 w5 := ⟨⟨tno, tl, th, tf, tb, hT, okT, hmT, fun hno => absurd (HMP.out.2 hno) (by decide), fun _ => hZ⟩, hK⟩
      clear hT okT hmT hZ hK hXA4 hW4 cM
      go_wp2_with fail
      go_meet
      exact fin
    · have fin : (∃ tno tl th tf tb, WkZ w4 bw kd K (Al.signedB kd) tno tl th tf tb ∧ ValOk 32 tno tl th tf tb ∧ mayB (32 : Nat) tno tl th tf tb = true ∧ ((∀ z, ¬ M z) → ∀ z, ¬ MemV 32 tno tl th tf tb z) ∧ ((∃ z, M z) → ZeroT M (MemV 32 tno tl th tf tb))) ∧ Keeps bw w4 w4 := ⟨⟨true, 0, 0, 0, 0, hW4, no_32, no_32m, (fun _ z hz => by cases hz.1), (fun ⟨z, hz⟩ => absurd hz (hmp.1 rfl z))⟩, Keeps.refl bw w4⟩
      clear hmp hXA4 hW4 cM
      go_wp2_with fail
      go_meet
      exact fin
  case rest =>
  obtain ⟨⟨tno, tl, th, tf, tb, hT, okT, hmT, z1, z2⟩, hKp⟩ := hcut
  generalize wc = w7 at *
  have Z1 := Lib.hid z1
  have Z2 := Lib.hid z2
  have d8k := At.keeps d6 hKp (by omega)
  have hbF := hbE.trans (hKp.below (by omega) hbE.size)
  have cC := fun w g => classesZ bw kd K (Al.signedB kd) tno tl th tf tb w g
  clear cM hXA4 hW4 hKp hbE d6 z1 z2 hmp
  go_upto_region 10 with (fail)
  have o0 : w7.cell? ⟨bw, 4, none⟩ = some (.int .i64 32) := hT.cell 4 rfl
  have o1 : w7.cell? ⟨bw, 5, none⟩ = some (.bool tno) := hT.cell 5 rfl
  have o2 : w7.cell? ⟨bw, 6, none⟩ = some (.int .i64 tl) := hT.cell 6 rfl
  have o3 : w7.cell? ⟨bw, 7, none⟩ = some (.int .i64 th) := hT.cell 7 rfl
  have o4 : w7.cell? ⟨bw, 8, none⟩ = some (.int .i64 tf) := hT.cell 8 rfl
  have o5 : w7.cell? ⟨bw, 9, none⟩ = some (.int .i64 tb) := hT.cell 9 rfl
  have HT := Lib.hid hT
  have D8 := Lib.hid d8k
  clear hT d8k
  go_region_with
    ((go_at_call 35; refine (cC _ (At.drew HT.out)).mono ?_; rintro e w8 ⟨rfl, hb8⟩
      have dR := At.below' hb8 D8.out.drew
      have hT8 := At.below' hb8 (At.drew HT.out)
      have u0 : w8.cell? ⟨bw, 4, none⟩ = some (.int .i64 32) := hT8.cell 4 rfl
      have u1 : w8.cell? ⟨bw, 5, none⟩ = some (.bool tno) := hT8.cell 5 rfl
      have u2 : w8.cell? ⟨bw, 6, none⟩ = some (.int .i64 tl) := hT8.cell 6 rfl
      have u3 : w8.cell? ⟨bw, 7, none⟩ = some (.int .i64 th) := hT8.cell 7 rfl
      have u4 : w8.cell? ⟨bw, 8, none⟩ = some (.int .i64 tf) := hT8.cell 8 rfl
      have u5 : w8.cell? ⟨bw, 9, none⟩ = some (.int .i64 tb) := hT8.cell 9 rfl
      have tc0 : w8.cell? ⟨BR, 0, none⟩ = some (.int .i64 0) := dR.cell 0 rfl
      have tf0 : w8.frozen? ⟨BR, 0, none⟩ = false := At.free dR 0
      have ts0 : At (w8.setCell ⟨BR, 0, none⟩ (.int .i64 32)) BR #[.int .i64 32, .bool false, .int .i64 0, .int .i64 0, .int .i64 0, .int .i64 0] 30 := At.set dR 0 (.int .i64 32) (by simp)
      have tc1 : (w8.setCell ⟨BR, 0, none⟩ (.int .i64 32)).cell? ⟨BR, 1, none⟩ = some (.bool false) := ts0.cell 1 rfl
      have tf1 : (w8.setCell ⟨BR, 0, none⟩ (.int .i64 32)).frozen? ⟨BR, 1, none⟩ = false := At.free ts0 1
      have ts1 : At ((w8.setCell ⟨BR, 0, none⟩ (.int .i64 32)).setCell ⟨BR, 1, none⟩ (.bool tno)) BR #[.int .i64 32, .bool tno, .int .i64 0, .int .i64 0, .int .i64 0, .int .i64 0] 30 := At.set ts0 1 (.bool tno) (by simp)
      have tc2 : ((w8.setCell ⟨BR, 0, none⟩ (.int .i64 32)).setCell ⟨BR, 1, none⟩ (.bool tno)).cell? ⟨BR, 2, none⟩ = some (.int .i64 0) := ts1.cell 2 rfl
      have tf2 : ((w8.setCell ⟨BR, 0, none⟩ (.int .i64 32)).setCell ⟨BR, 1, none⟩ (.bool tno)).frozen? ⟨BR, 2, none⟩ = false := At.free ts1 2
      have ts2 : At (((w8.setCell ⟨BR, 0, none⟩ (.int .i64 32)).setCell ⟨BR, 1, none⟩ (.bool tno)).setCell ⟨BR, 2, none⟩ (.int .i64 tl)) BR #[.int .i64 32, .bool tno, .int .i64 tl, .int .i64 0, .int .i64 0, .int .i64 0] 30 := At.set ts1 2 (.int .i64 tl) (by simp)
      have tc3 : (((w8.setCell ⟨BR, 0, none⟩ (.int .i64 32)).setCell ⟨BR, 1, none⟩ (.bool tno)).setCell ⟨BR, 2, none⟩ (.int .i64 tl)).cell? ⟨BR, 3, none⟩ = some (.int .i64 0) := ts2.cell 3 rfl
      have tf3 : (((w8.setCell ⟨BR, 0, none⟩ (.int .i64 32)).setCell ⟨BR, 1, none⟩ (.bool tno)).setCell ⟨BR, 2, none⟩ (.int .i64 tl)).frozen? ⟨BR, 3, none⟩ = false := At.free ts2 3
      have ts3 : At ((((w8.setCell ⟨BR, 0, none⟩ (.int .i64 32)).setCell ⟨BR, 1, none⟩ (.bool tno)).setCell ⟨BR, 2, none⟩ (.int .i64 tl)).setCell ⟨BR, 3, none⟩ (.int .i64 th)) BR #[.int .i64 32, .bool tno, .int .i64 tl, .int .i64 th, .int .i64 0, .int .i64 0] 30 := At.set ts2 3 (.int .i64 th) (by simp)
      have tc4 : ((((w8.setCell ⟨BR, 0, none⟩ (.int .i64 32)).setCell ⟨BR, 1, none⟩ (.bool tno)).setCell ⟨BR, 2, none⟩ (.int .i64 tl)).setCell ⟨BR, 3, none⟩ (.int .i64 th)).cell? ⟨BR, 4, none⟩ = some (.int .i64 0) := ts3.cell 4 rfl
      have tf4 : ((((w8.setCell ⟨BR, 0, none⟩ (.int .i64 32)).setCell ⟨BR, 1, none⟩ (.bool tno)).setCell ⟨BR, 2, none⟩ (.int .i64 tl)).setCell ⟨BR, 3, none⟩ (.int .i64 th)).frozen? ⟨BR, 4, none⟩ = false := At.free ts3 4
      have ts4 : At (((((w8.setCell ⟨BR, 0, none⟩ (.int .i64 32)).setCell ⟨BR, 1, none⟩ (.bool tno)).setCell ⟨BR, 2, none⟩ (.int .i64 tl)).setCell ⟨BR, 3, none⟩ (.int .i64 th)).setCell ⟨BR, 4, none⟩ (.int .i64 tf)) BR #[.int .i64 32, .bool tno, .int .i64 tl, .int .i64 th, .int .i64 tf, .int .i64 0] 30 := At.set ts3 4 (.int .i64 tf) (by simp)
      have tc5 : (((((w8.setCell ⟨BR, 0, none⟩ (.int .i64 32)).setCell ⟨BR, 1, none⟩ (.bool tno)).setCell ⟨BR, 2, none⟩ (.int .i64 tl)).setCell ⟨BR, 3, none⟩ (.int .i64 th)).setCell ⟨BR, 4, none⟩ (.int .i64 tf)).cell? ⟨BR, 5, none⟩ = some (.int .i64 0) := ts4.cell 5 rfl
      have tf5 : (((((w8.setCell ⟨BR, 0, none⟩ (.int .i64 32)).setCell ⟨BR, 1, none⟩ (.bool tno)).setCell ⟨BR, 2, none⟩ (.int .i64 tl)).setCell ⟨BR, 3, none⟩ (.int .i64 th)).setCell ⟨BR, 4, none⟩ (.int .i64 tf)).frozen? ⟨BR, 5, none⟩ = false := At.free ts4 5
      have ts5 : At ((((((w8.setCell ⟨BR, 0, none⟩ (.int .i64 32)).setCell ⟨BR, 1, none⟩ (.bool tno)).setCell ⟨BR, 2, none⟩ (.int .i64 tl)).setCell ⟨BR, 3, none⟩ (.int .i64 th)).setCell ⟨BR, 4, none⟩ (.int .i64 tf)).setCell ⟨BR, 5, none⟩ (.int .i64 tb)) BR #[.int .i64 32, .bool tno, .int .i64 tl, .int .i64 th, .int .i64 tf, .int .i64 tb] 30 := At.set ts4 5 (.int .i64 tb) (by simp)
      have DR := Lib.hid ts5
      have HB8 := Lib.hid hb8
      clear dR hb8 hT8 ts5 ts0 ts1 ts2 ts3 ts4))
  all_goals
    have hbG : Below w.heap.size w ((((((w8.setCell ⟨BR, 0, none⟩ (.int .i64 32)).setCell ⟨BR, 1, none⟩ (.bool tno)).setCell ⟨BR, 2, none⟩ (.int .i64 tl)).setCell ⟨BR, 3, none⟩ (.int .i64 th)).setCell ⟨BR, 4, none⟩ (.int .i64 tf)).setCell ⟨BR, 5, none⟩ (.int .i64 tb)) := (((((((hbF.drew.trans (HB8.out.mono hbF.size)).setCell (p := ⟨BR, 0, none⟩) hBw (.int .i64 32)).setCell (p := ⟨BR, 1, none⟩) hBw (.bool tno)).setCell (p := ⟨BR, 2, none⟩) hBw (.int .i64 tl)).setCell (p := ⟨BR, 3, none⟩) hBw (.int .i64 th)).setCell (p := ⟨BR, 4, none⟩) hBw (.int .i64 tf)).setCell (p := ⟨BR, 5, none⟩) hBw (.int .i64 tb))
    have g0 : ((((((w8.setCell ⟨BR, 0, none⟩ (.int .i64 32)).setCell ⟨BR, 1, none⟩ (.bool tno)).setCell ⟨BR, 2, none⟩ (.int .i64 tl)).setCell ⟨BR, 3, none⟩ (.int .i64 th)).setCell ⟨BR, 4, none⟩ (.int .i64 tf)).setCell ⟨BR, 5, none⟩ (.int .i64 tb)).cell? ⟨BR, 0, none⟩ = some (.int .i64 32) := DR.out.cell 0 rfl
    have g1 : ((((((w8.setCell ⟨BR, 0, none⟩ (.int .i64 32)).setCell ⟨BR, 1, none⟩ (.bool tno)).setCell ⟨BR, 2, none⟩ (.int .i64 tl)).setCell ⟨BR, 3, none⟩ (.int .i64 th)).setCell ⟨BR, 4, none⟩ (.int .i64 tf)).setCell ⟨BR, 5, none⟩ (.int .i64 tb)).cell? ⟨BR, 1, none⟩ = some (.bool tno) := DR.out.cell 1 rfl
    have g2 : ((((((w8.setCell ⟨BR, 0, none⟩ (.int .i64 32)).setCell ⟨BR, 1, none⟩ (.bool tno)).setCell ⟨BR, 2, none⟩ (.int .i64 tl)).setCell ⟨BR, 3, none⟩ (.int .i64 th)).setCell ⟨BR, 4, none⟩ (.int .i64 tf)).setCell ⟨BR, 5, none⟩ (.int .i64 tb)).cell? ⟨BR, 2, none⟩ = some (.int .i64 tl) := DR.out.cell 2 rfl
    have g3 : ((((((w8.setCell ⟨BR, 0, none⟩ (.int .i64 32)).setCell ⟨BR, 1, none⟩ (.bool tno)).setCell ⟨BR, 2, none⟩ (.int .i64 tl)).setCell ⟨BR, 3, none⟩ (.int .i64 th)).setCell ⟨BR, 4, none⟩ (.int .i64 tf)).setCell ⟨BR, 5, none⟩ (.int .i64 tb)).cell? ⟨BR, 3, none⟩ = some (.int .i64 th) := DR.out.cell 3 rfl
    have g4 : ((((((w8.setCell ⟨BR, 0, none⟩ (.int .i64 32)).setCell ⟨BR, 1, none⟩ (.bool tno)).setCell ⟨BR, 2, none⟩ (.int .i64 tl)).setCell ⟨BR, 3, none⟩ (.int .i64 th)).setCell ⟨BR, 4, none⟩ (.int .i64 tf)).setCell ⟨BR, 5, none⟩ (.int .i64 tb)).cell? ⟨BR, 4, none⟩ = some (.int .i64 tf) := DR.out.cell 4 rfl
    have g5 : ((((((w8.setCell ⟨BR, 0, none⟩ (.int .i64 32)).setCell ⟨BR, 1, none⟩ (.bool tno)).setCell ⟨BR, 2, none⟩ (.int .i64 tl)).setCell ⟨BR, 3, none⟩ (.int .i64 th)).setCell ⟨BR, 4, none⟩ (.int .i64 tf)).setCell ⟨BR, 5, none⟩ (.int .i64 tb)).cell? ⟨BR, 5, none⟩ = some (.int .i64 tb) := DR.out.cell 5 rfl
    clear u0 u1 u2 u3 u4 u5 tc0 tc1 tc2 tc3 tc4 tc5 tf0 tf1 tf2 tf3 tf4 tf5 DR HB8 HT D8 o0 o1 o2 o3 o4 o5 cC hbF
    go_wp2_with fail
    exact bodyPost_ret (v := .tuple #[valV 32 tno tl th tf tb, .slice none 0 0, .int .i64 0]) (by simp [results, Tryz.results23, go_sem, g0, g1, g2, g3, g4, g5]) rfl ⟨tno, tl, th, tf, tb, rfl, okT, hmT, Z1.out, Z2.out, hbG⟩
end Go.Proofs.YtblahbmhbfcggaaGreatDoor

/- What the laws of layer 4 ask of what is told: fine, holds, just; One at operands that are none. -/
namespace Go.Proofs.YtblahbmhbfcggaaGreatDoor
open Go.ChangeShapes Go.WideShapes Go.ChangeAt Go.RowKit Go.Joins Go.Deep
set_option linter.unusedVariables false

def ansI (op kd : Int) : Int := if op = 18 ∨ op = 19 ∨ op = 7 then 32 else Al.widthI kd
set_option maxRecDepth 100000 in
set_option maxHeartbeats 1600000 in
theorem rAnswer_any (op kd : Int) (w : World) : Calls Tryz.prog 39 #[.int .i64 op, .int .i64 kd] w fun e w' => e = .returned (.int .i64 (ansI op kd)) ∧ w = w' := by
  have cW := fun w => Al.rWidth_any kd w
  unfold ansI
  by_cases h1 : op = 18
  · subst h1
    go_enter Tryz.func39, Tryz.ntmps39
    go_wp2_with fail
    go_ret
    exact ⟨rfl, rfl⟩
  · have t1 : (op == 18) = false := by simpa using h1
    by_cases h2 : op = 19
    · subst h2
      go_enter Tryz.func39, Tryz.ntmps39
      go_wp2_with fail
      go_ret
      exact ⟨rfl, rfl⟩
    · have t2 : (op == 19) = false := by simpa using h2
      by_cases h3 : op = 7
      · subst h3
        go_enter Tryz.func39, Tryz.ntmps39
        go_wp2_with fail
        go_ret
        exact ⟨rfl, rfl⟩
      · have t3 : (op == 7) = false := by simpa using h3
        rw [if_neg (by omega)]
        go_enter Tryz.func39, Tryz.ntmps39
        go_wp2_with (go_at_call 13; refine (cW _).mono ?_; rintro e w' ⟨rfl, rfl⟩)
        go_ret
        exact ⟨rfl, rfl⟩
set_option maxRecDepth 100000 in
set_option maxHeartbeats 1600000 in
theorem classes_nil (w : World) : Calls Tryz.prog 40 #[.slice none 0 0] w fun e w' => e = .returned (.bool true) ∧ w = w' := by
  go_enter Tryz.func40, Tryz.ntmps40
  go_wp2_with fail
  go_loopw [3] (fun v3 wr => v3 = .int .i64 0 ∧ wr = w) (fun _ _ => 0)
  case atStart => exact ⟨rfl, rfl⟩
  case round =>
    obtain ⟨rfl, rfl⟩ := hrel
    go_wp2_with fail
    go_ret
    exact ⟨rfl, rfl⟩
set_option maxRecDepth 100000 in
set_option maxHeartbeats 1600000 in
theorem fine_ok (op kd : Int) (WA : Nat) (tno : Bool) (tl th tf tb : Nat) (hm : mayB (WA : Nat) tno tl th tf tb = true) (hWA : ansI op kd = (WA : Nat)) (w : World) :
    Calls Tryz.prog 15 #[.int .i64 op, .int .i64 kd, valV WA tno tl th tf tb, .slice none 0 0] w fun e w' => e = .returned (.bool true) ∧ Below w.heap.size w w' := by
  have cV := fun w => rVal_any (WA : Int) tno (tl : Int) (th : Int) (tf : Int) (tb : Int) w
  rw [hm] at cV
  have cA := fun w => rAnswer_any op kd w
  rw [hWA] at cA
  have cC := fun w => classes_nil w
  have d0 := At.new w #[.int .i64 WA, .bool tno, .int .i64 tl, .int .i64 th, .int .i64 tf, .int .i64 tb] 30
  have hb0 : Below w.heap.size w (w.alloc (.cells #[.int .i64 WA, .bool tno, .int .i64 tl, .int .i64 th, .int .i64 tf, .int .i64 tb] 30)) := (Below.refl _ _).alloc (Nat.le_refl _) _
  clear hm hWA
  go_enter Tryz.func15, Tryz.ntmps15
  go_upto_region 1 with (fail)
  generalize w.alloc (.cells #[.int .i64 WA, .bool tno, .int .i64 tl, .int .i64 th, .int .i64 tf, .int .i64 tb] 30) = w1 at *
  go_cut [25] from 10 to 25 (fun v25 wx => v25 = .bool false ∧ Below w1.heap.size w1 wx)
  case first =>
    have q0 := fun p : BelowBy w1 => p.cell (d0.cell 0 rfl : w1.cell? ⟨w.heap.size, 0, none⟩ = some (.int .i64 WA))
    have q1 := fun p : BelowBy w1 => p.cell (d0.cell 1 rfl : w1.cell? ⟨w.heap.size, 1, none⟩ = some (.bool tno))
    have q2 := fun p : BelowBy w1 => p.cell (d0.cell 2 rfl : w1.cell? ⟨w.heap.size, 2, none⟩ = some (.int .i64 tl))
    have q3 := fun p : BelowBy w1 => p.cell (d0.cell 3 rfl : w1.cell? ⟨w.heap.size, 3, none⟩ = some (.int .i64 th))
    have q4 := fun p : BelowBy w1 => p.cell (d0.cell 4 rfl : w1.cell? ⟨w.heap.size, 4, none⟩ = some (.int .i64 tf))
    have q5 := fun p : BelowBy w1 => p.cell (d0.cell 5 rfl : w1.cell? ⟨w.heap.size, 5, none⟩ = some (.int .i64 tb))
    clear d0 hb0
    refine wp_region_quiet_below (by kernel_rfl) (by kernel_rfl) ?_
    repeat (go_big_quiet_step ((first | (go_at_call 12; with_reducible exact Calls.below_of (cV _)) | (go_at_call 39; with_reducible exact Calls.below_same (cA _)) | (go_at_call 40; with_reducible exact Calls.below_same (cC _)))))
    refine wpQuiet_nil ?_
    intro wx hw'
    obtain ⟨⟨wx', hbx⟩, hw''⟩ := hw'
    subst hw''
    go_wp2_with fail
    go_meet
    exact ⟨rfl, hbx⟩
  case rest =>
  obtain ⟨rfl, hbx⟩ := hcut
  generalize wc = w2 at *
  have hb2 := hb0.trans (hbx.mono hb0.size)
  clear d0 hb0 hbx cV cA cC
  go_wp2_with fail
  go_loopw [9] (fun v9 wr => v9 = .int .i64 0 ∧ wr = w2) (fun _ _ => 0)
  case atStart => exact ⟨rfl, rfl⟩
  case round =>
    obtain ⟨rfl, rfl⟩ := hrel
    go_wp2_with fail
    go_ret
    exact ⟨rfl, hb2⟩
set_option maxRecDepth 100000 in
set_option maxHeartbeats 1600000 in
theorem holds_ok (WA : Nat) (tno : Bool) (tl th tf tb : Nat) (ok : ValOk WA tno tl th tf tb) (n : Nat) (hn : n < 2 ^ WA) (hM : MemV WA tno tl th tf tb n) (w : World) :
    Calls Tryz.prog 19 #[valV WA tno tl th tf tb, .slice none 0 0, .int .i64 n, .int .i64 0] w fun e w' => e = .returned (.bool true) ∧ Below w.heap.size w w' := by
  have cH := fun w => rHas_b WA tno tl th tf tb n ok hn w
  rw [(hasB_iff ok hn).2 hM] at cH
  have d0 := At.new w #[.int .i64 WA, .bool tno, .int .i64 tl, .int .i64 th, .int .i64 tf, .int .i64 tb] 30
  have hb0 : Below w.heap.size w (w.alloc (.cells #[.int .i64 WA, .bool tno, .int .i64 tl, .int .i64 th, .int .i64 tf, .int .i64 tb] 30)) := (Below.refl _ _).alloc (Nat.le_refl _) _
  clear hM hn ok
  go_enter Tryz.func19, Tryz.ntmps19
  go_upto_region 1 with (fail)
  generalize w.alloc (.cells #[.int .i64 WA, .bool tno, .int .i64 tl, .int .i64 th, .int .i64 tf, .int .i64 tb] 30) = w1 at *
  have t0 : w1.cell? ⟨w.heap.size, 0, none⟩ = some (.int .i64 WA) := d0.cell 0 rfl
  have t1 : w1.cell? ⟨w.heap.size, 1, none⟩ = some (.bool tno) := d0.cell 1 rfl
  have t2 : w1.cell? ⟨w.heap.size, 2, none⟩ = some (.int .i64 tl) := d0.cell 2 rfl
  have t3 : w1.cell? ⟨w.heap.size, 3, none⟩ = some (.int .i64 th) := d0.cell 3 rfl
  have t4 : w1.cell? ⟨w.heap.size, 4, none⟩ = some (.int .i64 tf) := d0.cell 4 rfl
  have t5 : w1.cell? ⟨w.heap.size, 5, none⟩ = some (.int .i64 tb) := d0.cell 5 rfl
  go_wp2_with fail
  refine (cH _).mono ?_
  rintro e w2 ⟨rfl, hb2⟩
  have hbE := hb0.trans (hb2.mono hb0.size)
  clear d0 hb0 hb2 t0 t1 t2 t3 t4 t5 cH
  go_wp2_with fail
  go_ret
  exact ⟨rfl, hbE⟩
set_option maxRecDepth 100000 in
set_option maxHeartbeats 1600000 in
theorem just_ok (WA : Nat) (tno : Bool) (tl th tf tb : Nat) (ok : ValOk WA tno tl th tf tb) (n : Nat) (hM : ∀ y, MemV WA tno tl th tf tb y ↔ y = n) (w : World) :
    Calls Tryz.prog 21 #[valV WA tno tl th tf tb, .slice none 0 0, .int .i64 n, .int .i64 0] w fun e w' => e = .returned (.bool true) ∧ Below w.heap.size w w' := by
  have cO := fun w => rOnly_v WA tno tl th tf tb ok w
  have d0 := At.new w #[.int .i64 WA, .bool tno, .int .i64 tl, .int .i64 th, .int .i64 tf, .int .i64 tb] 30
  have hb0 : Below w.heap.size w (w.alloc (.cells #[.int .i64 WA, .bool tno, .int .i64 tl, .int .i64 th, .int .i64 tf, .int .i64 tb] 30)) := (Below.refl _ _).alloc (Nat.le_refl _) _
  clear ok
  go_enter Tryz.func21, Tryz.ntmps21
  go_upto_region 1 with (fail)
  generalize w.alloc (.cells #[.int .i64 WA, .bool tno, .int .i64 tl, .int .i64 th, .int .i64 tf, .int .i64 tb] 30) = w1 at *
  have t0 : w1.cell? ⟨w.heap.size, 0, none⟩ = some (.int .i64 WA) := d0.cell 0 rfl
  have t1 : w1.cell? ⟨w.heap.size, 1, none⟩ = some (.bool tno) := d0.cell 1 rfl
  have t2 : w1.cell? ⟨w.heap.size, 2, none⟩ = some (.int .i64 tl) := d0.cell 2 rfl
  have t3 : w1.cell? ⟨w.heap.size, 3, none⟩ = some (.int .i64 th) := d0.cell 3 rfl
  have t4 : w1.cell? ⟨w.heap.size, 4, none⟩ = some (.int .i64 tf) := d0.cell 4 rfl
  have t5 : w1.cell? ⟨w.heap.size, 5, none⟩ = some (.int .i64 tb) := d0.cell 5 rfl
  go_wp2_with fail
  refine (cO _).mono ?_
  rintro e w2 ⟨x, is, hx, rfl, hb2⟩
  have hbE := hb0.trans (hb2.mono hb0.size)
  have hx3 : x = (n : Int) ∧ is = true := by
    rcases hx with ⟨h1, m, h2, h3⟩ | ⟨_, h⟩
    · have := (h3 n).1 ((hM n).2 rfl)
      exact ⟨by omega, h1⟩
    · exact absurd hM (h n)
  obtain ⟨rfl, rfl⟩ := hx3
  clear d0 hb0 hb2 t0 t1 t2 t3 t4 t5 cO hx hM
  go_wp2_with fail
  go_ret
  exact ⟨rfl, hbE⟩
end Go.Proofs.YtblahbmhbfcggaaGreatDoor

/- One at operands that are none. -/
namespace Go.Proofs.YtblahbmhbfcggaaGreatDoor
open Go.ChangeShapes Go.WideShapes Go.ChangeAt Go.RowKit Go.Joins Go.Deep
set_option linter.unusedVariables false

set_option maxRecDepth 100000 in
set_option maxHeartbeats 1600000 in
theorem MOne_bad (op kd : Int) (ho : 5 ≤ op ∧ op ≤ 7) (hk : 1 ≤ kd ∧ kd ≤ 6) (k : Int) (no : Bool) (l h f b : Int)
    (cX : ∀ w, Calls Tryz.prog 31 #[.int .i64 kd, valV k no l h f b] w fun e w' => e = .returned (.tuple #[.pointer none, .int .i64 1]) ∧ Below w.heap.size w w') (w : World) :
    Calls Tryz.prog 23 #[.int .i64 op, .int .i64 kd, valV k no l h f b] w fun e w' => e = .returned (.tuple #[valV 0 false 0 0 0 0, .slice none 0 0, .int .i64 1]) ∧ Below w.heap.size w w' := by
  obtain ⟨dA, d6, hbE⟩ := two_boxes w #[.int .i64 k, .bool no, .int .i64 l, .int .i64 h, .int .i64 f, .int .i64 b] #[.int .i64 0, .bool false, .int .i64 0, .int .i64 0, .int .i64 0, .int .i64 0] 30
  have hz0 : Al.isN 0 (Al.widthI kd) := by rcases Al.num_cases hk with rfl | rfl | rfl | rfl | rfl | rfl <;> exact ⟨Int.le_refl 0, by decide⟩
  have cO := fun w => Al.One_yes op kd 0 ho hk hz0 w
  generalize Al.oneI op kd 0 = r at *
  obtain ⟨r1, r2⟩ := r
  obtain ⟨BR, hBR⟩ : ∃ B, B = w.heap.size + 1 := ⟨_, rfl⟩
  have hBw : w.heap.size ≤ BR := by omega
  rw [← hBR] at d6
  have HBR := Lib.hid hBR
  clear hz0 hBR ho hk
  go_enter Tryz.func23, Tryz.ntmps23
  go_upto_region 1 with (fail)
  rw [← HBR.out]
  generalize ((w.alloc (.cells #[.int .i64 k, .bool no, .int .i64 l, .int .i64 h, .int .i64 f, .int .i64 b] 30)).alloc (.cells #[.int .i64 0, .bool false, .int .i64 0, .int .i64 0, .int .i64 0, .int .i64 0] 30)) = w0 at *
  go_wp2_with fail
  refine (cO _).mono ?_
  rintro e w1 ⟨rfl, hb1⟩
  replace dA := At.below' hb1 dA
  replace d6 := At.below' hb1 d6
  replace hbE := hbE.trans (hb1.mono hbE.size)
  clear hb1 cO
  have p0 : w1.cell? ⟨w.heap.size, 0, none⟩ = some (.int .i64 k) := dA.cell 0 rfl
  have p1 : w1.cell? ⟨w.heap.size, 1, none⟩ = some (.bool no) := dA.cell 1 rfl
  have p2 : w1.cell? ⟨w.heap.size, 2, none⟩ = some (.int .i64 l) := dA.cell 2 rfl
  have p3 : w1.cell? ⟨w.heap.size, 3, none⟩ = some (.int .i64 h) := dA.cell 3 rfl
  have p4 : w1.cell? ⟨w.heap.size, 4, none⟩ = some (.int .i64 f) := dA.cell 4 rfl
  have p5 : w1.cell? ⟨w.heap.size, 5, none⟩ = some (.int .i64 b) := dA.cell 5 rfl
  go_wp2_with fail
  refine (cX _).mono ?_
  rintro e w2 ⟨rfl, hb2⟩
  replace d6 := At.below' hb2 d6
  replace hbE := hbE.trans (hb2.mono hbE.size)
  clear p0 p1 p2 p3 p4 p5 hb2 cX dA
  have st := store6 d6 (.int .i64 0) (.bool false) (.int .i64 0) (.int .i64 0) (.int .i64 0) (.int .i64 0)
  have d2 := store6_at d6 (.int .i64 0) (.bool false) (.int .i64 0) (.int .i64 0) (.int .i64 0) (.int .i64 0)
  have hbT := store6_below hbE hBw (.int .i64 0) (.bool false) (.int .i64 0) (.int .i64 0) (.int .i64 0) (.int .i64 0)
  have g0 : ((((((w2.setCell ⟨BR, 0, none⟩ (.int .i64 0)).setCell ⟨BR, 1, none⟩ (.bool false)).setCell ⟨BR, 2, none⟩ (.int .i64 0)).setCell ⟨BR, 3, none⟩ (.int .i64 0)).setCell ⟨BR, 4, none⟩ (.int .i64 0)).setCell ⟨BR, 5, none⟩ (.int .i64 0)).cell? ⟨BR, 0, none⟩ = some (.int .i64 0) := d2.cell 0 rfl
  have g1 : ((((((w2.setCell ⟨BR, 0, none⟩ (.int .i64 0)).setCell ⟨BR, 1, none⟩ (.bool false)).setCell ⟨BR, 2, none⟩ (.int .i64 0)).setCell ⟨BR, 3, none⟩ (.int .i64 0)).setCell ⟨BR, 4, none⟩ (.int .i64 0)).setCell ⟨BR, 5, none⟩ (.int .i64 0)).cell? ⟨BR, 1, none⟩ = some (.bool false) := d2.cell 1 rfl
  have g2 : ((((((w2.setCell ⟨BR, 0, none⟩ (.int .i64 0)).setCell ⟨BR, 1, none⟩ (.bool false)).setCell ⟨BR, 2, none⟩ (.int .i64 0)).setCell ⟨BR, 3, none⟩ (.int .i64 0)).setCell ⟨BR, 4, none⟩ (.int .i64 0)).setCell ⟨BR, 5, none⟩ (.int .i64 0)).cell? ⟨BR, 2, none⟩ = some (.int .i64 0) := d2.cell 2 rfl
  have g3 : ((((((w2.setCell ⟨BR, 0, none⟩ (.int .i64 0)).setCell ⟨BR, 1, none⟩ (.bool false)).setCell ⟨BR, 2, none⟩ (.int .i64 0)).setCell ⟨BR, 3, none⟩ (.int .i64 0)).setCell ⟨BR, 4, none⟩ (.int .i64 0)).setCell ⟨BR, 5, none⟩ (.int .i64 0)).cell? ⟨BR, 3, none⟩ = some (.int .i64 0) := d2.cell 3 rfl
  have g4 : ((((((w2.setCell ⟨BR, 0, none⟩ (.int .i64 0)).setCell ⟨BR, 1, none⟩ (.bool false)).setCell ⟨BR, 2, none⟩ (.int .i64 0)).setCell ⟨BR, 3, none⟩ (.int .i64 0)).setCell ⟨BR, 4, none⟩ (.int .i64 0)).setCell ⟨BR, 5, none⟩ (.int .i64 0)).cell? ⟨BR, 4, none⟩ = some (.int .i64 0) := d2.cell 4 rfl
  have g5 : ((((((w2.setCell ⟨BR, 0, none⟩ (.int .i64 0)).setCell ⟨BR, 1, none⟩ (.bool false)).setCell ⟨BR, 2, none⟩ (.int .i64 0)).setCell ⟨BR, 3, none⟩ (.int .i64 0)).setCell ⟨BR, 4, none⟩ (.int .i64 0)).setCell ⟨BR, 5, none⟩ (.int .i64 0)).cell? ⟨BR, 5, none⟩ = some (.int .i64 0) := d2.cell 5 rfl
  clear d6 d2 hbE
  go_wp2_with fail
  exact bodyPost_ret (v := .tuple #[valV 0 false 0 0 0 0, .slice none 0 0, .int .i64 1]) (by simp [results, Tryz.results23, go_sem, g0, g1, g2, g3, g4, g5]) rfl ⟨rfl, hbT⟩
/-- what an operator of one tells of a set, against the numbers' own -/
def OneGood (op kd : Int) (WA : Nat) (A M : Nat → Prop) : Prop := ((∀ z, ¬ A z) → ∀ z, ¬ M z) ∧ (∀ z, A z → ∃ n : Nat, Al.oneI op kd z = ((n : Int), 0) ∧ n < 2 ^ WA ∧ M n ∧ ((∀ y, A y ↔ y = z) → ∀ y, M y ↔ y = n))
def OneP (op kd : Int) (A : Nat → Prop) (w : World) (e : Ending) (w' : World) : Prop := ∃ (WA : Nat) (tno : Bool) (tl th tf tb : Nat), e = .returned (.tuple #[valV WA tno tl th tf tb, .slice none 0 0, .int .i64 0]) ∧ ValOk WA tno tl th tf tb ∧ mayB (WA : Nat) tno tl th tf tb = true ∧ ansI op kd = WA ∧ OneGood op kd WA A (MemV WA tno tl th tf tb) ∧ Below w.heap.size w w'
def OneH (op : Int) : Prop := ∀ (kd : Int) (K : Nat) (no : Bool) (l h f b : Nat), 1 ≤ kd ∧ kd ≤ 6 → Al.widthI kd = K → ValOk K no l h f b → mayB K no l h f b = true → ∀ w, Calls Tryz.prog 23 #[.int .i64 op, .int .i64 kd, valV K no l h f b] w (OneP op kd (MemV K no l h f b) w)
/-- is a set of a kind's width -/
def goodB (kd : Int) (k : Int) (no : Bool) (l h f b : Int) : Bool := decide (1 ≤ kd ∧ kd ≤ 6) && mayB k no l h f b && (k == Al.widthI kd)
theorem one_refused (op kd : Int) (ho : 5 ≤ op ∧ op ≤ 7) (k : Int) (no : Bool) (l h f b : Int) (hg : goodB kd k no l h f b = false) (w : World) :
    Calls Tryz.prog 23 #[.int .i64 op, .int .i64 kd, valV k no l h f b] w fun e w' => e = .returned (.tuple #[valV 0 false 0 0 0 0, .slice none 0 0, .int .i64 1]) ∧ Below w.heap.size w w' := by
  by_cases hk : 1 ≤ kd ∧ kd ≤ 6
  · obtain ⟨W, hW⟩ : ∃ W : Nat, Al.widthI kd = W := by rcases Al.num_cases hk with rfl | rfl | rfl | rfl | rfl | rfl <;> first | exact ⟨8, rfl⟩ | exact ⟨16, rfl⟩ | exact ⟨32, rfl⟩
    cases hm : mayB k no l h f b
    · exact MOne_bad op kd ho hk k no l h f b (fun w => mtake_bad1 kd hk W hW k no l h f b hm w) w
    · obtain ⟨K, L, H, F, B, rfl, rfl, rfl, rfl, rfl, _, _⟩ := may_nat hm
      refine MOne_bad op kd ho hk K no L H F B (fun w => mtake_bad2 kd hk W hW K no L H F B hm (fun hKW => ?_) w) w
      subst hKW
      simp [goodB, hk, hm, hW] at hg
  · exact MOne_no op kd (fun w => Al.One_no_k op kd 0 ho hk w) k no l h f b w
theorem good_nat {kd k : Int} {no : Bool} {l h f b : Int} (hg : goodB kd k no l h f b = true) : (1 ≤ kd ∧ kd ≤ 6) ∧ ∃ K L H F B : Nat, k = K ∧ l = L ∧ h = H ∧ f = F ∧ b = B ∧ ValOk K no L H F B ∧ mayB K no L H F B = true ∧ Al.widthI kd = K := by
  simp only [goodB, Bool.and_eq_true, decide_eq_true_eq, beq_iff_eq] at hg
  obtain ⟨⟨h1, h2⟩, h3⟩ := hg
  obtain ⟨K, L, H, F, B, rfl, rfl, rfl, rfl, rfl, h4, _⟩ := may_nat h2
  exact ⟨h1, K, L, H, F, B, rfl, rfl, rfl, rfl, rfl, h4, h2, h3.symm⟩
theorem zero_good : OneH 7 := by
  intro kd K no l h f b hk hK ok hm w
  refine (MOne_zero kd hk K hK no l h f b ok hm w).mono ?_
  rintro e w' ⟨tno, tl, th, tf, tb, rfl, okT, hmT, h1, h2, hb⟩
  have o1 : ∀ z : Nat, z = 0 → Al.oneI 7 kd z = (((1 : Nat) : Int), 0) := fun z hz => by subst hz; rfl
  have o0 : ∀ z : Nat, z ≠ 0 → Al.oneI 7 kd z = (((0 : Nat) : Int), 0) := fun z hz => by
    have e1 : Al.oneI 7 kd (z : Int) = (Al.truthI (decide ((z : Int) = 0)), 0) := (if_neg (by decide)).trans (if_neg (by decide))
    have e2 : decide ((z : Int) = 0) = false := by simp; omega
    rw [e1, e2]
    rfl
  refine ⟨32, tno, tl, th, tf, tb, rfl, okT, hmT, if_pos (Or.inr (Or.inr rfl)), ⟨h1, fun z hz => ?_⟩, hb⟩
  obtain ⟨y, n, hy, hn, t1, t2, t3, t4, _⟩ := h2 ⟨z, hz⟩
  by_cases h0 : z = 0
  · refine ⟨1, o1 z h0, by decide, t1 (hy.2 (by rw [← h0]; exact hz)), fun hall => ?_⟩
    refine t3 (hy.2 (by rw [← h0]; exact hz)) ?_
    cases n
    · rfl
    · exact absurd (fun y => by rw [hall y, h0]) (hn.1 rfl)
  · have hnn : n = true := hn.2 (fun hall => h0 ((hall z).1 hz))
    refine ⟨0, o0 z h0, by decide, t2 hnn, fun hall => t4 ?_ hnn⟩
    cases y
    · rfl
    · exact absurd (((hall 0).1 (hy.1 rfl)).symm) h0
end Go.Proofs.YtblahbmhbfcggaaGreatDoor
