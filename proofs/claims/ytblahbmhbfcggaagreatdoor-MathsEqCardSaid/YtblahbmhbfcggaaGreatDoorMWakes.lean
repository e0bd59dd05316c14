/- wakes, of the laws of layer 4: one and two of 8 bits add to three. -/
import Derived.Test.YtblahbmhbfcggaaGreatDoorMSum
import Derived.Test.YtblahbmhbfcggaaGreatDoorSets
namespace Go.Proofs.YtblahbmhbfcggaaGreatDoor
open Go.ChangeShapes Go.WideShapes Go.ChangeAt Go.RowKit Go.Joins Go.Deep
set_option linter.unusedVariables false

theorem num4_any (n : Int) (w : World) : Calls Tryz.prog 14 #[.int .i64 n] w fun e w' => e = .returned (.int .i64 n) ∧ w = w' := by
  go_enter Tryz.func14, Tryz.ntmps14
  go_wp2
  go_ret
  exact ⟨rfl, rfl⟩
def Wakes4 : Prop := ∀ w, Calls Tryz.prog 22 #[] w fun e w' => e = .returned (.bool true) ∧ Below w.heap.size w w'
set_option maxRecDepth 100000 in
set_option maxHeartbeats 1600000 in
theorem wakes4_holds : Wakes4 := by
  intro w
  have cJ1 := fun w => rJust_v 8 1 w
  have cJ2 := fun w => rJust_v 8 2 w
  have cT : ∀ w, Calls Tryz.prog 10 #[.int .i64 8, .int .i64 1, valV 8 false 1 1 0 1, valV 8 false 2 2 0 2] w (MSum 3 w) := fun w => MTwo_add 1 2 (by omega) (by omega) 1 rfl 8 rfl false 1 1 0 1 ⟨rfl, rfl, rfl, rfl, rfl⟩ false 2 2 0 2 ⟨rfl, rfl, rfl, rfl, rfl⟩ w
  go_enter Tryz.func22, Tryz.ntmps22
  go_wp2_with fail
  refine (cJ1 _).mono ?_
  rintro e w1 ⟨rfl, hb1⟩
  clear cJ1
  go_wp2_with fail
  refine (cJ2 _).mono ?_
  rintro e w2 ⟨rfl, hb2⟩
  have hb := hb1.trans (hb2.mono hb1.size)
  clear cJ2 hb1 hb2
  go_wp2_with fail
  refine (cT _).mono ?_
  rintro e w3 ⟨tno, tl, th, tf, tb, rfl, okT, hmT, hM, hb3⟩
  have hb0 := (hb.trans (hb3.mono hb.size)).alloc (hb.trans (hb3.mono hb.size)).size (.cells #[.int .i64 8, .bool tno, .int .i64 tl, .int .i64 th, .int .i64 tf, .int .i64 tb] 30)
  have dT := At.new w3 #[.int .i64 8, .bool tno, .int .i64 tl, .int .i64 th, .int .i64 tf, .int .i64 tb] 30
  have cO := fun w => rOnly_v 8 tno tl th tf tb okT w
  clear cT hb hb3 okT hmT
  go_upto_region 2 with (fail)
  generalize w3.alloc (.cells #[.int .i64 8, .bool tno, .int .i64 tl, .int .i64 th, .int .i64 tf, .int .i64 tb] 30) = w4 at *
  have t0 : w4.cell? ⟨w3.heap.size, 0, none⟩ = some (.int .i64 8) := dT.cell 0 rfl
  have t1 : w4.cell? ⟨w3.heap.size, 1, none⟩ = some (.bool tno) := dT.cell 1 rfl
  have t2 : w4.cell? ⟨w3.heap.size, 2, none⟩ = some (.int .i64 tl) := dT.cell 2 rfl
  have t3 : w4.cell? ⟨w3.heap.size, 3, none⟩ = some (.int .i64 th) := dT.cell 3 rfl
  have t4 : w4.cell? ⟨w3.heap.size, 4, none⟩ = some (.int .i64 tf) := dT.cell 4 rfl
  have t5 : w4.cell? ⟨w3.heap.size, 5, none⟩ = some (.int .i64 tb) := dT.cell 5 rfl
  go_wp2_with fail
  refine (cO _).mono ?_
  rintro e w5 ⟨x, is, hx, rfl, hb5⟩
  have hbF := hb0.trans (hb5.mono hb0.size)
  have hx3 : x = 3 ∧ is = true := by
    rcases hx with ⟨h1, m, h2, h3⟩ | ⟨_, h⟩
    · have := (h3 3).1 ((hM 3).2 rfl)
      exact ⟨by omega, h1⟩
    · exact absurd hM (h 3)
  obtain ⟨rfl, rfl⟩ := hx3
  clear hx hM hb0 hb5 cO t0 t1 t2 t3 t4 t5 dT
  go_wp2_with (first | (go_at_call 14; refine (num4_any _ _).mono ?_; rintro e w' ⟨rfl, rfl⟩))
  go_ret
  exact ⟨rfl, hbF⟩
end Go.Proofs.YtblahbmhbfcggaaGreatDoor
