/- Package val: Join, Meet, In refused. -/
import Derived.Test.YtpoaieoldccmiaaGreatVBoth
import Derived.Test.YtpoaieoldccmiaaGreatVOne
import Derived.Deep.CutRange
namespace Go.Proofs.YtpoaieoldccmiaaGreat
open Go.ChangeShapes Go.WideShapes Go.ChangeAt Go.RowKit Go.Joins Go.Deep
set_option linter.unusedVariables false

set_option maxRecDepth 100000 in
set_option maxHeartbeats 1600000 in
theorem In_no (k l h f b k2 l2 h2 f2 b2 : Int) (no no2 : Bool) (cT : ∀ w, Calls Tryz.prog 17 #[valV k no l h f b, valV k2 no2 l2 h2 f2 b2] w (BothNo w)) (w : World) :
    Calls Tryz.prog 7 #[valV k no l h f b, valV k2 no2 l2 h2 f2 b2] w (MakePost (.bool false) 1 w) := by
  obtain ⟨_, _, hb0⟩ := two_boxes w #[.int .i64 k, .bool no, .int .i64 l, .int .i64 h, .int .i64 f, .int .i64 b] #[.int .i64 k2, .bool no2, .int .i64 l2, .int .i64 h2, .int .i64 f2, .int .i64 b2] 28
  go_enter Tryz.func7, Tryz.ntmps7
  go_wp2_with fail
  refine (cT _).mono ?_
  rintro e w1 ⟨rfl, hb1⟩
  have hbE := hb0.trans (hb1.mono hb0.size)
  clear hb0 hb1 cT
  go_wp2_with fail
  go_ret2
  exact ⟨rfl, hbE⟩
set_option maxRecDepth 100000 in
set_option maxHeartbeats 1600000 in
theorem Join_no (k l h f b k2 l2 h2 f2 b2 : Int) (no no2 : Bool) (cT : ∀ w, Calls Tryz.prog 17 #[valV k no l h f b, valV k2 no2 l2 h2 f2 b2] w (BothNo w)) (w : World) :
    Calls Tryz.prog 5 #[valV k no l h f b, valV k2 no2 l2 h2 f2 b2] w (MakePost (valV 0 false 0 0 0 0) 1 w) := by
  obtain ⟨_, _, hb00⟩ := two_boxes w #[.int .i64 k, .bool no, .int .i64 l, .int .i64 h, .int .i64 f, .int .i64 b] #[.int .i64 k2, .bool no2, .int .i64 l2, .int .i64 h2, .int .i64 f2, .int .i64 b2] 28
  have d4 := At.new ((w.alloc (.cells #[.int .i64 k, .bool no, .int .i64 l, .int .i64 h, .int .i64 f, .int .i64 b] 28)).alloc (.cells #[.int .i64 k2, .bool no2, .int .i64 l2, .int .i64 h2, .int .i64 f2, .int .i64 b2] 28)) #[.int .i64 0, .bool false, .int .i64 0, .int .i64 0, .int .i64 0, .int .i64 0] 28
  have hb0 := hb00.alloc hb00.size (.cells #[.int .i64 0, .bool false, .int .i64 0, .int .i64 0, .int .i64 0, .int .i64 0] 28)
  have d4' : At (((w.alloc (.cells #[.int .i64 k, .bool no, .int .i64 l, .int .i64 h, .int .i64 f, .int .i64 b] 28)).alloc (.cells #[.int .i64 k2, .bool no2, .int .i64 l2, .int .i64 h2, .int .i64 f2, .int .i64 b2] 28)).alloc (.cells #[.int .i64 0, .bool false, .int .i64 0, .int .i64 0, .int .i64 0, .int .i64 0] 28)) (w.heap.size + 1 + 1) #[.int .i64 0, .bool false, .int .i64 0, .int .i64 0, .int .i64 0, .int .i64 0] 28 := by simpa only [World.size_alloc] using d4
  clear hb00 d4
  go_enter Tryz.func5, Tryz.ntmps5
  go_wp2_with fail
  refine (cT _).mono ?_
  rintro e w0 ⟨rfl, hb1⟩
  have d5 := At.below' hb1 d4'
  have hbE := hb0.trans (hb1.mono hb0.size)
  generalize w0 = w1 at *
  obtain ⟨B4, hB4e⟩ : ∃ B4, B4 = w.heap.size + 1 + 1 := ⟨_, rfl⟩
  have hB4 : w.heap.size ≤ B4 := by omega
  rw [← hB4e] at d5 ⊢
  clear hb0 hb1 cT hB4e d4'
  have t0c : w1.cell? ⟨B4, 0, none⟩ = some (.int .i64 0) := d5.cell 0 rfl
  have t0f : w1.frozen? ⟨B4, 0, none⟩ = false := At.free d5 0
  have ts0 := At.set d5 0 (.int .i64 0) (by simp)
  have tc1 : (w1.setCell ⟨B4, 0, none⟩ (.int .i64 0)).cell? ⟨B4, 1, none⟩ = some (.bool false) := ts0.cell 1 rfl
  have tf1 : (w1.setCell ⟨B4, 0, none⟩ (.int .i64 0)).frozen? ⟨B4, 1, none⟩ = false := At.free ts0 1
  have ts1 := At.set ts0 1 (.bool false) (by simp)
  have tc2 : ((w1.setCell ⟨B4, 0, none⟩ (.int .i64 0)).setCell ⟨B4, 1, none⟩ (.bool false)).cell? ⟨B4, 2, none⟩ = some (.int .i64 0) := ts1.cell 2 rfl
  have tf2 : ((w1.setCell ⟨B4, 0, none⟩ (.int .i64 0)).setCell ⟨B4, 1, none⟩ (.bool false)).frozen? ⟨B4, 2, none⟩ = false := At.free ts1 2
  have ts2 := At.set ts1 2 (.int .i64 0) (by simp)
  have tc3 : (((w1.setCell ⟨B4, 0, none⟩ (.int .i64 0)).setCell ⟨B4, 1, none⟩ (.bool false)).setCell ⟨B4, 2, none⟩ (.int .i64 0)).cell? ⟨B4, 3, none⟩ = some (.int .i64 0) := ts2.cell 3 rfl
  have tf3 : (((w1.setCell ⟨B4, 0, none⟩ (.int .i64 0)).setCell ⟨B4, 1, none⟩ (.bool false)).setCell ⟨B4, 2, none⟩ (.int .i64 0)).frozen? ⟨B4, 3, none⟩ = false := At.free ts2 3
  have ts3 := At.set ts2 3 (.int .i64 0) (by simp)
  have tc4 : ((((w1.setCell ⟨B4, 0, none⟩ (.int .i64 0)).setCell ⟨B4, 1, none⟩ (.bool false)).setCell ⟨B4, 2, none⟩ (.int .i64 0)).setCell ⟨B4, 3, none⟩ (.int .i64 0)).cell? ⟨B4, 4, none⟩ = some (.int .i64 0) := ts3.cell 4 rfl
  have tf4 : ((((w1.setCell ⟨B4, 0, none⟩ (.int .i64 0)).setCell ⟨B4, 1, none⟩ (.bool false)).setCell ⟨B4, 2, none⟩ (.int .i64 0)).setCell ⟨B4, 3, none⟩ (.int .i64 0)).frozen? ⟨B4, 4, none⟩ = false := At.free ts3 4
  have ts4 := At.set ts3 4 (.int .i64 0) (by simp)
  have tc5 : (((((w1.setCell ⟨B4, 0, none⟩ (.int .i64 0)).setCell ⟨B4, 1, none⟩ (.bool false)).setCell ⟨B4, 2, none⟩ (.int .i64 0)).setCell ⟨B4, 3, none⟩ (.int .i64 0)).setCell ⟨B4, 4, none⟩ (.int .i64 0)).cell? ⟨B4, 5, none⟩ = some (.int .i64 0) := ts4.cell 5 rfl
  have tf5 : (((((w1.setCell ⟨B4, 0, none⟩ (.int .i64 0)).setCell ⟨B4, 1, none⟩ (.bool false)).setCell ⟨B4, 2, none⟩ (.int .i64 0)).setCell ⟨B4, 3, none⟩ (.int .i64 0)).setCell ⟨B4, 4, none⟩ (.int .i64 0)).frozen? ⟨B4, 5, none⟩ = false := At.free ts4 5
  have ts5 := At.set ts4 5 (.int .i64 0) (by simp)
  have g0 : ((((((w1.setCell ⟨B4, 0, none⟩ (.int .i64 0)).setCell ⟨B4, 1, none⟩ (.bool false)).setCell ⟨B4, 2, none⟩ (.int .i64 0)).setCell ⟨B4, 3, none⟩ (.int .i64 0)).setCell ⟨B4, 4, none⟩ (.int .i64 0)).setCell ⟨B4, 5, none⟩ (.int .i64 0)).cell? ⟨B4, 0, none⟩ = some (.int .i64 0) := ts5.cell 0 rfl
  have g1 : ((((((w1.setCell ⟨B4, 0, none⟩ (.int .i64 0)).setCell ⟨B4, 1, none⟩ (.bool false)).setCell ⟨B4, 2, none⟩ (.int .i64 0)).setCell ⟨B4, 3, none⟩ (.int .i64 0)).setCell ⟨B4, 4, none⟩ (.int .i64 0)).setCell ⟨B4, 5, none⟩ (.int .i64 0)).cell? ⟨B4, 1, none⟩ = some (.bool false) := ts5.cell 1 rfl
  have g2 : ((((((w1.setCell ⟨B4, 0, none⟩ (.int .i64 0)).setCell ⟨B4, 1, none⟩ (.bool false)).setCell ⟨B4, 2, none⟩ (.int .i64 0)).setCell ⟨B4, 3, none⟩ (.int .i64 0)).setCell ⟨B4, 4, none⟩ (.int .i64 0)).setCell ⟨B4, 5, none⟩ (.int .i64 0)).cell? ⟨B4, 2, none⟩ = some (.int .i64 0) := ts5.cell 2 rfl
  have g3 : ((((((w1.setCell ⟨B4, 0, none⟩ (.int .i64 0)).setCell ⟨B4, 1, none⟩ (.bool false)).setCell ⟨B4, 2, none⟩ (.int .i64 0)).setCell ⟨B4, 3, none⟩ (.int .i64 0)).setCell ⟨B4, 4, none⟩ (.int .i64 0)).setCell ⟨B4, 5, none⟩ (.int .i64 0)).cell? ⟨B4, 3, none⟩ = some (.int .i64 0) := ts5.cell 3 rfl
  have g4 : ((((((w1.setCell ⟨B4, 0, none⟩ (.int .i64 0)).setCell ⟨B4, 1, none⟩ (.bool false)).setCell ⟨B4, 2, none⟩ (.int .i64 0)).setCell ⟨B4, 3, none⟩ (.int .i64 0)).setCell ⟨B4, 4, none⟩ (.int .i64 0)).setCell ⟨B4, 5, none⟩ (.int .i64 0)).cell? ⟨B4, 4, none⟩ = some (.int .i64 0) := ts5.cell 4 rfl
  have g5 : ((((((w1.setCell ⟨B4, 0, none⟩ (.int .i64 0)).setCell ⟨B4, 1, none⟩ (.bool false)).setCell ⟨B4, 2, none⟩ (.int .i64 0)).setCell ⟨B4, 3, none⟩ (.int .i64 0)).setCell ⟨B4, 4, none⟩ (.int .i64 0)).setCell ⟨B4, 5, none⟩ (.int .i64 0)).cell? ⟨B4, 5, none⟩ = some (.int .i64 0) := ts5.cell 5 rfl
  have bb0 := hbE.setCell (p := ⟨B4, 0, none⟩) hB4 (.int .i64 0)
  have bb1 := bb0.setCell (p := ⟨B4, 1, none⟩) hB4 (.bool false)
  have bb2 := bb1.setCell (p := ⟨B4, 2, none⟩) hB4 (.int .i64 0)
  have bb3 := bb2.setCell (p := ⟨B4, 3, none⟩) hB4 (.int .i64 0)
  have bb4 := bb3.setCell (p := ⟨B4, 4, none⟩) hB4 (.int .i64 0)
  have bb5 := bb4.setCell (p := ⟨B4, 5, none⟩) hB4 (.int .i64 0)
  clear ts0 ts1 ts2 ts3 ts4 ts5 bb0 bb1 bb2 bb3 bb4 d5 hbE
  go_wp2_with fail
  exact bodyPost_ret (v := .tuple #[valV 0 false 0 0 0 0, .int .i64 1]) (by simp [results, Tryz.results5, go_sem, g0, g1, g2, g3, g4, g5]) rfl ⟨rfl, bb5⟩
set_option maxRecDepth 100000 in
set_option maxHeartbeats 1600000 in
theorem Meet_no (k l h f b k2 l2 h2 f2 b2 : Int) (no no2 : Bool) (cT : ∀ w, Calls Tryz.prog 17 #[valV k no l h f b, valV k2 no2 l2 h2 f2 b2] w (BothNo w)) (w : World) :
    Calls Tryz.prog 6 #[valV k no l h f b, valV k2 no2 l2 h2 f2 b2] w (MakePost (valV 0 false 0 0 0 0) 1 w) := by
  obtain ⟨_, _, hb00⟩ := two_boxes w #[.int .i64 k, .bool no, .int .i64 l, .int .i64 h, .int .i64 f, .int .i64 b] #[.int .i64 k2, .bool no2, .int .i64 l2, .int .i64 h2, .int .i64 f2, .int .i64 b2] 28
  have d4 := At.new ((w.alloc (.cells #[.int .i64 k, .bool no, .int .i64 l, .int .i64 h, .int .i64 f, .int .i64 b] 28)).alloc (.cells #[.int .i64 k2, .bool no2, .int .i64 l2, .int .i64 h2, .int .i64 f2, .int .i64 b2] 28)) #[.int .i64 0, .bool false, .int .i64 0, .int .i64 0, .int .i64 0, .int .i64 0] 28
  have hb0 := hb00.alloc hb00.size (.cells #[.int .i64 0, .bool false, .int .i64 0, .int .i64 0, .int .i64 0, .int .i64 0] 28)
  have d4' : At (((w.alloc (.cells #[.int .i64 k, .bool no, .int .i64 l, .int .i64 h, .int .i64 f, .int .i64 b] 28)).alloc (.cells #[.int .i64 k2, .bool no2, .int .i64 l2, .int .i64 h2, .int .i64 f2, .int .i64 b2] 28)).alloc (.cells #[.int .i64 0, .bool false, .int .i64 0, .int .i64 0, .int .i64 0, .int .i64 0] 28)) (w.heap.size + 1 + 1) #[.int .i64 0, .bool false, .int .i64 0, .int .i64 0, .int .i64 0, .int .i64 0] 28 := by simpa only [World.size_alloc] using d4
  clear hb00 d4
  go_enter Tryz.func6, Tryz.ntmps6
  go_wp2_with fail
  refine (cT _).mono ?_
  rintro e w0 ⟨rfl, hb1⟩
  have hb1 := hb1
  have d5a := At.below' hb1 d4'
  have hbEa := hb0.trans (hb1.mono hb0.size)
  have d5 := At.alloc d5a (.cells #[.pointer none] 44)
  have hbE := hbEa.alloc hbEa.size (.cells #[.pointer none] 44)
  clear d5a hbEa
  obtain ⟨w1, hw1⟩ : ∃ w1, w1 = w0.alloc (.cells #[.pointer none] 44) := ⟨_, rfl⟩
  rw [← hw1] at d5 hbE
  go_upto_if 18 with (fail)
  rw [← hw1]
  clear hw1
  obtain ⟨B4, hB4e⟩ : ∃ B4, B4 = w.heap.size + 1 + 1 := ⟨_, rfl⟩
  have hB4 : w.heap.size ≤ B4 := by omega
  rw [← hB4e] at d5 ⊢
  clear hb0 hb1 cT hB4e d4'
  have t0c : w1.cell? ⟨B4, 0, none⟩ = some (.int .i64 0) := d5.cell 0 rfl
  have t0f : w1.frozen? ⟨B4, 0, none⟩ = false := At.free d5 0
  have ts0 := At.set d5 0 (.int .i64 0) (by simp)
  have tc1 : (w1.setCell ⟨B4, 0, none⟩ (.int .i64 0)).cell? ⟨B4, 1, none⟩ = some (.bool false) := ts0.cell 1 rfl
  have tf1 : (w1.setCell ⟨B4, 0, none⟩ (.int .i64 0)).frozen? ⟨B4, 1, none⟩ = false := At.free ts0 1
  have ts1 := At.set ts0 1 (.bool false) (by simp)
  have tc2 : ((w1.setCell ⟨B4, 0, none⟩ (.int .i64 0)).setCell ⟨B4, 1, none⟩ (.bool false)).cell? ⟨B4, 2, none⟩ = some (.int .i64 0) := ts1.cell 2 rfl
  have tf2 : ((w1.setCell ⟨B4, 0, none⟩ (.int .i64 0)).setCell ⟨B4, 1, none⟩ (.bool false)).frozen? ⟨B4, 2, none⟩ = false := At.free ts1 2
  have ts2 := At.set ts1 2 (.int .i64 0) (by simp)
  have tc3 : (((w1.setCell ⟨B4, 0, none⟩ (.int .i64 0)).setCell ⟨B4, 1, none⟩ (.bool false)).setCell ⟨B4, 2, none⟩ (.int .i64 0)).cell? ⟨B4, 3, none⟩ = some (.int .i64 0) := ts2.cell 3 rfl
  have tf3 : (((w1.setCell ⟨B4, 0, none⟩ (.int .i64 0)).setCell ⟨B4, 1, none⟩ (.bool false)).setCell ⟨B4, 2, none⟩ (.int .i64 0)).frozen? ⟨B4, 3, none⟩ = false := At.free ts2 3
  have ts3 := At.set ts2 3 (.int .i64 0) (by simp)
  have tc4 : ((((w1.setCell ⟨B4, 0, none⟩ (.int .i64 0)).setCell ⟨B4, 1, none⟩ (.bool false)).setCell ⟨B4, 2, none⟩ (.int .i64 0)).setCell ⟨B4, 3, none⟩ (.int .i64 0)).cell? ⟨B4, 4, none⟩ = some (.int .i64 0) := ts3.cell 4 rfl
  have tf4 : ((((w1.setCell ⟨B4, 0, none⟩ (.int .i64 0)).setCell ⟨B4, 1, none⟩ (.bool false)).setCell ⟨B4, 2, none⟩ (.int .i64 0)).setCell ⟨B4, 3, none⟩ (.int .i64 0)).frozen? ⟨B4, 4, none⟩ = false := At.free ts3 4
  have ts4 := At.set ts3 4 (.int .i64 0) (by simp)
  have tc5 : (((((w1.setCell ⟨B4, 0, none⟩ (.int .i64 0)).setCell ⟨B4, 1, none⟩ (.bool false)).setCell ⟨B4, 2, none⟩ (.int .i64 0)).setCell ⟨B4, 3, none⟩ (.int .i64 0)).setCell ⟨B4, 4, none⟩ (.int .i64 0)).cell? ⟨B4, 5, none⟩ = some (.int .i64 0) := ts4.cell 5 rfl
  have tf5 : (((((w1.setCell ⟨B4, 0, none⟩ (.int .i64 0)).setCell ⟨B4, 1, none⟩ (.bool false)).setCell ⟨B4, 2, none⟩ (.int .i64 0)).setCell ⟨B4, 3, none⟩ (.int .i64 0)).setCell ⟨B4, 4, none⟩ (.int .i64 0)).frozen? ⟨B4, 5, none⟩ = false := At.free ts4 5
  have ts5 := At.set ts4 5 (.int .i64 0) (by simp)
  have g0 : ((((((w1.setCell ⟨B4, 0, none⟩ (.int .i64 0)).setCell ⟨B4, 1, none⟩ (.bool false)).setCell ⟨B4, 2, none⟩ (.int .i64 0)).setCell ⟨B4, 3, none⟩ (.int .i64 0)).setCell ⟨B4, 4, none⟩ (.int .i64 0)).setCell ⟨B4, 5, none⟩ (.int .i64 0)).cell? ⟨B4, 0, none⟩ = some (.int .i64 0) := ts5.cell 0 rfl
  have g1 : ((((((w1.setCell ⟨B4, 0, none⟩ (.int .i64 0)).setCell ⟨B4, 1, none⟩ (.bool false)).setCell ⟨B4, 2, none⟩ (.int .i64 0)).setCell ⟨B4, 3, none⟩ (.int .i64 0)).setCell ⟨B4, 4, none⟩ (.int .i64 0)).setCell ⟨B4, 5, none⟩ (.int .i64 0)).cell? ⟨B4, 1, none⟩ = some (.bool false) := ts5.cell 1 rfl
  have g2 : ((((((w1.setCell ⟨B4, 0, none⟩ (.int .i64 0)).setCell ⟨B4, 1, none⟩ (.bool false)).setCell ⟨B4, 2, none⟩ (.int .i64 0)).setCell ⟨B4, 3, none⟩ (.int .i64 0)).setCell ⟨B4, 4, none⟩ (.int .i64 0)).setCell ⟨B4, 5, none⟩ (.int .i64 0)).cell? ⟨B4, 2, none⟩ = some (.int .i64 0) := ts5.cell 2 rfl
  have g3 : ((((((w1.setCell ⟨B4, 0, none⟩ (.int .i64 0)).setCell ⟨B4, 1, none⟩ (.bool false)).setCell ⟨B4, 2, none⟩ (.int .i64 0)).setCell ⟨B4, 3, none⟩ (.int .i64 0)).setCell ⟨B4, 4, none⟩ (.int .i64 0)).setCell ⟨B4, 5, none⟩ (.int .i64 0)).cell? ⟨B4, 3, none⟩ = some (.int .i64 0) := ts5.cell 3 rfl
  have g4 : ((((((w1.setCell ⟨B4, 0, none⟩ (.int .i64 0)).setCell ⟨B4, 1, none⟩ (.bool false)).setCell ⟨B4, 2, none⟩ (.int .i64 0)).setCell ⟨B4, 3, none⟩ (.int .i64 0)).setCell ⟨B4, 4, none⟩ (.int .i64 0)).setCell ⟨B4, 5, none⟩ (.int .i64 0)).cell? ⟨B4, 4, none⟩ = some (.int .i64 0) := ts5.cell 4 rfl
  have g5 : ((((((w1.setCell ⟨B4, 0, none⟩ (.int .i64 0)).setCell ⟨B4, 1, none⟩ (.bool false)).setCell ⟨B4, 2, none⟩ (.int .i64 0)).setCell ⟨B4, 3, none⟩ (.int .i64 0)).setCell ⟨B4, 4, none⟩ (.int .i64 0)).setCell ⟨B4, 5, none⟩ (.int .i64 0)).cell? ⟨B4, 5, none⟩ = some (.int .i64 0) := ts5.cell 5 rfl
  have bb0 := hbE.setCell (p := ⟨B4, 0, none⟩) hB4 (.int .i64 0)
  have bb1 := bb0.setCell (p := ⟨B4, 1, none⟩) hB4 (.bool false)
  have bb2 := bb1.setCell (p := ⟨B4, 2, none⟩) hB4 (.int .i64 0)
  have bb3 := bb2.setCell (p := ⟨B4, 3, none⟩) hB4 (.int .i64 0)
  have bb4 := bb3.setCell (p := ⟨B4, 4, none⟩) hB4 (.int .i64 0)
  have bb5 := bb4.setCell (p := ⟨B4, 5, none⟩) hB4 (.int .i64 0)
  clear ts0 ts1 ts2 ts3 ts4 ts5 bb0 bb1 bb2 bb3 bb4 d5 hbE
  go_wp2_with fail
  exact bodyPost_ret (v := .tuple #[valV 0 false 0 0 0 0, .int .i64 1]) (by simp [results, Tryz.results6, go_sem, g0, g1, g2, g3, g4, g5]) rfl ⟨rfl, bb5⟩
end Go.Proofs.YtpoaieoldccmiaaGreat
