/- A struct of six cells stored into a block that lies known: what is asked of each world between. -/
import Derived.Test.YtblahbmhbfcggaaGreatDoorVNarrow
import Derived.Test.YtblahbmhbfcggaaGreatDoorCalls
import Derived.Test.YtblahbmhbfcggaaGreatDoorVWake
import Derived.Deep.CutRange
import Derived.BigRegion
namespace Go.Proofs.YtblahbmhbfcggaaGreatDoor
open Go.ChangeShapes Go.WideShapes Go.ChangeAt Go.RowKit Go.Joins Go.Deep
set_option linter.unusedVariables false

theorem store6 {w : World} {B : Nat} {a0 a1 a2 a3 a4 a5 : Value} {t : TypeId} (h : At w B #[a0, a1, a2, a3, a4, a5] t) (x0 x1 x2 x3 x4 x5 : Value) : (w.cell? ⟨B, 0, none⟩ = some a0 ∧ w.frozen? ⟨B, 0, none⟩ = false) ∧ ((w.setCell ⟨B, 0, none⟩ x0).cell? ⟨B, 1, none⟩ = some a1 ∧ (w.setCell ⟨B, 0, none⟩ x0).frozen? ⟨B, 1, none⟩ = false) ∧ (((w.setCell ⟨B, 0, none⟩ x0).setCell ⟨B, 1, none⟩ x1).cell? ⟨B, 2, none⟩ = some a2 ∧ ((w.setCell ⟨B, 0, none⟩ x0).setCell ⟨B, 1, none⟩ x1).frozen? ⟨B, 2, none⟩ = false) ∧ ((((w.setCell ⟨B, 0, none⟩ x0).setCell ⟨B, 1, none⟩ x1).setCell ⟨B, 2, none⟩ x2).cell? ⟨B, 3, none⟩ = some a3 ∧ (((w.setCell ⟨B, 0, none⟩ x0).setCell ⟨B, 1, none⟩ x1).setCell ⟨B, 2, none⟩ x2).frozen? ⟨B, 3, none⟩ = false) ∧ (((((w.setCell ⟨B, 0, none⟩ x0).setCell ⟨B, 1, none⟩ x1).setCell ⟨B, 2, none⟩ x2).setCell ⟨B, 3, none⟩ x3).cell? ⟨B, 4, none⟩ = some a4 ∧ ((((w.setCell ⟨B, 0, none⟩ x0).setCell ⟨B, 1, none⟩ x1).setCell ⟨B, 2, none⟩ x2).setCell ⟨B, 3, none⟩ x3).frozen? ⟨B, 4, none⟩ = false) ∧ ((((((w.setCell ⟨B, 0, none⟩ x0).setCell ⟨B, 1, none⟩ x1).setCell ⟨B, 2, none⟩ x2).setCell ⟨B, 3, none⟩ x3).setCell ⟨B, 4, none⟩ x4).cell? ⟨B, 5, none⟩ = some a5 ∧ (((((w.setCell ⟨B, 0, none⟩ x0).setCell ⟨B, 1, none⟩ x1).setCell ⟨B, 2, none⟩ x2).setCell ⟨B, 3, none⟩ x3).setCell ⟨B, 4, none⟩ x4).frozen? ⟨B, 5, none⟩ = false) := by
  have s1 : At (w.setCell ⟨B, 0, none⟩ x0) B #[x0, a1, a2, a3, a4, a5] t := At.set h 0 x0 (by simp)
  have s2 : At ((w.setCell ⟨B, 0, none⟩ x0).setCell ⟨B, 1, none⟩ x1) B #[x0, x1, a2, a3, a4, a5] t := At.set s1 1 x1 (by simp)
  have s3 : At (((w.setCell ⟨B, 0, none⟩ x0).setCell ⟨B, 1, none⟩ x1).setCell ⟨B, 2, none⟩ x2) B #[x0, x1, x2, a3, a4, a5] t := At.set s2 2 x2 (by simp)
  have s4 : At ((((w.setCell ⟨B, 0, none⟩ x0).setCell ⟨B, 1, none⟩ x1).setCell ⟨B, 2, none⟩ x2).setCell ⟨B, 3, none⟩ x3) B #[x0, x1, x2, x3, a4, a5] t := At.set s3 3 x3 (by simp)
  have s5 : At (((((w.setCell ⟨B, 0, none⟩ x0).setCell ⟨B, 1, none⟩ x1).setCell ⟨B, 2, none⟩ x2).setCell ⟨B, 3, none⟩ x3).setCell ⟨B, 4, none⟩ x4) B #[x0, x1, x2, x3, x4, a5] t := At.set s4 4 x4 (by simp)
  have s6 : At ((((((w.setCell ⟨B, 0, none⟩ x0).setCell ⟨B, 1, none⟩ x1).setCell ⟨B, 2, none⟩ x2).setCell ⟨B, 3, none⟩ x3).setCell ⟨B, 4, none⟩ x4).setCell ⟨B, 5, none⟩ x5) B #[x0, x1, x2, x3, x4, x5] t := At.set s5 5 x5 (by simp)
  exact ⟨⟨h.cell 0 rfl, At.free h 0⟩, ⟨s1.cell 1 rfl, At.free s1 1⟩, ⟨s2.cell 2 rfl, At.free s2 2⟩, ⟨s3.cell 3 rfl, At.free s3 3⟩, ⟨s4.cell 4 rfl, At.free s4 4⟩, ⟨s5.cell 5 rfl, At.free s5 5⟩⟩
theorem store6_at {w : World} {B : Nat} {a0 a1 a2 a3 a4 a5 : Value} {t : TypeId} (h : At w B #[a0, a1, a2, a3, a4, a5] t) (x0 x1 x2 x3 x4 x5 : Value) : At ((((((w.setCell ⟨B, 0, none⟩ x0).setCell ⟨B, 1, none⟩ x1).setCell ⟨B, 2, none⟩ x2).setCell ⟨B, 3, none⟩ x3).setCell ⟨B, 4, none⟩ x4).setCell ⟨B, 5, none⟩ x5) B #[x0, x1, x2, x3, x4, x5] t := by
  have s1 : At (w.setCell ⟨B, 0, none⟩ x0) B #[x0, a1, a2, a3, a4, a5] t := At.set h 0 x0 (by simp)
  have s2 : At ((w.setCell ⟨B, 0, none⟩ x0).setCell ⟨B, 1, none⟩ x1) B #[x0, x1, a2, a3, a4, a5] t := At.set s1 1 x1 (by simp)
  have s3 : At (((w.setCell ⟨B, 0, none⟩ x0).setCell ⟨B, 1, none⟩ x1).setCell ⟨B, 2, none⟩ x2) B #[x0, x1, x2, a3, a4, a5] t := At.set s2 2 x2 (by simp)
  have s4 : At ((((w.setCell ⟨B, 0, none⟩ x0).setCell ⟨B, 1, none⟩ x1).setCell ⟨B, 2, none⟩ x2).setCell ⟨B, 3, none⟩ x3) B #[x0, x1, x2, x3, a4, a5] t := At.set s3 3 x3 (by simp)
  have s5 : At (((((w.setCell ⟨B, 0, none⟩ x0).setCell ⟨B, 1, none⟩ x1).setCell ⟨B, 2, none⟩ x2).setCell ⟨B, 3, none⟩ x3).setCell ⟨B, 4, none⟩ x4) B #[x0, x1, x2, x3, x4, a5] t := At.set s4 4 x4 (by simp)
  have s6 : At ((((((w.setCell ⟨B, 0, none⟩ x0).setCell ⟨B, 1, none⟩ x1).setCell ⟨B, 2, none⟩ x2).setCell ⟨B, 3, none⟩ x3).setCell ⟨B, 4, none⟩ x4).setCell ⟨B, 5, none⟩ x5) B #[x0, x1, x2, x3, x4, x5] t := At.set s5 5 x5 (by simp)
  exact s6
theorem store6_keeps (w : World) (B : Nat) (x0 x1 x2 x3 x4 x5 : Value) : Keeps B w ((((((w.setCell ⟨B, 0, none⟩ x0).setCell ⟨B, 1, none⟩ x1).setCell ⟨B, 2, none⟩ x2).setCell ⟨B, 3, none⟩ x3).setCell ⟨B, 4, none⟩ x4).setCell ⟨B, 5, none⟩ x5) :=
  ((((((Keeps.refl B w).setCell 0 x0).setCell 1 x1).setCell 2 x2).setCell 3 x3).setCell 4 x4).setCell 5 x5
theorem store6_below {C B : Nat} {w0 w : World} (hb : Below C w0 w) (hC : C ≤ B) (x0 x1 x2 x3 x4 x5 : Value) : Below C w0 ((((((w.setCell ⟨B, 0, none⟩ x0).setCell ⟨B, 1, none⟩ x1).setCell ⟨B, 2, none⟩ x2).setCell ⟨B, 3, none⟩ x3).setCell ⟨B, 4, none⟩ x4).setCell ⟨B, 5, none⟩ x5) :=
  (((((hb.setCell (p := ⟨B, 0, none⟩) hC x0).setCell (p := ⟨B, 1, none⟩) hC x1).setCell (p := ⟨B, 2, none⟩) hC x2).setCell (p := ⟨B, 3, none⟩) hC x3).setCell (p := ⟨B, 4, none⟩) hC x4).setCell (p := ⟨B, 5, none⟩) hC x5
end Go.Proofs.YtblahbmhbfcggaaGreatDoor

/- Package maths: operators that are none are refused. -/
namespace Go.Proofs.YtblahbmhbfcggaaGreatDoor
open Go.ChangeShapes Go.WideShapes Go.ChangeAt Go.RowKit Go.Joins Go.Deep
set_option linter.unusedVariables false

set_option maxRecDepth 100000 in
set_option maxHeartbeats 1600000 in
theorem MOne_no (op kd : Int) (cA : ∀ w, Calls Tryz.prog 52 #[.int .i64 op, .int .i64 kd, .int .i64 0] w (Al.NoPost w)) (k : Int) (no : Bool) (l h f b : Int) (w : World) :
    Calls Tryz.prog 23 #[.int .i64 op, .int .i64 kd, valV k no l h f b] w fun e w' => e = .returned (.tuple #[valV 0 false 0 0 0 0, .slice none 0 0, .int .i64 1]) ∧ Below w.heap.size w w' := by
  have dR0 := At.new (w.alloc (.cells #[.int .i64 k, .bool no, .int .i64 l, .int .i64 h, .int .i64 f, .int .i64 b] 30)) #[.int .i64 0, .bool false, .int .i64 0, .int .i64 0, .int .i64 0, .int .i64 0] 30
  have dR : At ((w.alloc (.cells #[.int .i64 k, .bool no, .int .i64 l, .int .i64 h, .int .i64 f, .int .i64 b] 30)).alloc (.cells #[.int .i64 0, .bool false, .int .i64 0, .int .i64 0, .int .i64 0, .int .i64 0] 30)) (w.heap.size + 1) #[.int .i64 0, .bool false, .int .i64 0, .int .i64 0, .int .i64 0, .int .i64 0] 30 := by simpa only [World.size_alloc] using dR0
  have hb0 : Below w.heap.size w ((w.alloc (.cells #[.int .i64 k, .bool no, .int .i64 l, .int .i64 h, .int .i64 f, .int .i64 b] 30)).alloc (.cells #[.int .i64 0, .bool false, .int .i64 0, .int .i64 0, .int .i64 0, .int .i64 0] 30)) := (((Below.refl w.heap.size w).alloc (by first | exact Nat.le_refl _ | (simp only [World.size_alloc]; omega)) (.cells #[.int .i64 k, .bool no, .int .i64 l, .int .i64 h, .int .i64 f, .int .i64 b] 30)).alloc (by first | exact Nat.le_refl _ | (simp only [World.size_alloc]; omega)) (.cells #[.int .i64 0, .bool false, .int .i64 0, .int .i64 0, .int .i64 0, .int .i64 0] 30))
  obtain ⟨BR, hBR⟩ : ∃ B, B = w.heap.size + 1 := ⟨_, rfl⟩
  have hBw : w.heap.size ≤ BR := by omega
  rw [← hBR] at dR
  have HBR := Lib.hid hBR
  clear dR0 hBR
  go_enter Tryz.func23, Tryz.ntmps23
  go_upto_region 1 with (fail)
  rw [← HBR.out]
  generalize ((w.alloc (.cells #[.int .i64 k, .bool no, .int .i64 l, .int .i64 h, .int .i64 f, .int .i64 b] 30)).alloc (.cells #[.int .i64 0, .bool false, .int .i64 0, .int .i64 0, .int .i64 0, .int .i64 0] 30)) = w1 at *
  go_wp2_with fail
  refine (cA _).mono ?_
  rintro e w' ⟨rfl, rfl⟩
  have st := store6 dR (.int .i64 0) (.bool false) (.int .i64 0) (.int .i64 0) (.int .i64 0) (.int .i64 0)
  have d2 := store6_at dR (.int .i64 0) (.bool false) (.int .i64 0) (.int .i64 0) (.int .i64 0) (.int .i64 0)
  have hbT := store6_below hb0 hBw (.int .i64 0) (.bool false) (.int .i64 0) (.int .i64 0) (.int .i64 0) (.int .i64 0)
  have g0 : ((((((w1.setCell ⟨BR, 0, none⟩ (.int .i64 0)).setCell ⟨BR, 1, none⟩ (.bool false)).setCell ⟨BR, 2, none⟩ (.int .i64 0)).setCell ⟨BR, 3, none⟩ (.int .i64 0)).setCell ⟨BR, 4, none⟩ (.int .i64 0)).setCell ⟨BR, 5, none⟩ (.int .i64 0)).cell? ⟨BR, 0, none⟩ = some (.int .i64 0) := d2.cell 0 rfl
  have g1 : ((((((w1.setCell ⟨BR, 0, none⟩ (.int .i64 0)).setCell ⟨BR, 1, none⟩ (.bool false)).setCell ⟨BR, 2, none⟩ (.int .i64 0)).setCell ⟨BR, 3, none⟩ (.int .i64 0)).setCell ⟨BR, 4, none⟩ (.int .i64 0)).setCell ⟨BR, 5, none⟩ (.int .i64 0)).cell? ⟨BR, 1, none⟩ = some (.bool false) := d2.cell 1 rfl
  have g2 : ((((((w1.setCell ⟨BR, 0, none⟩ (.int .i64 0)).setCell ⟨BR, 1, none⟩ (.bool false)).setCell ⟨BR, 2, none⟩ (.int .i64 0)).setCell ⟨BR, 3, none⟩ (.int .i64 0)).setCell ⟨BR, 4, none⟩ (.int .i64 0)).setCell ⟨BR, 5, none⟩ (.int .i64 0)).cell? ⟨BR, 2, none⟩ = some (.int .i64 0) := d2.cell 2 rfl
  have g3 : ((((((w1.setCell ⟨BR, 0, none⟩ (.int .i64 0)).setCell ⟨BR, 1, none⟩ (.bool false)).setCell ⟨BR, 2, none⟩ (.int .i64 0)).setCell ⟨BR, 3, none⟩ (.int .i64 0)).setCell ⟨BR, 4, none⟩ (.int .i64 0)).setCell ⟨BR, 5, none⟩ (.int .i64 0)).cell? ⟨BR, 3, none⟩ = some (.int .i64 0) := d2.cell 3 rfl
  have g4 : ((((((w1.setCell ⟨BR, 0, none⟩ (.int .i64 0)).setCell ⟨BR, 1, none⟩ (.bool false)).setCell ⟨BR, 2, none⟩ (.int .i64 0)).setCell ⟨BR, 3, none⟩ (.int .i64 0)).setCell ⟨BR, 4, none⟩ (.int .i64 0)).setCell ⟨BR, 5, none⟩ (.int .i64 0)).cell? ⟨BR, 4, none⟩ = some (.int .i64 0) := d2.cell 4 rfl
  have g5 : ((((((w1.setCell ⟨BR, 0, none⟩ (.int .i64 0)).setCell ⟨BR, 1, none⟩ (.bool false)).setCell ⟨BR, 2, none⟩ (.int .i64 0)).setCell ⟨BR, 3, none⟩ (.int .i64 0)).setCell ⟨BR, 4, none⟩ (.int .i64 0)).setCell ⟨BR, 5, none⟩ (.int .i64 0)).cell? ⟨BR, 5, none⟩ = some (.int .i64 0) := d2.cell 5 rfl
  clear dR d2 hb0 cA
  go_wp2_with fail
  exact bodyPost_ret (v := .tuple #[valV 0 false 0 0 0 0, .slice none 0 0, .int .i64 1]) (by simp [results, Tryz.results23, go_sem, g0, g1, g2, g3, g4, g5]) rfl ⟨rfl, hbT⟩
set_option maxRecDepth 100000 in
set_option maxHeartbeats 1600000 in
theorem MTwo_no (op kd : Int) (cA : ∀ w, Calls Tryz.prog 30 #[.int .i64 op, .int .i64 kd, .int .i64 0, .int .i64 0] w (Al.NoPost w)) (k : Int) (no : Bool) (l h f b : Int) (k2 : Int) (no2 : Bool) (l2 h2 f2 b2 : Int) (w : World) :
    Calls Tryz.prog 10 #[.int .i64 op, .int .i64 kd, valV k no l h f b, valV k2 no2 l2 h2 f2 b2] w fun e w' => e = .returned (.tuple #[valV 0 false 0 0 0 0, .slice none 0 0, .int .i64 1]) ∧ Below w.heap.size w w' := by
  have dR0 := At.new ((w.alloc (.cells #[.int .i64 k, .bool no, .int .i64 l, .int .i64 h, .int .i64 f, .int .i64 b] 30)).alloc (.cells #[.int .i64 k2, .bool no2, .int .i64 l2, .int .i64 h2, .int .i64 f2, .int .i64 b2] 30)) #[.int .i64 0, .bool false, .int .i64 0, .int .i64 0, .int .i64 0, .int .i64 0] 30
  have dR : At (((w.alloc (.cells #[.int .i64 k, .bool no, .int .i64 l, .int .i64 h, .int .i64 f, .int .i64 b] 30)).alloc (.cells #[.int .i64 k2, .bool no2, .int .i64 l2, .int .i64 h2, .int .i64 f2, .int .i64 b2] 30)).alloc (.cells #[.int .i64 0, .bool false, .int .i64 0, .int .i64 0, .int .i64 0, .int .i64 0] 30)) (w.heap.size + 1 + 1) #[.int .i64 0, .bool false, .int .i64 0, .int .i64 0, .int .i64 0, .int .i64 0] 30 := by simpa only [World.size_alloc] using dR0
  have hb0 : Below w.heap.size w (((w.alloc (.cells #[.int .i64 k, .bool no, .int .i64 l, .int .i64 h, .int .i64 f, .int .i64 b] 30)).alloc (.cells #[.int .i64 k2, .bool no2, .int .i64 l2, .int .i64 h2, .int .i64 f2, .int .i64 b2] 30)).alloc (.cells #[.int .i64 0, .bool false, .int .i64 0, .int .i64 0, .int .i64 0, .int .i64 0] 30)) := ((((Below.refl w.heap.size w).alloc (by first | exact Nat.le_refl _ | (simp only [World.size_alloc]; omega)) (.cells #[.int .i64 k, .bool no, .int .i64 l, .int .i64 h, .int .i64 f, .int .i64 b] 30)).alloc (by first | exact Nat.le_refl _ | (simp only [World.size_alloc]; omega)) (.cells #[.int .i64 k2, .bool no2, .int .i64 l2, .int .i64 h2, .int .i64 f2, .int .i64 b2] 30)).alloc (by first | exact Nat.le_refl _ | (simp only [World.size_alloc]; omega)) (.cells #[.int .i64 0, .bool false, .int .i64 0, .int .i64 0, .int .i64 0, .int .i64 0] 30))
  obtain ⟨BR, hBR⟩ : ∃ B, B = w.heap.size + 1 + 1 := ⟨_, rfl⟩
  have hBw : w.heap.size ≤ BR := by omega
  rw [← hBR] at dR
  have HBR := Lib.hid hBR
  clear dR0 hBR
  go_enter Tryz.func10, Tryz.ntmps10
  go_upto_region 1 with (fail)
  rw [← HBR.out]
  generalize (((w.alloc (.cells #[.int .i64 k, .bool no, .int .i64 l, .int .i64 h, .int .i64 f, .int .i64 b] 30)).alloc (.cells #[.int .i64 k2, .bool no2, .int .i64 l2, .int .i64 h2, .int .i64 f2, .int .i64 b2] 30)).alloc (.cells #[.int .i64 0, .bool false, .int .i64 0, .int .i64 0, .int .i64 0, .int .i64 0] 30)) = w1 at *
  go_wp2_with fail
  refine (cA _).mono ?_
  rintro e w' ⟨rfl, rfl⟩
  have st := store6 dR (.int .i64 0) (.bool false) (.int .i64 0) (.int .i64 0) (.int .i64 0) (.int .i64 0)
  have d2 := store6_at dR (.int .i64 0) (.bool false) (.int .i64 0) (.int .i64 0) (.int .i64 0) (.int .i64 0)
  have hbT := store6_below hb0 hBw (.int .i64 0) (.bool false) (.int .i64 0) (.int .i64 0) (.int .i64 0) (.int .i64 0)
  have g0 : ((((((w1.setCell ⟨BR, 0, none⟩ (.int .i64 0)).setCell ⟨BR, 1, none⟩ (.bool false)).setCell ⟨BR, 2, none⟩ (.int .i64 0)).setCell ⟨BR, 3, none⟩ (.int .i64 0)).setCell ⟨BR, 4, none⟩ (.int .i64 0)).setCell ⟨BR, 5, none⟩ (.int .i64 0)).cell? ⟨BR, 0, none⟩ = some (.int .i64 0) := d2.cell 0 rfl
  have g1 : ((((((w1.setCell ⟨BR, 0, none⟩ (.int .i64 0)).setCell ⟨BR, 1, none⟩ (.bool false)).setCell ⟨BR, 2, none⟩ (.int .i64 0)).setCell ⟨BR, 3, none⟩ (.int .i64 0)).setCell ⟨BR, 4, none⟩ (.int .i64 0)).setCell ⟨BR, 5, none⟩ (.int .i64 0)).cell? ⟨BR, 1, none⟩ = some (.bool false) := d2.cell 1 rfl
  have g2 : ((((((w1.setCell ⟨BR, 0, none⟩ (.int .i64 0)).setCell ⟨BR, 1, none⟩ (.bool false)).setCell ⟨BR, 2, none⟩ (.int .i64 0)).setCell ⟨BR, 3, none⟩ (.int .i64 0)).setCell ⟨BR, 4, none⟩ (.int .i64 0)).setCell ⟨BR, 5, none⟩ (.int .i64 0)).cell? ⟨BR, 2, none⟩ = some (.int .i64 0) := d2.cell 2 rfl
  have g3 : ((((((w1.setCell ⟨BR, 0, none⟩ (.int .i64 0)).setCell ⟨BR, 1, none⟩ (.bool false)).setCell ⟨BR, 2, none⟩ (.int .i64 0)).setCell ⟨BR, 3, none⟩ (.int .i64 0)).setCell ⟨BR, 4, none⟩ (.int .i64 0)).setCell ⟨BR, 5, none⟩ (.int .i64 0)).cell? ⟨BR, 3, none⟩ = some (.int .i64 0) := d2.cell 3 rfl
  have g4 : ((((((w1.setCell ⟨BR, 0, none⟩ (.int .i64 0)).setCell ⟨BR, 1, none⟩ (.bool false)).setCell ⟨BR, 2, none⟩ (.int .i64 0)).setCell ⟨BR, 3, none⟩ (.int .i64 0)).setCell ⟨BR, 4, none⟩ (.int .i64 0)).setCell ⟨BR, 5, none⟩ (.int .i64 0)).cell? ⟨BR, 4, none⟩ = some (.int .i64 0) := d2.cell 4 rfl
  have g5 : ((((((w1.setCell ⟨BR, 0, none⟩ (.int .i64 0)).setCell ⟨BR, 1, none⟩ (.bool false)).setCell ⟨BR, 2, none⟩ (.int .i64 0)).setCell ⟨BR, 3, none⟩ (.int .i64 0)).setCell ⟨BR, 4, none⟩ (.int .i64 0)).setCell ⟨BR, 5, none⟩ (.int .i64 0)).cell? ⟨BR, 5, none⟩ = some (.int .i64 0) := d2.cell 5 rfl
  clear dR d2 hb0 cA
  go_wp2_with fail
  exact bodyPost_ret (v := .tuple #[valV 0 false 0 0 0 0, .slice none 0 0, .int .i64 1]) (by simp [results, Tryz.results10, go_sem, g0, g1, g2, g3, g4, g5]) rfl ⟨rfl, hbT⟩
end Go.Proofs.YtblahbmhbfcggaaGreatDoor
