/- Package val: what a call takes in of two sets. -/
import Derived.Test.YtblahbmhbfcggaaGreatDoorVCountM
namespace Go.Proofs.YtblahbmhbfcggaaGreatDoor
open Go.ChangeShapes Go.WideShapes Go.ChangeAt Go.RowKit Go.Joins Go.Deep
set_option linter.unusedVariables false

def BothPost (k : Nat) (no : Bool) (l h f b : Nat) (no2 : Bool) (l2 h2 f2 b2 : Nat) (w : World) (e : Ending) (w' : World) : Prop :=
  ∃ sa sb, e = .returned (.tuple #[.pointer (some ⟨sa, 0, none⟩), .pointer (some ⟨sb, 0, none⟩), .int .i64 0]) ∧ SetNew w' sa k no l h f b ∧ SetNew w' sb k no2 l2 h2 f2 b2 ∧ w.heap.size ≤ sa ∧ sa < sb ∧ Below w.heap.size w w'
def BothNo (w : World) (e : Ending) (w' : World) : Prop := e = .returned (.tuple #[.pointer none, .pointer none, .int .i64 1]) ∧ Below w.heap.size w w'
theorem two_boxes (w : World) (A B : Array Value) (T : TypeId) : At ((w.alloc (.cells A T)).alloc (.cells B T)) w.heap.size A T ∧ At ((w.alloc (.cells A T)).alloc (.cells B T)) (w.heap.size + 1) B T ∧ Below w.heap.size w ((w.alloc (.cells A T)).alloc (.cells B T)) :=
  ⟨(At.new w A T).alloc _, two_new w A B T T, ((Below.refl _ _).alloc (Nat.le_refl _) _).alloc (by simp) _⟩
set_option maxRecDepth 100000 in
set_option maxHeartbeats 1600000 in
theorem takeBoth_yes (k : Nat) (no : Bool) (l h f b : Nat) (no2 : Bool) (l2 h2 f2 b2 : Nat) (hm : mayB k no l h f b = true) (hm2 : mayB k no2 l2 h2 f2 b2 = true) (w : World) :
    Calls Tryz.prog 128 #[valV k no l h f b, valV k no2 l2 h2 f2 b2] w (BothPost k no l h f b no2 l2 h2 f2 b2 w) := by
  obtain ⟨dA, dB, hb0⟩ := two_boxes w #[.int .i64 k, .bool no, .int .i64 l, .int .i64 h, .int .i64 f, .int .i64 b] #[.int .i64 k, .bool no2, .int .i64 l2, .int .i64 h2, .int .i64 f2, .int .i64 b2] 30
  have cA := fun w => take_yes k no l h f b hm w
  have cB := fun w => take_yes k no2 l2 h2 f2 b2 hm2 w
  clear hm hm2
  go_enter Tryz.func128, Tryz.ntmps128
  go_wp2_with fail
  refine (cA _).mono ?_
  rintro e w1 ⟨sa, rfl, hSA, hsa, hb1⟩
  replace dA := At.below' hb1 dA
  replace dB := At.below' hb1 dB
  have q0 : w1.cell? ⟨w.heap.size + 1, 0, none⟩ = some (.int .i64 k) := dB.cell 0 rfl
  have q1 : w1.cell? ⟨w.heap.size + 1, 1, none⟩ = some (.bool no2) := dB.cell 1 rfl
  have q2 : w1.cell? ⟨w.heap.size + 1, 2, none⟩ = some (.int .i64 l2) := dB.cell 2 rfl
  have q3 : w1.cell? ⟨w.heap.size + 1, 3, none⟩ = some (.int .i64 h2) := dB.cell 3 rfl
  have q4 : w1.cell? ⟨w.heap.size + 1, 4, none⟩ = some (.int .i64 f2) := dB.cell 4 rfl
  have q5 : w1.cell? ⟨w.heap.size + 1, 5, none⟩ = some (.int .i64 b2) := dB.cell 5 rfl
  have hbE := hb0.trans (hb1.mono hb0.size)
  have hsz : w.heap.size ≤ sa := by have := hb0.size; omega
  clear cA hb1
  go_wp2_with fail
  refine (cB _).mono ?_
  rintro e w2 ⟨sb, rfl, hSB, hsb, hb2⟩
  have p0 : w2.cell? ⟨w.heap.size, 0, none⟩ = some (.int .i64 k) := (At.below' hb2 dA).cell 0 rfl
  have r0 : w2.cell? ⟨w.heap.size + 1, 0, none⟩ = some (.int .i64 k) := (At.below' hb2 dB).cell 0 rfl
  have hSA2 : SetNew w2 sa k no l h f b := At.below' hb2 hSA
  have hab : sa < sb := by have := At.lt hSA; omega
  have hbF := hbE.trans (hb2.mono hbE.size)
  clear cB q0 q1 q2 q3 q4 q5 dA dB hb0 hbE hb2 hSA hsb hsa
  go_wp2_with fail
  go_ret3
  exact ⟨sa, sb, rfl, hSA2, hSB, hsz, hab, hbF⟩
set_option maxRecDepth 100000 in
set_option maxHeartbeats 1600000 in
theorem takeBoth_no1 (k : Int) (no : Bool) (l h f b : Int) (k2 : Int) (no2 : Bool) (l2 h2 f2 b2 : Int) (hm : mayB k no l h f b = false) (w : World) :
    Calls Tryz.prog 128 #[valV k no l h f b, valV k2 no2 l2 h2 f2 b2] w (BothNo w) := by
  obtain ⟨dA, dB, hb0⟩ := two_boxes w #[.int .i64 k, .bool no, .int .i64 l, .int .i64 h, .int .i64 f, .int .i64 b] #[.int .i64 k2, .bool no2, .int .i64 l2, .int .i64 h2, .int .i64 f2, .int .i64 b2] 30
  have cA := fun w => take_no k no l h f b hm w
  clear hm
  go_enter Tryz.func128, Tryz.ntmps128
  go_wp2_with fail
  refine (cA _).mono ?_
  rintro e w1 ⟨rfl, hb1⟩
  have hbE := hb0.trans (hb1.mono hb0.size)
  clear cA hb1 dA dB hb0
  go_wp2_with fail
  go_ret3
  exact ⟨rfl, hbE⟩
set_option maxRecDepth 100000 in
set_option maxHeartbeats 1600000 in
theorem takeBoth_no2 (k : Nat) (no : Bool) (l h f b : Nat) (k2 : Int) (no2 : Bool) (l2 h2 f2 b2 : Int) (hm : mayB k no l h f b = true) (hm2 : mayB k2 no2 l2 h2 f2 b2 = false) (w : World) :
    Calls Tryz.prog 128 #[valV k no l h f b, valV k2 no2 l2 h2 f2 b2] w (BothNo w) := by
  obtain ⟨dA, dB, hb0⟩ := two_boxes w #[.int .i64 k, .bool no, .int .i64 l, .int .i64 h, .int .i64 f, .int .i64 b] #[.int .i64 k2, .bool no2, .int .i64 l2, .int .i64 h2, .int .i64 f2, .int .i64 b2] 30
  have cA := fun w => take_yes k no l h f b hm w
  have cB := fun w => take_no k2 no2 l2 h2 f2 b2 hm2 w
  clear hm hm2
  go_enter Tryz.func128, Tryz.ntmps128
  go_wp2_with fail
  refine (cA _).mono ?_
  rintro e w1 ⟨sa, rfl, hSA, hsa, hb1⟩
  replace dB := At.below' hb1 dB
  have q0 : w1.cell? ⟨w.heap.size + 1, 0, none⟩ = some (.int .i64 k2) := dB.cell 0 rfl
  have q1 : w1.cell? ⟨w.heap.size + 1, 1, none⟩ = some (.bool no2) := dB.cell 1 rfl
  have q2 : w1.cell? ⟨w.heap.size + 1, 2, none⟩ = some (.int .i64 l2) := dB.cell 2 rfl
  have q3 : w1.cell? ⟨w.heap.size + 1, 3, none⟩ = some (.int .i64 h2) := dB.cell 3 rfl
  have q4 : w1.cell? ⟨w.heap.size + 1, 4, none⟩ = some (.int .i64 f2) := dB.cell 4 rfl
  have q5 : w1.cell? ⟨w.heap.size + 1, 5, none⟩ = some (.int .i64 b2) := dB.cell 5 rfl
  have hbE := hb0.trans (hb1.mono hb0.size)
  clear cA hb1 hSA hsa dA
  go_wp2_with fail
  refine (cB _).mono ?_
  rintro e w2 ⟨rfl, hb2⟩
  have hbF := hbE.trans (hb2.mono hbE.size)
  clear cB q0 q1 q2 q3 q4 q5 dB hb0 hbE hb2
  go_wp2_with fail
  go_ret3
  exact ⟨rfl, hbF⟩
set_option maxRecDepth 100000 in
set_option maxHeartbeats 1600000 in
theorem takeBoth_no3 (k : Nat) (no : Bool) (l h f b : Nat) (k2 : Nat) (no2 : Bool) (l2 h2 f2 b2 : Nat) (hm : mayB k no l h f b = true) (hm2 : mayB k2 no2 l2 h2 f2 b2 = true) (hk : k ≠ k2) (w : World) :
    Calls Tryz.prog 128 #[valV k no l h f b, valV k2 no2 l2 h2 f2 b2] w (BothNo w) := by
  obtain ⟨dA, dB, hb0⟩ := two_boxes w #[.int .i64 k, .bool no, .int .i64 l, .int .i64 h, .int .i64 f, .int .i64 b] #[.int .i64 k2, .bool no2, .int .i64 l2, .int .i64 h2, .int .i64 f2, .int .i64 b2] 30
  have cA := fun w => take_yes k no l h f b hm w
  have cB := fun w => take_yes k2 no2 l2 h2 f2 b2 hm2 w
  have t0 : (k == k2) = false := by simpa using hk
  have t1 : (k != k2) = true := by simpa using hk
  have t2 : ((k : Int) == (k2 : Int)) = false := by simp; omega
  have t3 : ((k : Int) != (k2 : Int)) = true := by simp; omega
  clear hm hm2
  go_enter Tryz.func128, Tryz.ntmps128
  go_wp2_with fail
  refine (cA _).mono ?_
  rintro e w1 ⟨sa, rfl, hSA, hsa, hb1⟩
  replace dA := At.below' hb1 dA
  replace dB := At.below' hb1 dB
  have q0 : w1.cell? ⟨w.heap.size + 1, 0, none⟩ = some (.int .i64 k2) := dB.cell 0 rfl
  have q1 : w1.cell? ⟨w.heap.size + 1, 1, none⟩ = some (.bool no2) := dB.cell 1 rfl
  have q2 : w1.cell? ⟨w.heap.size + 1, 2, none⟩ = some (.int .i64 l2) := dB.cell 2 rfl
  have q3 : w1.cell? ⟨w.heap.size + 1, 3, none⟩ = some (.int .i64 h2) := dB.cell 3 rfl
  have q4 : w1.cell? ⟨w.heap.size + 1, 4, none⟩ = some (.int .i64 f2) := dB.cell 4 rfl
  have q5 : w1.cell? ⟨w.heap.size + 1, 5, none⟩ = some (.int .i64 b2) := dB.cell 5 rfl
  have hbE := hb0.trans (hb1.mono hb0.size)
  clear cA hb1 hSA hsa
  go_wp2_with fail
  refine (cB _).mono ?_
  rintro e w2 ⟨sb, rfl, hSB, hsb, hb2⟩
  have p0 : w2.cell? ⟨w.heap.size, 0, none⟩ = some (.int .i64 k) := (At.below' hb2 dA).cell 0 rfl
  have r0 : w2.cell? ⟨w.heap.size + 1, 0, none⟩ = some (.int .i64 k2) := (At.below' hb2 dB).cell 0 rfl
  have hbF := hbE.trans (hb2.mono hbE.size)
  clear cB q0 q1 q2 q3 q4 q5 dA dB hb0 hbE hb2 hSB hsb
  go_wp2_with fail
  go_ret3
  exact ⟨rfl, hbF⟩
end Go.Proofs.YtblahbmhbfcggaaGreatDoor
