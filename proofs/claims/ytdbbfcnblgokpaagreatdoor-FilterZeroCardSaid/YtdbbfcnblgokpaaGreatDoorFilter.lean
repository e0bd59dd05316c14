/- Package filter: what is left of a set behind the question whether its members are 0. -/
import Derived.Test.YtdbbfcnblgokpaaGreatDoorFMTwo
import Derived.Test.YtdbbfcnblgokpaaGreatDoorVBetween
namespace Go.Proofs.YtdbbfcnblgokpaaGreatDoor
open Go.ChangeShapes Go.WideShapes Go.ChangeAt Go.RowKit Go.Joins Go.Deep
set_option linter.unusedVariables false

/-- a set of which something is asked, in memory -/
def fopC (k : Int) (no : Bool) (l h f b : Int) : Array Value := #[.int .i64 k, .bool no, .int .i64 l, .int .i64 h, .int .i64 f, .int .i64 b, .int .u32 0, .int .i32 0, .int .u32 0, .int .i64 0, .int .i64 0]
set_option maxRecDepth 100000 in
set_option maxHeartbeats 1600000 in
theorem ftake_any (k : Int) (no : Bool) (l h f b : Int) (w : World) :
    Calls Tryz.prog 14 #[valV k no l h f b] w fun e w' => ∃ sb, e = .returned (.pointer (some ⟨sb, 0, none⟩)) ∧ At w' sb (fopC k no l h f b) 80 ∧ w.heap.size ≤ sb ∧ Below w.heap.size w w' := by
  have hb0 : Below w.heap.size w (w.alloc (.cells #[.int .i64 k, .bool no, .int .i64 l, .int .i64 h, .int .i64 f, .int .i64 b] 28)) := (Below.refl _ _).alloc (Nat.le_refl _) _
  go_enter Tryz.func14, Tryz.ntmps14
  go_wp2_with fail
  go_ret
  exact ⟨_, rfl, two_new w #[.int .i64 k, .bool no, .int .i64 l, .int .i64 h, .int .i64 f, .int .i64 b] (fopC k no l h f b) 28 80, Nat.le_succ _, hb0.alloc hb0.size _⟩
/-- what meet tells -/
def FMeet (k : Nat) (A B : Nat → Prop) (w : World) (e : Ending) (w' : World) : Prop :=
  ∃ no l h f b, e = .returned (valV k no (l : Nat) (h : Nat) (f : Nat) (b : Nat)) ∧ ValOk k no l h f b ∧ mayB k no l h f b = true ∧ (∀ z, A z → B z → MemV k no l h f b z) ∧ (∀ z, MemV k no l h f b z → A z) ∧ ((∀ z, ¬ (A z ∧ B z)) → ∀ z, ¬ MemV k no l h f b z) ∧ Below w.heap.size w w'
theorem keepS_set0 {w : World} {xa xb0 B j : Nat} {x : Value} {K l h f b l2 h2 f2 b2 : Nat} {no no2 : Bool} (hh : w.cell? ⟨xa, 0, none⟩ = some (.int .i64 K) ∧ w.cell? ⟨xa, 1, none⟩ = some (.bool no) ∧ w.cell? ⟨xa, 2, none⟩ = some (.int .i64 l) ∧ w.cell? ⟨xa, 3, none⟩ = some (.int .i64 h) ∧ w.cell? ⟨xa, 4, none⟩ = some (.int .i64 f) ∧ w.cell? ⟨xa, 5, none⟩ = some (.int .i64 b) ∧ w.cell? ⟨xb0, 0, none⟩ = some (.int .i64 K) ∧ w.cell? ⟨xb0, 1, none⟩ = some (.bool no2) ∧ w.cell? ⟨xb0, 2, none⟩ = some (.int .i64 l2) ∧ w.cell? ⟨xb0, 3, none⟩ = some (.int .i64 h2) ∧ w.cell? ⟨xb0, 4, none⟩ = some (.int .i64 f2) ∧ w.cell? ⟨xb0, 5, none⟩ = some (.int .i64 b2)) (gg1 : xa ≠ B) (gg2 : xb0 ≠ B) : (w.setCell ⟨B, j, none⟩ x).cell? ⟨xa, 0, none⟩ = some (.int .i64 K) ∧ (w.setCell ⟨B, j, none⟩ x).cell? ⟨xa, 1, none⟩ = some (.bool no) ∧ (w.setCell ⟨B, j, none⟩ x).cell? ⟨xa, 2, none⟩ = some (.int .i64 l) ∧ (w.setCell ⟨B, j, none⟩ x).cell? ⟨xa, 3, none⟩ = some (.int .i64 h) ∧ (w.setCell ⟨B, j, none⟩ x).cell? ⟨xa, 4, none⟩ = some (.int .i64 f) ∧ (w.setCell ⟨B, j, none⟩ x).cell? ⟨xa, 5, none⟩ = some (.int .i64 b) ∧ (w.setCell ⟨B, j, none⟩ x).cell? ⟨xb0, 0, none⟩ = some (.int .i64 K) ∧ (w.setCell ⟨B, j, none⟩ x).cell? ⟨xb0, 1, none⟩ = some (.bool no2) ∧ (w.setCell ⟨B, j, none⟩ x).cell? ⟨xb0, 2, none⟩ = some (.int .i64 l2) ∧ (w.setCell ⟨B, j, none⟩ x).cell? ⟨xb0, 3, none⟩ = some (.int .i64 h2) ∧ (w.setCell ⟨B, j, none⟩ x).cell? ⟨xb0, 4, none⟩ = some (.int .i64 f2) ∧ (w.setCell ⟨B, j, none⟩ x).cell? ⟨xb0, 5, none⟩ = some (.int .i64 b2) := ⟨cell_set (hh.1) gg1, cell_set (hh.2.1) gg1, cell_set (hh.2.2.1) gg1, cell_set (hh.2.2.2.1) gg1, cell_set (hh.2.2.2.2.1) gg1, cell_set (hh.2.2.2.2.2.1) gg1, cell_set (hh.2.2.2.2.2.2.1) gg2, cell_set (hh.2.2.2.2.2.2.2.1) gg2, cell_set (hh.2.2.2.2.2.2.2.2.1) gg2, cell_set (hh.2.2.2.2.2.2.2.2.2.1) gg2, cell_set (hh.2.2.2.2.2.2.2.2.2.2.1) gg2, cell_set (hh.2.2.2.2.2.2.2.2.2.2.2) gg2⟩
set_option maxRecDepth 100000 in
set_option maxHeartbeats 1600000 in
theorem fmeet_any (sb K : Nat) (no : Bool) (l h f b : Nat) (no2 : Bool) (l2 h2 f2 b2 : Nat) (ok : ValOk K no l h f b) (ok2 : ValOk K no2 l2 h2 f2 b2) (hm : mayB K no l h f b = true) (hm2 : mayB K no2 l2 h2 f2 b2 = true) (w : World) (hA : At w sb (fopC K no l h f b) 80) :
    Calls Tryz.prog 31 #[.pointer (some ⟨sb, 0, none⟩), valV K no2 l2 h2 f2 b2] w (FMeet K (MemV K no l h f b) (MemV K no2 l2 h2 f2 b2) w) := by
  unfold fopC at hA
  obtain ⟨dV, dR, hb0⟩ := two_boxes w #[.int .i64 K, .bool no2, .int .i64 l2, .int .i64 h2, .int .i64 f2, .int .i64 b2] #[.int .i64 0, .bool false, .int .i64 0, .int .i64 0, .int .i64 0, .int .i64 0] 28
  have hA0 := At.below' hb0 hA
  have cM := fun w => Meet_yes meet_holds K no l h f b no2 l2 h2 f2 b2 ok ok2 hm hm2 w
  obtain ⟨BV, hBV⟩ : ∃ B, B = w.heap.size := ⟨_, rfl⟩
  obtain ⟨BR, hBR⟩ : ∃ B, B = w.heap.size + 1 := ⟨_, rfl⟩
  have hsV : sb < BV := by rw [hBV]; exact At.lt hA
  have hVR : BV < BR := by omega
  have hwV : w.heap.size ≤ BV := by omega
  rw [← hBV] at dV
  rw [← hBR] at dR
  have HBV := Lib.hid hBV
  have HBR := Lib.hid hBR
  clear hA ok ok2 hm hm2 hBV hBR
  go_enter Tryz.func31, Tryz.ntmps31
  go_upto_region 1 with (fail)
  rw [← HBR.out, ← HBV.out]
  generalize ((w.alloc (.cells #[.int .i64 K, .bool no2, .int .i64 l2, .int .i64 h2, .int .i64 f2, .int .i64 b2] 28)).alloc (.cells #[.int .i64 0, .bool false, .int .i64 0, .int .i64 0, .int .i64 0, .int .i64 0] 28)) = w0 at *
  have p0 : w0.cell? ⟨sb, 0, none⟩ = some (.int .i64 K) := hA0.cell 0 rfl
  have p1 : w0.cell? ⟨sb, 1, none⟩ = some (.bool no) := hA0.cell 1 rfl
  have p2 : w0.cell? ⟨sb, 2, none⟩ = some (.int .i64 l) := hA0.cell 2 rfl
  have p3 : w0.cell? ⟨sb, 3, none⟩ = some (.int .i64 h) := hA0.cell 3 rfl
  have p4 : w0.cell? ⟨sb, 4, none⟩ = some (.int .i64 f) := hA0.cell 4 rfl
  have p5 : w0.cell? ⟨sb, 5, none⟩ = some (.int .i64 b) := hA0.cell 5 rfl
  have q0 : w0.cell? ⟨BV, 0, none⟩ = some (.int .i64 K) := dV.cell 0 rfl
  have q1 : w0.cell? ⟨BV, 1, none⟩ = some (.bool no2) := dV.cell 1 rfl
  have q2 : w0.cell? ⟨BV, 2, none⟩ = some (.int .i64 l2) := dV.cell 2 rfl
  have q3 : w0.cell? ⟨BV, 3, none⟩ = some (.int .i64 h2) := dV.cell 3 rfl
  have q4 : w0.cell? ⟨BV, 4, none⟩ = some (.int .i64 f2) := dV.cell 4 rfl
  have q5 : w0.cell? ⟨BV, 5, none⟩ = some (.int .i64 b2) := dV.cell 5 rfl
  have hna : sb ≠ w0.heap.size := Nat.ne_of_lt (At.lt hA0)
  have hnb : BV ≠ w0.heap.size := Nat.ne_of_lt (At.lt dV)
  go_cut [5, 6] from 7 to 15 (fun vs1 vs2 wx => ∃ BX xno xl xh xf xb, vs1 = .pointer (some ⟨BX, 0, none⟩) ∧ At wx BX #[.int .i64 K, .bool xno, .int .i64 (xl : Nat), .int .i64 (xh : Nat), .int .i64 (xf : Nat), .int .i64 (xb : Nat)] 28 ∧ ValOk K xno xl xh xf xb ∧ mayB K xno xl xh xf xb = true ∧ (∀ z, MemV K no l h f b z → MemV K no2 l2 h2 f2 b2 z → MemV K xno xl xh xf xb z) ∧ (∀ z, MemV K xno xl xh xf xb z → MemV K no l h f b z) ∧ ((∀ z, ¬ (MemV K no l h f b z ∧ MemV K no2 l2 h2 f2 b2 z)) → ∀ z, ¬ MemV K xno xl xh xf xb z) ∧ Below w0.heap.size w0 wx)
  case first =>
    have hbw := Below.refl w0.heap.size w0
    have DZ0 := Lib.hid (At.new w0 #[.int .i64 0, .bool false, .int .i64 0, .int .i64 0, .int .i64 0, .int .i64 0] 28)
    clear hA0 dV dR hb0
    have hS : w0.cell? ⟨sb, 0, none⟩ = some (.int .i64 K) ∧ w0.cell? ⟨sb, 1, none⟩ = some (.bool no) ∧ w0.cell? ⟨sb, 2, none⟩ = some (.int .i64 l) ∧ w0.cell? ⟨sb, 3, none⟩ = some (.int .i64 h) ∧ w0.cell? ⟨sb, 4, none⟩ = some (.int .i64 f) ∧ w0.cell? ⟨sb, 5, none⟩ = some (.int .i64 b) ∧ w0.cell? ⟨BV, 0, none⟩ = some (.int .i64 K) ∧ w0.cell? ⟨BV, 1, none⟩ = some (.bool no2) ∧ w0.cell? ⟨BV, 2, none⟩ = some (.int .i64 l2) ∧ w0.cell? ⟨BV, 3, none⟩ = some (.int .i64 h2) ∧ w0.cell? ⟨BV, 4, none⟩ = some (.int .i64 f2) ∧ w0.cell? ⟨BV, 5, none⟩ = some (.int .i64 b2) := ⟨p0, p1, p2, p3, p4, p5, q0, q1, q2, q3, q4, q5⟩
    clear p0 q0 p1 q1 p2 q2 p3 q3 p4 q4 p5 q5
    have hSd : w0.drew.cell? ⟨sb, 0, none⟩ = some (.int .i64 K) ∧ w0.drew.cell? ⟨sb, 1, none⟩ = some (.bool no) ∧ w0.drew.cell? ⟨sb, 2, none⟩ = some (.int .i64 l) ∧ w0.drew.cell? ⟨sb, 3, none⟩ = some (.int .i64 h) ∧ w0.drew.cell? ⟨sb, 4, none⟩ = some (.int .i64 f) ∧ w0.drew.cell? ⟨sb, 5, none⟩ = some (.int .i64 b) ∧ w0.drew.cell? ⟨BV, 0, none⟩ = some (.int .i64 K) ∧ w0.drew.cell? ⟨BV, 1, none⟩ = some (.bool no2) ∧ w0.drew.cell? ⟨BV, 2, none⟩ = some (.int .i64 l2) ∧ w0.drew.cell? ⟨BV, 3, none⟩ = some (.int .i64 h2) ∧ w0.drew.cell? ⟨BV, 4, none⟩ = some (.int .i64 f2) ∧ w0.drew.cell? ⟨BV, 5, none⟩ = some (.int .i64 b2) := hS
    have hSZd : (w0.alloc (.cells #[.int .i64 0, .bool false, .int .i64 0, .int .i64 0, .int .i64 0, .int .i64 0] 28)).drew.cell? ⟨sb, 0, none⟩ = some (.int .i64 K) ∧ (w0.alloc (.cells #[.int .i64 0, .bool false, .int .i64 0, .int .i64 0, .int .i64 0, .int .i64 0] 28)).drew.cell? ⟨sb, 1, none⟩ = some (.bool no) ∧ (w0.alloc (.cells #[.int .i64 0, .bool false, .int .i64 0, .int .i64 0, .int .i64 0, .int .i64 0] 28)).drew.cell? ⟨sb, 2, none⟩ = some (.int .i64 l) ∧ (w0.alloc (.cells #[.int .i64 0, .bool false, .int .i64 0, .int .i64 0, .int .i64 0, .int .i64 0] 28)).drew.cell? ⟨sb, 3, none⟩ = some (.int .i64 h) ∧ (w0.alloc (.cells #[.int .i64 0, .bool false, .int .i64 0, .int .i64 0, .int .i64 0, .int .i64 0] 28)).drew.cell? ⟨sb, 4, none⟩ = some (.int .i64 f) ∧ (w0.alloc (.cells #[.int .i64 0, .bool false, .int .i64 0, .int .i64 0, .int .i64 0, .int .i64 0] 28)).drew.cell? ⟨sb, 5, none⟩ = some (.int .i64 b) ∧ (w0.alloc (.cells #[.int .i64 0, .bool false, .int .i64 0, .int .i64 0, .int .i64 0, .int .i64 0] 28)).drew.cell? ⟨BV, 0, none⟩ = some (.int .i64 K) ∧ (w0.alloc (.cells #[.int .i64 0, .bool false, .int .i64 0, .int .i64 0, .int .i64 0, .int .i64 0] 28)).drew.cell? ⟨BV, 1, none⟩ = some (.bool no2) ∧ (w0.alloc (.cells #[.int .i64 0, .bool false, .int .i64 0, .int .i64 0, .int .i64 0, .int .i64 0] 28)).drew.cell? ⟨BV, 2, none⟩ = some (.int .i64 l2) ∧ (w0.alloc (.cells #[.int .i64 0, .bool false, .int .i64 0, .int .i64 0, .int .i64 0, .int .i64 0] 28)).drew.cell? ⟨BV, 3, none⟩ = some (.int .i64 h2) ∧ (w0.alloc (.cells #[.int .i64 0, .bool false, .int .i64 0, .int .i64 0, .int .i64 0, .int .i64 0] 28)).drew.cell? ⟨BV, 4, none⟩ = some (.int .i64 f2) ∧ (w0.alloc (.cells #[.int .i64 0, .bool false, .int .i64 0, .int .i64 0, .int .i64 0, .int .i64 0] 28)).drew.cell? ⟨BV, 5, none⟩ = some (.int .i64 b2) := keep12_alloc hS _
    clear hS
    go_region_held3 (fun w' => w'.cell? ⟨sb, 0, none⟩ = some (.int .i64 K) ∧ w'.cell? ⟨sb, 1, none⟩ = some (.bool no) ∧ w'.cell? ⟨sb, 2, none⟩ = some (.int .i64 l) ∧ w'.cell? ⟨sb, 3, none⟩ = some (.int .i64 h) ∧ w'.cell? ⟨sb, 4, none⟩ = some (.int .i64 f) ∧ w'.cell? ⟨sb, 5, none⟩ = some (.int .i64 b) ∧ w'.cell? ⟨BV, 0, none⟩ = some (.int .i64 K) ∧ w'.cell? ⟨BV, 1, none⟩ = some (.bool no2) ∧ w'.cell? ⟨BV, 2, none⟩ = some (.int .i64 l2) ∧ w'.cell? ⟨BV, 3, none⟩ = some (.int .i64 h2) ∧ w'.cell? ⟨BV, 4, none⟩ = some (.int .i64 f2) ∧ w'.cell? ⟨BV, 5, none⟩ = some (.int .i64 b2))
      (first
        | with_reducible exact hSd
        | with_reducible exact hSZd
        | with_reducible exact keep12_below hSd HB1.out
        | with_reducible exact keep12_below hSZd HB1.out
        | with_reducible exact keep12_alloc (keep12_below hSd HB1.out) _
        | with_reducible exact keepS_set0 (keepS_set0 (keepS_set0 (keepS_set0 (keepS_set0 (keepS_set0 (keep12_below hSZd HB1.out) hna hnb) hna hnb) hna hnb) hna hnb) hna hnb) hna hnb)
      ((go_at_call 46; refine (cM _).mono ?_; rintro e w1 ⟨xno, xl, xh, xf, xb, rfl, okX, hmX, x1, x2, x3, hb1⟩
        have X1 := Lib.hid x1
        have X2 := Lib.hid x2
        have X3 := Lib.hid x3
        have HB1 := Lib.hid hb1
        clear x1 x2 x3
        try (have dZ : At w1 w0.heap.size #[.int .i64 0, .bool false, .int .i64 0, .int .i64 0, .int .i64 0, .int .i64 0] 28 := At.below' hb1 DZ0.out.drew
             have tc0 : w1.cell? ⟨w0.heap.size, 0, none⟩ = some (.int .i64 0) := dZ.cell 0 rfl
             have tf0 : w1.frozen? ⟨w0.heap.size, 0, none⟩ = false := At.free dZ 0
             have ts0 : At (w1.setCell ⟨w0.heap.size, 0, none⟩ (.int .i64 K)) w0.heap.size #[.int .i64 K, .bool false, .int .i64 0, .int .i64 0, .int .i64 0, .int .i64 0] 28 := At.set dZ 0 (.int .i64 K) (by simp)
             have tc1 : (w1.setCell ⟨w0.heap.size, 0, none⟩ (.int .i64 K)).cell? ⟨w0.heap.size, 1, none⟩ = some (.bool false) := ts0.cell 1 rfl
             have tf1 : (w1.setCell ⟨w0.heap.size, 0, none⟩ (.int .i64 K)).frozen? ⟨w0.heap.size, 1, none⟩ = false := At.free ts0 1
             have ts1 : At ((w1.setCell ⟨w0.heap.size, 0, none⟩ (.int .i64 K)).setCell ⟨w0.heap.size, 1, none⟩ (.bool xno)) w0.heap.size #[.int .i64 K, .bool xno, .int .i64 0, .int .i64 0, .int .i64 0, .int .i64 0] 28 := At.set ts0 1 (.bool xno) (by simp)
             have tc2 : ((w1.setCell ⟨w0.heap.size, 0, none⟩ (.int .i64 K)).setCell ⟨w0.heap.size, 1, none⟩ (.bool xno)).cell? ⟨w0.heap.size, 2, none⟩ = some (.int .i64 0) := ts1.cell 2 rfl
             have tf2 : ((w1.setCell ⟨w0.heap.size, 0, none⟩ (.int .i64 K)).setCell ⟨w0.heap.size, 1, none⟩ (.bool xno)).frozen? ⟨w0.heap.size, 2, none⟩ = false := At.free ts1 2
             have ts2 : At (((w1.setCell ⟨w0.heap.size, 0, none⟩ (.int .i64 K)).setCell ⟨w0.heap.size, 1, none⟩ (.bool xno)).setCell ⟨w0.heap.size, 2, none⟩ (.int .i64 xl)) w0.heap.size #[.int .i64 K, .bool xno, .int .i64 xl, .int .i64 0, .int .i64 0, .int .i64 0] 28 := At.set ts1 2 (.int .i64 xl) (by simp)
             have tc3 : (((w1.setCell ⟨w0.heap.size, 0, none⟩ (.int .i64 K)).setCell ⟨w0.heap.size, 1, none⟩ (.bool xno)).setCell ⟨w0.heap.size, 2, none⟩ (.int .i64 xl)).cell? ⟨w0.heap.size, 3, none⟩ = some (.int .i64 0) := ts2.cell 3 rfl
             have tf3 : (((w1.setCell ⟨w0.heap.size, 0, none⟩ (.int .i64 K)).setCell ⟨w0.heap.size, 1, none⟩ (.bool xno)).setCell ⟨w0.heap.size, 2, none⟩ (.int .i64 xl)).frozen? ⟨w0.heap.size, 3, none⟩ = false := At.free ts2 3
             have ts3 : At ((((w1.setCell ⟨w0.heap.size, 0, none⟩ (.int .i64 K)).setCell ⟨w0.heap.size, 1, none⟩ (.bool xno)).setCell ⟨w0.heap.size, 2, none⟩ (.int .i64 xl)).setCell ⟨w0.heap.size, 3, none⟩ (.int .i64 xh)) w0.heap.size #[.int .i64 K, .bool xno, .int .i64 xl, .int .i64 xh, .int .i64 0, .int .i64 0] 28 := At.set ts2 3 (.int .i64 xh) (by simp)
             have tc4 : ((((w1.setCell ⟨w0.heap.size, 0, none⟩ (.int .i64 K)).setCell ⟨w0.heap.size, 1, none⟩ (.bool xno)).setCell ⟨w0.heap.size, 2, none⟩ (.int .i64 xl)).setCell ⟨w0.heap.size, 3, none⟩ (.int .i64 xh)).cell? ⟨w0.heap.size, 4, none⟩ = some (.int .i64 0) := ts3.cell 4 rfl
             have tf4 : ((((w1.setCell ⟨w0.heap.size, 0, none⟩ (.int .i64 K)).setCell ⟨w0.heap.size, 1, none⟩ (.bool xno)).setCell ⟨w0.heap.size, 2, none⟩ (.int .i64 xl)).setCell ⟨w0.heap.size, 3, none⟩ (.int .i64 xh)).frozen? ⟨w0.heap.size, 4, none⟩ = false := At.free ts3 4
             have ts4 : At (((((w1.setCell ⟨w0.heap.size, 0, none⟩ (.int .i64 K)).setCell ⟨w0.heap.size, 1, none⟩ (.bool xno)).setCell ⟨w0.heap.size, 2, none⟩ (.int .i64 xl)).setCell ⟨w0.heap.size, 3, none⟩ (.int .i64 xh)).setCell ⟨w0.heap.size, 4, none⟩ (.int .i64 xf)) w0.heap.size #[.int .i64 K, .bool xno, .int .i64 xl, .int .i64 xh, .int .i64 xf, .int .i64 0] 28 := At.set ts3 4 (.int .i64 xf) (by simp)
             have tc5 : (((((w1.setCell ⟨w0.heap.size, 0, none⟩ (.int .i64 K)).setCell ⟨w0.heap.size, 1, none⟩ (.bool xno)).setCell ⟨w0.heap.size, 2, none⟩ (.int .i64 xl)).setCell ⟨w0.heap.size, 3, none⟩ (.int .i64 xh)).setCell ⟨w0.heap.size, 4, none⟩ (.int .i64 xf)).cell? ⟨w0.heap.size, 5, none⟩ = some (.int .i64 0) := ts4.cell 5 rfl
             have tf5 : (((((w1.setCell ⟨w0.heap.size, 0, none⟩ (.int .i64 K)).setCell ⟨w0.heap.size, 1, none⟩ (.bool xno)).setCell ⟨w0.heap.size, 2, none⟩ (.int .i64 xl)).setCell ⟨w0.heap.size, 3, none⟩ (.int .i64 xh)).setCell ⟨w0.heap.size, 4, none⟩ (.int .i64 xf)).frozen? ⟨w0.heap.size, 5, none⟩ = false := At.free ts4 5
             have ts5 : At ((((((w1.setCell ⟨w0.heap.size, 0, none⟩ (.int .i64 K)).setCell ⟨w0.heap.size, 1, none⟩ (.bool xno)).setCell ⟨w0.heap.size, 2, none⟩ (.int .i64 xl)).setCell ⟨w0.heap.size, 3, none⟩ (.int .i64 xh)).setCell ⟨w0.heap.size, 4, none⟩ (.int .i64 xf)).setCell ⟨w0.heap.size, 5, none⟩ (.int .i64 xb)) w0.heap.size #[.int .i64 K, .bool xno, .int .i64 xl, .int .i64 xh, .int .i64 xf, .int .i64 xb] 28 := At.set ts4 5 (.int .i64 xb) (by simp)
             have DW := Lib.hid ts5
             clear dZ ts5 ts0 ts1 ts2 ts3 ts4)
        clear hb1))
    all_goals
      have hb1 := HB1.out
      go_wp2_with fail
      go_meet
      first
        | exact ⟨_, xno, xl, xh, xf, xb, rfl, DW.out, okX, hmX, X1.out, X2.out, X3.out, (((((((((Below.refl w0.heap.size w0).alloc (Nat.le_refl _) (.cells #[.int .i64 0, .bool false, .int .i64 0, .int .i64 0, .int .i64 0, .int .i64 0] 28)).drew.trans (hb1.mono (by simp))).setCell (p := ⟨w0.heap.size, 0, none⟩) (Nat.le_refl _) (.int .i64 K)).setCell (p := ⟨w0.heap.size, 1, none⟩) (Nat.le_refl _) (.bool xno)).setCell (p := ⟨w0.heap.size, 2, none⟩) (Nat.le_refl _) (.int .i64 xl)).setCell (p := ⟨w0.heap.size, 3, none⟩) (Nat.le_refl _) (.int .i64 xh)).setCell (p := ⟨w0.heap.size, 4, none⟩) (Nat.le_refl _) (.int .i64 xf)).setCell (p := ⟨w0.heap.size, 5, none⟩) (Nat.le_refl _) (.int .i64 xb))⟩
        | exact ⟨_, xno, xl, xh, xf, xb, rfl, At.new w1 #[.int .i64 K, .bool xno, .int .i64 xl, .int .i64 xh, .int .i64 xf, .int .i64 xb] 28, okX, hmX, X1.out, X2.out, X3.out, (hbw.drew.trans hb1).alloc (hbw.drew.trans hb1).size _⟩
  case rest =>
  obtain ⟨BX, xno, xl, xh, xf, xb, rfl, dX, okX, hmX, x1, x2, x3, hbx⟩ := hcut
  generalize wc = w2 at *
  have X1 := Lib.hid x1
  have X2 := Lib.hid x2
  have X3 := Lib.hid x3
  have dR2 := At.below' hbx dR
  have hbG := hb0.trans (hbx.mono hb0.size)
  clear cM x1 x2 x3 dR hb0 hbx dV hA0 hna hnb p0 q0 p1 q1 p2 q2 p3 q3 p4 q4 p5 q5
  have x0 : w2.cell? ⟨BX, 0, none⟩ = some (.int .i64 K) := dX.cell 0 rfl
  have x1 : w2.cell? ⟨BX, 1, none⟩ = some (.bool xno) := dX.cell 1 rfl
  have x2 : w2.cell? ⟨BX, 2, none⟩ = some (.int .i64 xl) := dX.cell 2 rfl
  have x3 : w2.cell? ⟨BX, 3, none⟩ = some (.int .i64 xh) := dX.cell 3 rfl
  have x4 : w2.cell? ⟨BX, 4, none⟩ = some (.int .i64 xf) := dX.cell 4 rfl
  have x5 : w2.cell? ⟨BX, 5, none⟩ = some (.int .i64 xb) := dX.cell 5 rfl
  have tc0 : w2.cell? ⟨BR, 0, none⟩ = some (.int .i64 0) := dR2.cell 0 rfl
  have tf0 : w2.frozen? ⟨BR, 0, none⟩ = false := At.free dR2 0
  have ts0 : At (w2.setCell ⟨BR, 0, none⟩ (.int .i64 K)) BR #[.int .i64 K, .bool false, .int .i64 0, .int .i64 0, .int .i64 0, .int .i64 0] 28 := At.set dR2 0 (.int .i64 K) (by simp)
  have tc1 : (w2.setCell ⟨BR, 0, none⟩ (.int .i64 K)).cell? ⟨BR, 1, none⟩ = some (.bool false) := ts0.cell 1 rfl
  have tf1 : (w2.setCell ⟨BR, 0, none⟩ (.int .i64 K)).frozen? ⟨BR, 1, none⟩ = false := At.free ts0 1
  have ts1 : At ((w2.setCell ⟨BR, 0, none⟩ (.int .i64 K)).setCell ⟨BR, 1, none⟩ (.bool xno)) BR #[.int .i64 K, .bool xno, .int .i64 0, .int .i64 0, .int .i64 0, .int .i64 0] 28 := At.set ts0 1 (.bool xno) (by simp)
  have tc2 : ((w2.setCell ⟨BR, 0, none⟩ (.int .i64 K)).setCell ⟨BR, 1, none⟩ (.bool xno)).cell? ⟨BR, 2, none⟩ = some (.int .i64 0) := ts1.cell 2 rfl
  have tf2 : ((w2.setCell ⟨BR, 0, none⟩ (.int .i64 K)).setCell ⟨BR, 1, none⟩ (.bool xno)).frozen? ⟨BR, 2, none⟩ = false := At.free ts1 2
  have ts2 : At (((w2.setCell ⟨BR, 0, none⟩ (.int .i64 K)).setCell ⟨BR, 1, none⟩ (.bool xno)).setCell ⟨BR, 2, none⟩ (.int .i64 xl)) BR #[.int .i64 K, .bool xno, .int .i64 xl, .int .i64 0, .int .i64 0, .int .i64 0] 28 := At.set ts1 2 (.int .i64 xl) (by simp)
  have tc3 : (((w2.setCell ⟨BR, 0, none⟩ (.int .i64 K)).setCell ⟨BR, 1, none⟩ (.bool xno)).setCell ⟨BR, 2, none⟩ (.int .i64 xl)).cell? ⟨BR, 3, none⟩ = some (.int .i64 0) := ts2.cell 3 rfl
  have tf3 : (((w2.setCell ⟨BR, 0, none⟩ (.int .i64 K)).setCell ⟨BR, 1, none⟩ (.bool xno)).setCell ⟨BR, 2, none⟩ (.int .i64 xl)).frozen? ⟨BR, 3, none⟩ = false := At.free ts2 3
  have ts3 : At ((((w2.setCell ⟨BR, 0, none⟩ (.int .i64 K)).setCell ⟨BR, 1, none⟩ (.bool xno)).setCell ⟨BR, 2, none⟩ (.int .i64 xl)).setCell ⟨BR, 3, none⟩ (.int .i64 xh)) BR #[.int .i64 K, .bool xno, .int .i64 xl, .int .i64 xh, .int .i64 0, .int .i64 0] 28 := At.set ts2 3 (.int .i64 xh) (by simp)
  have tc4 : ((((w2.setCell ⟨BR, 0, none⟩ (.int .i64 K)).setCell ⟨BR, 1, none⟩ (.bool xno)).setCell ⟨BR, 2, none⟩ (.int .i64 xl)).setCell ⟨BR, 3, none⟩ (.int .i64 xh)).cell? ⟨BR, 4, none⟩ = some (.int .i64 0) := ts3.cell 4 rfl
  have tf4 : ((((w2.setCell ⟨BR, 0, none⟩ (.int .i64 K)).setCell ⟨BR, 1, none⟩ (.bool xno)).setCell ⟨BR, 2, none⟩ (.int .i64 xl)).setCell ⟨BR, 3, none⟩ (.int .i64 xh)).frozen? ⟨BR, 4, none⟩ = false := At.free ts3 4
  have ts4 : At (((((w2.setCell ⟨BR, 0, none⟩ (.int .i64 K)).setCell ⟨BR, 1, none⟩ (.bool xno)).setCell ⟨BR, 2, none⟩ (.int .i64 xl)).setCell ⟨BR, 3, none⟩ (.int .i64 xh)).setCell ⟨BR, 4, none⟩ (.int .i64 xf)) BR #[.int .i64 K, .bool xno, .int .i64 xl, .int .i64 xh, .int .i64 xf, .int .i64 0] 28 := At.set ts3 4 (.int .i64 xf) (by simp)
  have tc5 : (((((w2.setCell ⟨BR, 0, none⟩ (.int .i64 K)).setCell ⟨BR, 1, none⟩ (.bool xno)).setCell ⟨BR, 2, none⟩ (.int .i64 xl)).setCell ⟨BR, 3, none⟩ (.int .i64 xh)).setCell ⟨BR, 4, none⟩ (.int .i64 xf)).cell? ⟨BR, 5, none⟩ = some (.int .i64 0) := ts4.cell 5 rfl
  have tf5 : (((((w2.setCell ⟨BR, 0, none⟩ (.int .i64 K)).setCell ⟨BR, 1, none⟩ (.bool xno)).setCell ⟨BR, 2, none⟩ (.int .i64 xl)).setCell ⟨BR, 3, none⟩ (.int .i64 xh)).setCell ⟨BR, 4, none⟩ (.int .i64 xf)).frozen? ⟨BR, 5, none⟩ = false := At.free ts4 5
  have ts5 : At ((((((w2.setCell ⟨BR, 0, none⟩ (.int .i64 K)).setCell ⟨BR, 1, none⟩ (.bool xno)).setCell ⟨BR, 2, none⟩ (.int .i64 xl)).setCell ⟨BR, 3, none⟩ (.int .i64 xh)).setCell ⟨BR, 4, none⟩ (.int .i64 xf)).setCell ⟨BR, 5, none⟩ (.int .i64 xb)) BR #[.int .i64 K, .bool xno, .int .i64 xl, .int .i64 xh, .int .i64 xf, .int .i64 xb] 28 := At.set ts4 5 (.int .i64 xb) (by simp)
  have hbH : Below w.heap.size w ((((((w2.setCell ⟨BR, 0, none⟩ (.int .i64 K)).setCell ⟨BR, 1, none⟩ (.bool xno)).setCell ⟨BR, 2, none⟩ (.int .i64 xl)).setCell ⟨BR, 3, none⟩ (.int .i64 xh)).setCell ⟨BR, 4, none⟩ (.int .i64 xf)).setCell ⟨BR, 5, none⟩ (.int .i64 xb)) := ((((((hbG.setCell (p := ⟨BR, 0, none⟩) (by show w.heap.size ≤ BR; omega) (.int .i64 K)).setCell (p := ⟨BR, 1, none⟩) (by show w.heap.size ≤ BR; omega) (.bool xno)).setCell (p := ⟨BR, 2, none⟩) (by show w.heap.size ≤ BR; omega) (.int .i64 xl)).setCell (p := ⟨BR, 3, none⟩) (by show w.heap.size ≤ BR; omega) (.int .i64 xh)).setCell (p := ⟨BR, 4, none⟩) (by show w.heap.size ≤ BR; omega) (.int .i64 xf)).setCell (p := ⟨BR, 5, none⟩) (by show w.heap.size ≤ BR; omega) (.int .i64 xb))
  have g0 : ((((((w2.setCell ⟨BR, 0, none⟩ (.int .i64 K)).setCell ⟨BR, 1, none⟩ (.bool xno)).setCell ⟨BR, 2, none⟩ (.int .i64 xl)).setCell ⟨BR, 3, none⟩ (.int .i64 xh)).setCell ⟨BR, 4, none⟩ (.int .i64 xf)).setCell ⟨BR, 5, none⟩ (.int .i64 xb)).cell? ⟨BR, 0, none⟩ = some (.int .i64 K) := ts5.cell 0 rfl
  have g1 : ((((((w2.setCell ⟨BR, 0, none⟩ (.int .i64 K)).setCell ⟨BR, 1, none⟩ (.bool xno)).setCell ⟨BR, 2, none⟩ (.int .i64 xl)).setCell ⟨BR, 3, none⟩ (.int .i64 xh)).setCell ⟨BR, 4, none⟩ (.int .i64 xf)).setCell ⟨BR, 5, none⟩ (.int .i64 xb)).cell? ⟨BR, 1, none⟩ = some (.bool xno) := ts5.cell 1 rfl
  have g2 : ((((((w2.setCell ⟨BR, 0, none⟩ (.int .i64 K)).setCell ⟨BR, 1, none⟩ (.bool xno)).setCell ⟨BR, 2, none⟩ (.int .i64 xl)).setCell ⟨BR, 3, none⟩ (.int .i64 xh)).setCell ⟨BR, 4, none⟩ (.int .i64 xf)).setCell ⟨BR, 5, none⟩ (.int .i64 xb)).cell? ⟨BR, 2, none⟩ = some (.int .i64 xl) := ts5.cell 2 rfl
  have g3 : ((((((w2.setCell ⟨BR, 0, none⟩ (.int .i64 K)).setCell ⟨BR, 1, none⟩ (.bool xno)).setCell ⟨BR, 2, none⟩ (.int .i64 xl)).setCell ⟨BR, 3, none⟩ (.int .i64 xh)).setCell ⟨BR, 4, none⟩ (.int .i64 xf)).setCell ⟨BR, 5, none⟩ (.int .i64 xb)).cell? ⟨BR, 3, none⟩ = some (.int .i64 xh) := ts5.cell 3 rfl
  have g4 : ((((((w2.setCell ⟨BR, 0, none⟩ (.int .i64 K)).setCell ⟨BR, 1, none⟩ (.bool xno)).setCell ⟨BR, 2, none⟩ (.int .i64 xl)).setCell ⟨BR, 3, none⟩ (.int .i64 xh)).setCell ⟨BR, 4, none⟩ (.int .i64 xf)).setCell ⟨BR, 5, none⟩ (.int .i64 xb)).cell? ⟨BR, 4, none⟩ = some (.int .i64 xf) := ts5.cell 4 rfl
  have g5 : ((((((w2.setCell ⟨BR, 0, none⟩ (.int .i64 K)).setCell ⟨BR, 1, none⟩ (.bool xno)).setCell ⟨BR, 2, none⟩ (.int .i64 xl)).setCell ⟨BR, 3, none⟩ (.int .i64 xh)).setCell ⟨BR, 4, none⟩ (.int .i64 xf)).setCell ⟨BR, 5, none⟩ (.int .i64 xb)).cell? ⟨BR, 5, none⟩ = some (.int .i64 xb) := ts5.cell 5 rfl
  clear dX dR2 hbG ts0 ts1 ts2 ts3 ts4 ts5
  go_wp2_with fail
  exact bodyPost_ret (v := valV K xno xl xh xf xb) (by simp [results, Tryz.results31, go_sem, g0, g1, g2, g3, g4, g5]) rfl ⟨xno, xl, xh, xf, xb, rfl, okX, hmX, X1.out, X2.out, X3.out, hbH⟩
set_option maxRecDepth 100000 in
set_option maxHeartbeats 1600000 in
theorem ftop_any (sb K : Nat) (hK : isWn K) (no : Bool) (l h f b : Int) (TT : Nat) (hT : TT + 1 = 2 ^ K) (w : World) (hA : At w sb (fopC K no l h f b) 80) :
    Calls Tryz.prog 47 #[.pointer (some ⟨sb, 0, none⟩)] w fun e w' => e = .returned (.int .i64 TT) ∧ w = w' := by
  have p0 : w.cell? ⟨sb, 0, none⟩ = some (.int .i64 K) := hA.cell 0 rfl
  rcases hK with rfl | rfl | rfl
  · obtain rfl : TT = 255 := by omega
    go_enter Tryz.func47, Tryz.ntmps47
    go_wp2_with fail
    go_ret
    exact ⟨rfl, rfl⟩
  · obtain rfl : TT = 65535 := by omega
    go_enter Tryz.func47, Tryz.ntmps47
    go_wp2_with fail
    go_ret
    exact ⟨rfl, rfl⟩
  · obtain rfl : TT = 4294967295 := by omega
    go_enter Tryz.func47, Tryz.ntmps47
    go_wp2_with fail
    go_ret
    exact ⟨rfl, rfl⟩
set_option maxRecDepth 100000 in
set_option maxHeartbeats 1600000 in
theorem frow_1 (sb K : Nat) (hK : isWn K) (no : Bool) (l h f b : Int) (TT : Nat) (hT : TT + 1 = 2 ^ K) (w : World) (hA : At w sb (fopC K no l h f b) 80) :
    Calls Tryz.prog 32 #[.pointer (some ⟨sb, 0, none⟩), .int .i64 1, .int .i64 (-1)] w fun e w' => e = .returned (valV K false 1 TT TT 0) ∧ Below w.heap.size w w' := by
  have cT := fun w hA => ftop_any sb K hK no l h f b TT hT w hA
  have p0 : w.cell? ⟨sb, 0, none⟩ = some (.int .i64 K) := hA.cell 0 rfl
  have hm : ∀ n : Int, bits .and .i64 n (TT : Int) = n % ((2 ^ K : Nat) : Int) := fun n => by
    have hTe : (TT : Int) = ((2 ^ K : Nat) : Int) - 1 := by omega
    rw [hTe]
    exact mask_mod (by rcases hK with rfl | rfl | rfl <;> decide) n
  have e1 : bits .and .i64 1 (TT : Int) = 1 := by rw [hm]; rcases hK with rfl | rfl | rfl <;> decide
  have e2 : bits .and .i64 (-1) (TT : Int) = (TT : Int) := by rw [hm]; rcases hK with rfl | rfl | rfl <;> omega
  have hA1 : At (w.alloc (.cells #[.int .i64 0, .bool false, .int .i64 0, .int .i64 0, .int .i64 0, .int .i64 0] 28)).drew sb (fopC K no l h f b) 80 := (At.alloc hA _).drew
  have c0 : (w.alloc (.cells #[.int .i64 0, .bool false, .int .i64 0, .int .i64 0, .int .i64 0, .int .i64 0] 28)).cell? ⟨sb, 0, none⟩ = some (.int .i64 K) := (At.alloc hA _).cell 0 rfl
  have hbn : Below w.heap.size w (w.alloc (.cells #[.int .i64 K, .bool false, .int .i64 1, .int .i64 TT, .int .i64 TT, .int .i64 0] 28)) := (Below.refl _ _).alloc (Nat.le_refl _) _
  clear hA p0 hm hT hK
  go_enter Tryz.func32, Tryz.ntmps32
  go_wp2_with fail
  go_region_with ((go_at_call 47; refine (cT _ hA1).mono ?_; rintro e w' ⟨rfl, rfl⟩))
  all_goals
    go_wp2_with fail
    exact bodyPost_ret (v := valV K false 1 TT TT 0) (by simp [results, Tryz.results32, go_sem]) rfl ⟨rfl, hbn.drew⟩
end Go.Proofs.YtdbbfcnblgokpaaGreatDoor
