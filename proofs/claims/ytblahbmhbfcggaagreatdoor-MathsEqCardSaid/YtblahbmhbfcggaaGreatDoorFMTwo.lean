/- Package maths: Two of EEq, from what is handed in to what is told. -/
import Derived.Test.YtblahbmhbfcggaaGreatDoorFTwo
import Derived.Deep.CutRange
import Derived.Deep.RegionHeld3
namespace Go.Proofs.YtblahbmhbfcggaaGreatDoor
open Go.ChangeShapes Go.WideShapes Go.ChangeAt Go.RowKit Go.Joins Go.Deep
set_option linter.unusedVariables false

theorem keep12_alloc {w : World} {p0 p1 p2 p3 p4 p5 p6 p7 p8 p9 p10 p11 : Addr} {v0 v1 v2 v3 v4 v5 v6 v7 v8 v9 v10 v11 : Value} (h : w.cell? p0 = some v0 ∧ w.cell? p1 = some v1 ∧ w.cell? p2 = some v2 ∧ w.cell? p3 = some v3 ∧ w.cell? p4 = some v4 ∧ w.cell? p5 = some v5 ∧ w.cell? p6 = some v6 ∧ w.cell? p7 = some v7 ∧ w.cell? p8 = some v8 ∧ w.cell? p9 = some v9 ∧ w.cell? p10 = some v10 ∧ w.cell? p11 = some v11) (o : Obj) : (w.alloc o).cell? p0 = some v0 ∧ (w.alloc o).cell? p1 = some v1 ∧ (w.alloc o).cell? p2 = some v2 ∧ (w.alloc o).cell? p3 = some v3 ∧ (w.alloc o).cell? p4 = some v4 ∧ (w.alloc o).cell? p5 = some v5 ∧ (w.alloc o).cell? p6 = some v6 ∧ (w.alloc o).cell? p7 = some v7 ∧ (w.alloc o).cell? p8 = some v8 ∧ (w.alloc o).cell? p9 = some v9 ∧ (w.alloc o).cell? p10 = some v10 ∧ (w.alloc o).cell? p11 = some v11 := ⟨cell_alloc (h.1) o, cell_alloc (h.2.1) o, cell_alloc (h.2.2.1) o, cell_alloc (h.2.2.2.1) o, cell_alloc (h.2.2.2.2.1) o, cell_alloc (h.2.2.2.2.2.1) o, cell_alloc (h.2.2.2.2.2.2.1) o, cell_alloc (h.2.2.2.2.2.2.2.1) o, cell_alloc (h.2.2.2.2.2.2.2.2.1) o, cell_alloc (h.2.2.2.2.2.2.2.2.2.1) o, cell_alloc (h.2.2.2.2.2.2.2.2.2.2.1) o, cell_alloc (h.2.2.2.2.2.2.2.2.2.2.2) o⟩
theorem keep12_below {w w' : World} {p0 p1 p2 p3 p4 p5 p6 p7 p8 p9 p10 p11 : Addr} {v0 v1 v2 v3 v4 v5 v6 v7 v8 v9 v10 v11 : Value} (h : w.cell? p0 = some v0 ∧ w.cell? p1 = some v1 ∧ w.cell? p2 = some v2 ∧ w.cell? p3 = some v3 ∧ w.cell? p4 = some v4 ∧ w.cell? p5 = some v5 ∧ w.cell? p6 = some v6 ∧ w.cell? p7 = some v7 ∧ w.cell? p8 = some v8 ∧ w.cell? p9 = some v9 ∧ w.cell? p10 = some v10 ∧ w.cell? p11 = some v11) (hb : Below w.heap.size w w') : w'.cell? p0 = some v0 ∧ w'.cell? p1 = some v1 ∧ w'.cell? p2 = some v2 ∧ w'.cell? p3 = some v3 ∧ w'.cell? p4 = some v4 ∧ w'.cell? p5 = some v5 ∧ w'.cell? p6 = some v6 ∧ w'.cell? p7 = some v7 ∧ w'.cell? p8 = some v8 ∧ w'.cell? p9 = some v9 ∧ w'.cell? p10 = some v10 ∧ w'.cell? p11 = some v11 := ⟨cell_below (h.1) hb, cell_below (h.2.1) hb, cell_below (h.2.2.1) hb, cell_below (h.2.2.2.1) hb, cell_below (h.2.2.2.2.1) hb, cell_below (h.2.2.2.2.2.1) hb, cell_below (h.2.2.2.2.2.2.1) hb, cell_below (h.2.2.2.2.2.2.2.1) hb, cell_below (h.2.2.2.2.2.2.2.2.1) hb, cell_below (h.2.2.2.2.2.2.2.2.2.1) hb, cell_below (h.2.2.2.2.2.2.2.2.2.2.1) hb, cell_below (h.2.2.2.2.2.2.2.2.2.2.2) hb⟩
theorem keepS_set {w : World} {xa xb0 B j : Nat} {x : Value} {K l h f b l2 h2 f2 b2 : Nat} {no no2 : Bool} (hh : w.cell? ⟨xa, 3, none⟩ = some (.int .i64 K) ∧ w.cell? ⟨xa, 4, none⟩ = some (.bool no) ∧ w.cell? ⟨xa, 5, none⟩ = some (.int .i64 l) ∧ w.cell? ⟨xa, 6, none⟩ = some (.int .i64 h) ∧ w.cell? ⟨xa, 7, none⟩ = some (.int .i64 f) ∧ w.cell? ⟨xa, 8, none⟩ = some (.int .i64 b) ∧ w.cell? ⟨xb0, 3, none⟩ = some (.int .i64 K) ∧ w.cell? ⟨xb0, 4, none⟩ = some (.bool no2) ∧ w.cell? ⟨xb0, 5, none⟩ = some (.int .i64 l2) ∧ w.cell? ⟨xb0, 6, none⟩ = some (.int .i64 h2) ∧ w.cell? ⟨xb0, 7, none⟩ = some (.int .i64 f2) ∧ w.cell? ⟨xb0, 8, none⟩ = some (.int .i64 b2)) (gg1 : xa ≠ B) (gg2 : xb0 ≠ B) : (w.setCell ⟨B, j, none⟩ x).cell? ⟨xa, 3, none⟩ = some (.int .i64 K) ∧ (w.setCell ⟨B, j, none⟩ x).cell? ⟨xa, 4, none⟩ = some (.bool no) ∧ (w.setCell ⟨B, j, none⟩ x).cell? ⟨xa, 5, none⟩ = some (.int .i64 l) ∧ (w.setCell ⟨B, j, none⟩ x).cell? ⟨xa, 6, none⟩ = some (.int .i64 h) ∧ (w.setCell ⟨B, j, none⟩ x).cell? ⟨xa, 7, none⟩ = some (.int .i64 f) ∧ (w.setCell ⟨B, j, none⟩ x).cell? ⟨xa, 8, none⟩ = some (.int .i64 b) ∧ (w.setCell ⟨B, j, none⟩ x).cell? ⟨xb0, 3, none⟩ = some (.int .i64 K) ∧ (w.setCell ⟨B, j, none⟩ x).cell? ⟨xb0, 4, none⟩ = some (.bool no2) ∧ (w.setCell ⟨B, j, none⟩ x).cell? ⟨xb0, 5, none⟩ = some (.int .i64 l2) ∧ (w.setCell ⟨B, j, none⟩ x).cell? ⟨xb0, 6, none⟩ = some (.int .i64 h2) ∧ (w.setCell ⟨B, j, none⟩ x).cell? ⟨xb0, 7, none⟩ = some (.int .i64 f2) ∧ (w.setCell ⟨B, j, none⟩ x).cell? ⟨xb0, 8, none⟩ = some (.int .i64 b2) := ⟨cell_set (hh.1) gg1, cell_set (hh.2.1) gg1, cell_set (hh.2.2.1) gg1, cell_set (hh.2.2.2.1) gg1, cell_set (hh.2.2.2.2.1) gg1, cell_set (hh.2.2.2.2.2.1) gg1, cell_set (hh.2.2.2.2.2.2.1) gg2, cell_set (hh.2.2.2.2.2.2.2.1) gg2, cell_set (hh.2.2.2.2.2.2.2.2.1) gg2, cell_set (hh.2.2.2.2.2.2.2.2.2.1) gg2, cell_set (hh.2.2.2.2.2.2.2.2.2.2.1) gg2, cell_set (hh.2.2.2.2.2.2.2.2.2.2.2) gg2⟩
def Res1 (A : Nat → Prop) (is1 : Bool) (n1 : Int) : Prop := (is1 = true ∧ ∃ m : Nat, n1 = (m : Int) ∧ ∀ z, A z ↔ z = m) ∨ (is1 = false ∧ ∀ m : Nat, ¬ ∀ z, A z ↔ z = m)
set_option maxRecDepth 100000 in
set_option maxHeartbeats 1600000 in
theorem mequal_any (bw xa xb0 : Nat) (kd W : Int) (sg : Bool) (K : Nat) (no : Bool) (l h f b : Nat) (no2 : Bool) (l2 h2 f2 b2 : Nat) (okA : ValOk K no l h f b) (okB : ValOk K no2 l2 h2 f2 b2) (hmA : mayB K no l h f b = true) (hmB : mayB K no2 l2 h2 f2 b2 = true)
    (hne : ∃ z, MemV K no l h f b z) (hne2 : ∃ z, MemV K no2 l2 h2 f2 b2 z) (w : World) (hA : OpNew w xa kd K no l h f b) (hB : OpNew w xb0 kd K no2 l2 h2 f2 b2) (hW : WkAt w bw kd W sg true 0 0 0 0) :
    Calls Tryz.prog 61 #[.pointer (some ⟨bw, 0, none⟩), .pointer (some ⟨xa, 0, none⟩), .pointer (some ⟨xb0, 0, none⟩)] w fun e w' => e = .returned (.tuple #[]) ∧ Tells w' bw kd W sg (EqTold (MemV K no l h f b) (MemV K no2 l2 h2 f2 b2)) ∧ Keeps bw w w' := by
  have NE := Lib.hid hne
  have NE2 := Lib.hid hne2
  have p0 : w.cell? ⟨xa, 3, none⟩ = some (.int .i64 K) := hA.cell 3 rfl
  have p1 : w.cell? ⟨xa, 4, none⟩ = some (.bool no) := hA.cell 4 rfl
  have p2 : w.cell? ⟨xa, 5, none⟩ = some (.int .i64 l) := hA.cell 5 rfl
  have p3 : w.cell? ⟨xa, 6, none⟩ = some (.int .i64 h) := hA.cell 6 rfl
  have p4 : w.cell? ⟨xa, 7, none⟩ = some (.int .i64 f) := hA.cell 7 rfl
  have p5 : w.cell? ⟨xa, 8, none⟩ = some (.int .i64 b) := hA.cell 8 rfl
  have q0 : w.cell? ⟨xb0, 3, none⟩ = some (.int .i64 K) := hB.cell 3 rfl
  have q1 : w.cell? ⟨xb0, 4, none⟩ = some (.bool no2) := hB.cell 4 rfl
  have q2 : w.cell? ⟨xb0, 5, none⟩ = some (.int .i64 l2) := hB.cell 5 rfl
  have q3 : w.cell? ⟨xb0, 6, none⟩ = some (.int .i64 h2) := hB.cell 6 rfl
  have q4 : w.cell? ⟨xb0, 7, none⟩ = some (.int .i64 f2) := hB.cell 7 rfl
  have q5 : w.cell? ⟨xb0, 8, none⟩ = some (.int .i64 b2) := hB.cell 8 rfl
  have cM := fun w => Meet_yes meet_holds K no l h f b no2 l2 h2 f2 b2 okA okB hmA hmB w
  go_enter Tryz.func61, Tryz.ntmps61
  go_upto_region 0 with (fail)
  go_cut [6, 7] from 13 to 24 (fun v6 v7 wx => ∃ BX xno xl xh xf xb, v6 = .pointer (some ⟨BX, 0, none⟩) ∧ At wx BX #[.int .i64 K, .bool xno, .int .i64 (xl : Nat), .int .i64 (xh : Nat), .int .i64 (xf : Nat), .int .i64 (xb : Nat)] 30 ∧ ValOk K xno xl xh xf xb ∧ mayB K xno xl xh xf xb = true ∧ (∀ z, MemV K no l h f b z → MemV K no2 l2 h2 f2 b2 z → MemV K xno xl xh xf xb z) ∧ ((∀ z, ¬ (MemV K no l h f b z ∧ MemV K no2 l2 h2 f2 b2 z)) → ∀ z, ¬ MemV K xno xl xh xf xb z) ∧ Below w.heap.size w wx)
  case first =>
    have hbw := Below.refl w.heap.size w
    have hbz := (Below.refl w.heap.size w).alloc (Nat.le_refl _) (.cells #[.int .i64 0, .bool false, .int .i64 0, .int .i64 0, .int .i64 0, .int .i64 0] 30)
    have hna : xa ≠ w.heap.size := Nat.ne_of_lt (At.lt hA)
    have hnb : xb0 ≠ w.heap.size := Nat.ne_of_lt (At.lt hB)
    have DZ0 := Lib.hid (At.new w #[.int .i64 0, .bool false, .int .i64 0, .int .i64 0, .int .i64 0, .int .i64 0] 30)
    clear hA hB hW okA okB hmA hmB hne hne2
    have hS : w.cell? ⟨xa, 3, none⟩ = some (.int .i64 K) ∧ w.cell? ⟨xa, 4, none⟩ = some (.bool no) ∧ w.cell? ⟨xa, 5, none⟩ = some (.int .i64 l) ∧ w.cell? ⟨xa, 6, none⟩ = some (.int .i64 h) ∧ w.cell? ⟨xa, 7, none⟩ = some (.int .i64 f) ∧ w.cell? ⟨xa, 8, none⟩ = some (.int .i64 b) ∧ w.cell? ⟨xb0, 3, none⟩ = some (.int .i64 K) ∧ w.cell? ⟨xb0, 4, none⟩ = some (.bool no2) ∧ w.cell? ⟨xb0, 5, none⟩ = some (.int .i64 l2) ∧ w.cell? ⟨xb0, 6, none⟩ = some (.int .i64 h2) ∧ w.cell? ⟨xb0, 7, none⟩ = some (.int .i64 f2) ∧ w.cell? ⟨xb0, 8, none⟩ = some (.int .i64 b2) := ⟨p0, p1, p2, p3, p4, p5, q0, q1, q2, q3, q4, q5⟩
    clear p0 q0 p1 q1 p2 q2 p3 q3 p4 q4 p5 q5
    have hSd : w.drew.cell? ⟨xa, 3, none⟩ = some (.int .i64 K) ∧ w.drew.cell? ⟨xa, 4, none⟩ = some (.bool no) ∧ w.drew.cell? ⟨xa, 5, none⟩ = some (.int .i64 l) ∧ w.drew.cell? ⟨xa, 6, none⟩ = some (.int .i64 h) ∧ w.drew.cell? ⟨xa, 7, none⟩ = some (.int .i64 f) ∧ w.drew.cell? ⟨xa, 8, none⟩ = some (.int .i64 b) ∧ w.drew.cell? ⟨xb0, 3, none⟩ = some (.int .i64 K) ∧ w.drew.cell? ⟨xb0, 4, none⟩ = some (.bool no2) ∧ w.drew.cell? ⟨xb0, 5, none⟩ = some (.int .i64 l2) ∧ w.drew.cell? ⟨xb0, 6, none⟩ = some (.int .i64 h2) ∧ w.drew.cell? ⟨xb0, 7, none⟩ = some (.int .i64 f2) ∧ w.drew.cell? ⟨xb0, 8, none⟩ = some (.int .i64 b2) := hS
    have hSZd : (w.alloc (.cells #[.int .i64 0, .bool false, .int .i64 0, .int .i64 0, .int .i64 0, .int .i64 0] 30)).drew.cell? ⟨xa, 3, none⟩ = some (.int .i64 K) ∧ (w.alloc (.cells #[.int .i64 0, .bool false, .int .i64 0, .int .i64 0, .int .i64 0, .int .i64 0] 30)).drew.cell? ⟨xa, 4, none⟩ = some (.bool no) ∧ (w.alloc (.cells #[.int .i64 0, .bool false, .int .i64 0, .int .i64 0, .int .i64 0, .int .i64 0] 30)).drew.cell? ⟨xa, 5, none⟩ = some (.int .i64 l) ∧ (w.alloc (.cells #[.int .i64 0, .bool false, .int .i64 0, .int .i64 0, .int .i64 0, .int .i64 0] 30)).drew.cell? ⟨xa, 6, none⟩ = some (.int .i64 h) ∧ (w.alloc (.cells #[.int .i64 0, .bool false, .int .i64 0, .int .i64 0, .int .i64 0, .int .i64 0] 30)).drew.cell? ⟨xa, 7, none⟩ = some (.int .i64 f) ∧ (w.alloc (.cells #[.int .i64 0, .bool false, .int .i64 0, .int .i64 0, .int .i64 0, .int .i64 0] 30)).drew.cell? ⟨xa, 8, none⟩ = some (.int .i64 b) ∧ (w.alloc (.cells #[.int .i64 0, .bool false, .int .i64 0, .int .i64 0, .int .i64 0, .int .i64 0] 30)).drew.cell? ⟨xb0, 3, none⟩ = some (.int .i64 K) ∧ (w.alloc (.cells #[.int .i64 0, .bool false, .int .i64 0, .int .i64 0, .int .i64 0, .int .i64 0] 30)).drew.cell? ⟨xb0, 4, none⟩ = some (.bool no2) ∧ (w.alloc (.cells #[.int .i64 0, .bool false, .int .i64 0, .int .i64 0, .int .i64 0, .int .i64 0] 30)).drew.cell? ⟨xb0, 5, none⟩ = some (.int .i64 l2) ∧ (w.alloc (.cells #[.int .i64 0, .bool false, .int .i64 0, .int .i64 0, .int .i64 0, .int .i64 0] 30)).drew.cell? ⟨xb0, 6, none⟩ = some (.int .i64 h2) ∧ (w.alloc (.cells #[.int .i64 0, .bool false, .int .i64 0, .int .i64 0, .int .i64 0, .int .i64 0] 30)).drew.cell? ⟨xb0, 7, none⟩ = some (.int .i64 f2) ∧ (w.alloc (.cells #[.int .i64 0, .bool false, .int .i64 0, .int .i64 0, .int .i64 0, .int .i64 0] 30)).drew.cell? ⟨xb0, 8, none⟩ = some (.int .i64 b2) := keep12_alloc hS _
    clear hS
    go_region_held3 (fun w' => w'.cell? ⟨xa, 3, none⟩ = some (.int .i64 K) ∧ w'.cell? ⟨xa, 4, none⟩ = some (.bool no) ∧ w'.cell? ⟨xa, 5, none⟩ = some (.int .i64 l) ∧ w'.cell? ⟨xa, 6, none⟩ = some (.int .i64 h) ∧ w'.cell? ⟨xa, 7, none⟩ = some (.int .i64 f) ∧ w'.cell? ⟨xa, 8, none⟩ = some (.int .i64 b) ∧ w'.cell? ⟨xb0, 3, none⟩ = some (.int .i64 K) ∧ w'.cell? ⟨xb0, 4, none⟩ = some (.bool no2) ∧ w'.cell? ⟨xb0, 5, none⟩ = some (.int .i64 l2) ∧ w'.cell? ⟨xb0, 6, none⟩ = some (.int .i64 h2) ∧ w'.cell? ⟨xb0, 7, none⟩ = some (.int .i64 f2) ∧ w'.cell? ⟨xb0, 8, none⟩ = some (.int .i64 b2))
      (first
        | with_reducible exact hSd
        | with_reducible exact hSZd
        | with_reducible exact keep12_below hSd HB1.out
        | with_reducible exact keep12_below hSZd HB1.out
        | with_reducible exact keep12_alloc (keep12_below hSd HB1.out) _
        | with_reducible exact keepS_set (keepS_set (keepS_set (keepS_set (keepS_set (keepS_set (keep12_below hSZd HB1.out) hna hnb) hna hnb) hna hnb) hna hnb) hna hnb) hna hnb)
      ((go_at_call 92; refine (cM _).mono ?_; rintro e w1 ⟨xno, xl, xh, xf, xb, rfl, okX, hmX, x1, x2, x3, hb1⟩
        have X1 := Lib.hid x1
        have X3 := Lib.hid x3
        have HB1 := Lib.hid hb1
        clear x1 x2 x3
        try (have dZ : At w1 w.heap.size #[.int .i64 0, .bool false, .int .i64 0, .int .i64 0, .int .i64 0, .int .i64 0] 30 := At.below' hb1 DZ0.out.drew
             have tc0 : w1.cell? ⟨w.heap.size, 0, none⟩ = some (.int .i64 0) := dZ.cell 0 rfl
             have tf0 : w1.frozen? ⟨w.heap.size, 0, none⟩ = false := At.free dZ 0
             have ts0 : At (w1.setCell ⟨w.heap.size, 0, none⟩ (.int .i64 K)) w.heap.size #[.int .i64 K, .bool false, .int .i64 0, .int .i64 0, .int .i64 0, .int .i64 0] 30 := At.set dZ 0 (.int .i64 K) (by simp)
             have tc1 : (w1.setCell ⟨w.heap.size, 0, none⟩ (.int .i64 K)).cell? ⟨w.heap.size, 1, none⟩ = some (.bool false) := ts0.cell 1 rfl
             have tf1 : (w1.setCell ⟨w.heap.size, 0, none⟩ (.int .i64 K)).frozen? ⟨w.heap.size, 1, none⟩ = false := At.free ts0 1
             have ts1 : At ((w1.setCell ⟨w.heap.size, 0, none⟩ (.int .i64 K)).setCell ⟨w.heap.size, 1, none⟩ (.bool xno)) w.heap.size #[.int .i64 K, .bool xno, .int .i64 0, .int .i64 0, .int .i64 0, .int .i64 0] 30 := At.set ts0 1 (.bool xno) (by simp)
             have tc2 : ((w1.setCell ⟨w.heap.size, 0, none⟩ (.int .i64 K)).setCell ⟨w.heap.size, 1, none⟩ (.bool xno)).cell? ⟨w.heap.size, 2, none⟩ = some (.int .i64 0) := ts1.cell 2 rfl
             have tf2 : ((w1.setCell ⟨w.heap.size, 0, none⟩ (.int .i64 K)).setCell ⟨w.heap.size, 1, none⟩ (.bool xno)).frozen? ⟨w.heap.size, 2, none⟩ = false := At.free ts1 2
             have ts2 : At (((w1.setCell ⟨w.heap.size, 0, none⟩ (.int .i64 K)).setCell ⟨w.heap.size, 1, none⟩ (.bool xno)).setCell ⟨w.heap.size, 2, none⟩ (.int .i64 xl)) w.heap.size #[.int .i64 K, .bool xno, .int .i64 xl, .int .i64 0, .int .i64 0, .int .i64 0] 30 := At.set ts1 2 (.int .i64 xl) (by simp)
             have tc3 : (((w1.setCell ⟨w.heap.size, 0, none⟩ (.int .i64 K)).setCell ⟨w.heap.size, 1, none⟩ (.bool xno)).setCell ⟨w.heap.size, 2, none⟩ (.int .i64 xl)).cell? ⟨w.heap.size, 3, none⟩ = some (.int .i64 0) := ts2.cell 3 rfl
             have tf3 : (((w1.setCell ⟨w.heap.size, 0, none⟩ (.int .i64 K)).setCell ⟨w.heap.size, 1, none⟩ (.bool xno)).setCell ⟨w.heap.size, 2, none⟩ (.int .i64 xl)).frozen? ⟨w.heap.size, 3, none⟩ = false := At.free ts2 3
             have ts3 : At ((((w1.setCell ⟨w.heap.size, 0, none⟩ (.int .i64 K)).setCell ⟨w.heap.size, 1, none⟩ (.bool xno)).setCell ⟨w.heap.size, 2, none⟩ (.int .i64 xl)).setCell ⟨w.heap.size, 3, none⟩ (.int .i64 xh)) w.heap.size #[.int .i64 K, .bool xno, .int .i64 xl, .int .i64 xh, .int .i64 0, .int .i64 0] 30 := At.set ts2 3 (.int .i64 xh) (by simp)
             have tc4 : ((((w1.setCell ⟨w.heap.size, 0, none⟩ (.int .i64 K)).setCell ⟨w.heap.size, 1, none⟩ (.bool xno)).setCell ⟨w.heap.size, 2, none⟩ (.int .i64 xl)).setCell ⟨w.heap.size, 3, none⟩ (.int .i64 xh)).cell? ⟨w.heap.size, 4, none⟩ = some (.int .i64 0) := ts3.cell 4 rfl
             have tf4 : ((((w1.setCell ⟨w.heap.size, 0, none⟩ (.int .i64 K)).setCell ⟨w.heap.size, 1, none⟩ (.bool xno)).setCell ⟨w.heap.size, 2, none⟩ (.int .i64 xl)).setCell ⟨w.heap.size, 3, none⟩ (.int .i64 xh)).frozen? ⟨w.heap.size, 4, none⟩ = false := At.free ts3 4
             have ts4 : At (((((w1.setCell ⟨w.heap.size, 0, none⟩ (.int .i64 K)).setCell ⟨w.heap.size, 1, none⟩ (.bool xno)).setCell ⟨w.heap.size, 2, none⟩ (.int .i64 xl)).setCell ⟨w.heap.size, 3, none⟩ (.int .i64 xh)).setCell ⟨w.heap.size, 4, none⟩ (.int .i64 xf)) w.heap.size #[.int .i64 K, .bool xno, .int .i64 xl, .int .i64 xh, .int .i64 xf, .int .i64 0] 30 := At.set ts3 4 (.int .i64 xf) (by simp)
             have tc5 : (((((w1.setCell ⟨w.heap.size, 0, none⟩ (.int .i64 K)).setCell ⟨w.heap.size, 1, none⟩ (.bool xno)).setCell ⟨w.heap.size, 2, none⟩ (.int .i64 xl)).setCell ⟨w.heap.size, 3, none⟩ (.int .i64 xh)).setCell ⟨w.heap.size, 4, none⟩ (.int .i64 xf)).cell? ⟨w.heap.size, 5, none⟩ = some (.int .i64 0) := ts4.cell 5 rfl
             have tf5 : (((((w1.setCell ⟨w.heap.size, 0, none⟩ (.int .i64 K)).setCell ⟨w.heap.size, 1, none⟩ (.bool xno)).setCell ⟨w.heap.size, 2, none⟩ (.int .i64 xl)).setCell ⟨w.heap.size, 3, none⟩ (.int .i64 xh)).setCell ⟨w.heap.size, 4, none⟩ (.int .i64 xf)).frozen? ⟨w.heap.size, 5, none⟩ = false := At.free ts4 5
             have ts5 : At ((((((w1.setCell ⟨w.heap.size, 0, none⟩ (.int .i64 K)).setCell ⟨w.heap.size, 1, none⟩ (.bool xno)).setCell ⟨w.heap.size, 2, none⟩ (.int .i64 xl)).setCell ⟨w.heap.size, 3, none⟩ (.int .i64 xh)).setCell ⟨w.heap.size, 4, none⟩ (.int .i64 xf)).setCell ⟨w.heap.size, 5, none⟩ (.int .i64 xb)) w.heap.size #[.int .i64 K, .bool xno, .int .i64 xl, .int .i64 xh, .int .i64 xf, .int .i64 xb] 30 := At.set ts4 5 (.int .i64 xb) (by simp)
             have DW := Lib.hid ts5
             clear dZ ts5 ts0 ts1 ts2 ts3 ts4)
        clear hb1))
    all_goals
      have hb1 := HB1.out
      go_wp2_with fail
      go_meet
      first
        | exact ⟨_, xno, xl, xh, xf, xb, rfl, DW.out, okX, hmX, X1.out, X3.out, (((((((((Below.refl w.heap.size w).alloc (Nat.le_refl _) (.cells #[.int .i64 0, .bool false, .int .i64 0, .int .i64 0, .int .i64 0, .int .i64 0] 30)).drew.trans (hb1.mono (by simp))).setCell (p := ⟨w.heap.size, 0, none⟩) (Nat.le_refl _) (.int .i64 K)).setCell (p := ⟨w.heap.size, 1, none⟩) (Nat.le_refl _) (.bool xno)).setCell (p := ⟨w.heap.size, 2, none⟩) (Nat.le_refl _) (.int .i64 xl)).setCell (p := ⟨w.heap.size, 3, none⟩) (Nat.le_refl _) (.int .i64 xh)).setCell (p := ⟨w.heap.size, 4, none⟩) (Nat.le_refl _) (.int .i64 xf)).setCell (p := ⟨w.heap.size, 5, none⟩) (Nat.le_refl _) (.int .i64 xb))⟩
        | exact ⟨_, xno, xl, xh, xf, xb, rfl, At.new w1 #[.int .i64 K, .bool xno, .int .i64 xl, .int .i64 xh, .int .i64 xf, .int .i64 xb] 30, okX, hmX, X1.out, X3.out, (hbw.drew.trans hb1).alloc (hbw.drew.trans hb1).size _⟩
  case rest =>
  obtain ⟨BX, xno, xl, xh, xf, xb, rfl, dX, okX, hmX, x1, x3, hbx⟩ := hcut
  generalize wc = w1 at *
  have X1 := Lib.hid x1
  have X3 := Lib.hid x3
  clear cM x1 x3 p0 q0 p1 q1 p2 q2 p3 q3 p4 q4 p5 q5
  have cE := fun w => Empty_ok K xno xl xh xf xb okX hmX w
  have x0 : w1.cell? ⟨BX, 0, none⟩ = some (.int .i64 K) := dX.cell 0 rfl
  have x1 : w1.cell? ⟨BX, 1, none⟩ = some (.bool xno) := dX.cell 1 rfl
  have x2 : w1.cell? ⟨BX, 2, none⟩ = some (.int .i64 xl) := dX.cell 2 rfl
  have x3 : w1.cell? ⟨BX, 3, none⟩ = some (.int .i64 xh) := dX.cell 3 rfl
  have x4 : w1.cell? ⟨BX, 4, none⟩ = some (.int .i64 xf) := dX.cell 4 rfl
  have x5 : w1.cell? ⟨BX, 5, none⟩ = some (.int .i64 xb) := dX.cell 5 rfl
  go_wp2_with fail
  refine (cE _).mono ?_
  rintro e w2 ⟨nn, hnn, rfl, hb2⟩
  have NN := Lib.hid hnn
  replace hbx := hbx.trans (hb2.mono hbx.size)
  clear hb2 hnn cE dX x0 x1 x2 x3 x4 x5
  have hA2 := At.below' hbx hA
  have cS := fun w => Single_yes K no l h f b okA hmA w
  have p0 : w2.cell? ⟨xa, 3, none⟩ = some (.int .i64 K) := hA2.cell 3 rfl
  have p1 : w2.cell? ⟨xa, 4, none⟩ = some (.bool no) := hA2.cell 4 rfl
  have p2 : w2.cell? ⟨xa, 5, none⟩ = some (.int .i64 l) := hA2.cell 5 rfl
  have p3 : w2.cell? ⟨xa, 6, none⟩ = some (.int .i64 h) := hA2.cell 6 rfl
  have p4 : w2.cell? ⟨xa, 7, none⟩ = some (.int .i64 f) := hA2.cell 7 rfl
  have p5 : w2.cell? ⟨xa, 8, none⟩ = some (.int .i64 b) := hA2.cell 8 rfl
  go_wp2_with fail
  refine (cS _).mono ?_
  rintro e w3 hs
  obtain ⟨is1, n1, hres, rfl, hb3⟩ : ∃ is1 n1, ((is1 = true ∧ ∃ m : Nat, n1 = (m : Int) ∧ ∀ z, MemV K no l h f b z ↔ z = m) ∨ (is1 = false ∧ ∀ m : Nat, ¬ ∀ z, MemV K no l h f b z ↔ z = m)) ∧ e = .returned (.tuple #[.bool is1, .int .i64 n1, .int .i64 0]) ∧ Below w2.heap.size w2 w3 := by
    rcases hs with ⟨m, hM, he, hb⟩ | ⟨hM, he, hb⟩
    · exact ⟨true, m, Or.inl ⟨rfl, m, rfl, hM⟩, he, hb⟩
    · exact ⟨false, 0, Or.inr ⟨rfl, hM⟩, he, hb⟩
  have RES := Lib.hid (show Res1 (MemV K no l h f b) is1 n1 from hres)
  replace hbx := hbx.trans (hb3.mono hbx.size)
  clear hb3 hres cS hA2 p0 p1 p2 p3 p4 p5
  have hB3 : OpNew w3 xb0 kd K no2 l2 h2 f2 b2 := At.below' hbx hB
  have hW3 := At.below' hbx hW
  have cJ := fun n w h => mjust_any xb0 kd K no2 l2 h2 f2 b2 okB hmB n w h
  clear hA hB hW
  clear hs hne hne2 okX hmX
  cases is1
  · obtain ⟨js, hj⟩ : ∃ js, JustB (MemV K no2 l2 h2 f2 b2) n1 js := by
      by_cases hh : ∃ m : Nat, n1 = m ∧ ∀ z, MemV K no2 l2 h2 f2 b2 z ↔ z = m
      · exact ⟨true, ⟨fun _ => hh, fun _ => rfl⟩⟩
      · exact ⟨false, ⟨(fun h => by cases h), fun h => absurd h hh⟩⟩
    have cT := truth_any bw kd W sg (!nn) true w3 hW3
    go_wp2_with fail
    refine cT.mono ?_
    rintro e w4 ⟨rfl, ⟨tno, tl, th, tf, tb, hT, okT, hmT, ptl⟩, hK⟩
    have fin : Tells w4 bw kd W sg (EqTold (MemV K no l h f b) (MemV K no2 l2 h2 f2 b2)) := ⟨tno, tl, th, tf, tb, hT, okT, hmT, eq_told (is1 := false) (js := js) NN.out X1.out X3.out RES.out hj NE.out NE2.out ptl⟩
    have hKK := (Keeps.of_below hbx).trans hK
    clear hT okT hmT ptl hK hj RES NN X1 X3 NE NE2 cJ hB3 hW3 cT
    go_wp2_with fail
    go_end0
    exact ⟨rfl, fin, hKK⟩
  · go_wp2_with fail
    refine (cJ n1 _ hB3).mono ?_
    rintro e w4 ⟨js, hj, rfl, hb4⟩
    have hW4 := At.below' hb4 hW3
    have cT := truth_any bw kd W sg (!nn) (!js) w4 hW4
    replace hbx := hbx.trans (hb4.mono hbx.size)
    clear hb4 hW3 hB3
    go_wp2_with fail
    refine cT.mono ?_
    rintro e w5 ⟨rfl, ⟨tno, tl, th, tf, tb, hT, okT, hmT, ptl⟩, hK⟩
    have fin : Tells w5 bw kd W sg (EqTold (MemV K no l h f b) (MemV K no2 l2 h2 f2 b2)) := ⟨tno, tl, th, tf, tb, hT, okT, hmT, eq_told (is1 := true) (js := js) NN.out X1.out X3.out RES.out hj NE.out NE2.out ptl⟩
    have hKK := (Keeps.of_below hbx).trans hK
    clear hT okT hmT ptl hK hj RES NN X1 X3 NE NE2 cJ hW4 cT
    go_wp2_with fail
    go_end0
    exact ⟨rfl, fin, hKK⟩
end Go.Proofs.YtblahbmhbfcggaaGreatDoor

/- Package maths: Two, asked whether two sets' members are alike. -/
namespace Go.Proofs.YtblahbmhbfcggaaGreatDoor
open Go.ChangeShapes Go.WideShapes Go.ChangeAt Go.RowKit Go.Joins Go.Deep
set_option linter.unusedVariables false

set_option maxRecDepth 100000 in
set_option maxHeartbeats 1600000 in
theorem mtwo_eq (bw xa xb0 : Nat) (kd W : Int) (sg : Bool) (K : Nat) (no : Bool) (l h f b : Nat) (no2 : Bool) (l2 h2 f2 b2 : Nat) (okA : ValOk K no l h f b) (okB : ValOk K no2 l2 h2 f2 b2) (hmA : mayB K no l h f b = true) (hmB : mayB K no2 l2 h2 f2 b2 = true)
    (hne : ∃ z, MemV K no l h f b z) (hne2 : ∃ z, MemV K no2 l2 h2 f2 b2 z) (w : World) (hA : OpNew w xa kd K no l h f b) (hB : OpNew w xb0 kd K no2 l2 h2 f2 b2) (hW : WkAt w bw kd W sg true 0 0 0 0) :
    Calls Tryz.prog 34 #[.pointer (some ⟨bw, 0, none⟩), .pointer (some ⟨xa, 0, none⟩), .pointer (some ⟨xb0, 0, none⟩)] w fun e w' => e = .returned (.tuple #[]) ∧ Tells w' bw kd W sg (EqTold (MemV K no l h f b) (MemV K no2 l2 h2 f2 b2)) ∧ Keeps bw w w' := by
  have c3 : w.cell? ⟨bw, 3, none⟩ = some (.int .i64 18) := hW.cell 3 rfl
  have cE := mequal_any bw xa xb0 kd W sg K no l h f b no2 l2 h2 f2 b2 okA okB hmA hmB hne hne2 w hA hB hW
  clear hne hne2 hA hB hW okA okB hmA hmB
  go_enter Tryz.func34, Tryz.ntmps34
  go_wp2_with fail
  refine cE.mono ?_
  rintro e w1 ⟨rfl, hT, hK⟩
  clear cE c3
  go_wp2_with fail
  first | go_end0 | (simp only [Exit.inBlock, Exit.then]; refine bodyPost_ret (results_none rfl _ _ _) rfl ?_) | refine bodyPost_ret (results_none rfl _ _ _) rfl ?_
  exact ⟨rfl, hT, hK⟩
set_option maxRecDepth 100000 in
set_option maxHeartbeats 1600000 in
theorem load32 (bw : Nat) (cs : Array Value) (t : TypeId) (w : World) (h : At w bw cs t) (hc : cs[10]? = some (.int .i32 0)) :
    Calls Tryz.prog 66 #[.pointer (some ⟨bw, 10, none⟩)] w fun e w' => e = .returned (.int .i32 0) ∧ w = w' := by
  have c4 : w.cell? ⟨bw, 10, none⟩ = some (.int .i32 0) := h.cell 10 hc
  have hl := run_call_load (P := Tryz.prog) Tryz.func110 (by kernel_rfl) (by kernel_rfl) (by kernel_rfl) .i32 (by kernel_rfl) c4
  go_enter Tryz.func66, Tryz.ntmps66
  go_wp2
  go_ret
  exact ⟨rfl, rfl⟩
set_option maxRecDepth 100000 in
set_option maxHeartbeats 1600000 in
theorem classes_0 (bw : Nat) (kd W : Int) (sg : Bool) (tno : Bool) (tl th tf tb : Nat) (w : World) (hW : WkAt w bw kd W sg tno tl th tf tb) :
    Calls Tryz.prog 35 #[.pointer (some ⟨bw, 0, none⟩)] w fun e w' => e = .returned (.slice none 0 0) ∧ Below w.heap.size w w' := by
  have cL := fun w h => load32 bw (wkC kd W sg 18 32 tno tl th tf tb 0) 80 w h rfl
  unfold WkAt at hW
  go_enter Tryz.func35, Tryz.ntmps35
  go_wp2_with fail
  go_loopw [3, 4] (fun v3 v4 wr => v3 = .slice none 0 0 ∧ ∃ c : Nat, 1 ≤ c ∧ c ≤ 11 ∧ v4 = .int .i64 c ∧ Below w.heap.size w wr) (fun _ v4 _ => 11 - (intOf v4).toNat)
  case atStart => exact ⟨rfl, 1, by omega, by omega, rfl, Below.refl _ _⟩
  case round =>
    obtain ⟨rfl, c, hc1, hc2, rfl, hb⟩ := hrel
    by_cases hlt : c ≤ 10
    · have hlt1 : (c : Int) ≤ 10 := by omega
      have hW2 := At.below' hb hW
      go_upto_region 5 with (fail)
      go_cut [16] from 9 to 16 (fun v16 wx => v16 = .bool false ∧ Below wr.heap.size wr wx)
      case first =>
        have hcL := fun p : BelowBy wr => cL p.world (p.at hW2)
        clear cL hW hW2 hb
        have hcc : c = 1 ∨ c = 2 ∨ c = 3 ∨ c = 4 ∨ c = 5 ∨ c = 6 ∨ c = 7 ∨ c = 8 ∨ c = 9 ∨ c = 10 := by omega
        clear hc1 hc2 hlt hlt1
        rcases hcc with rfl | rfl | rfl | rfl | rfl | rfl | rfl | rfl | rfl | rfl
        all_goals
          refine wp_region_quiet_below (by kernel_rfl) (by kernel_rfl) ?_
          repeat (go_big_quiet_step ((go_at_call 66; with_reducible exact Calls.below_same (hcL _))))
          refine wpQuiet_nil ?_
          intro wx hw'
          obtain ⟨⟨wx', hbx⟩, hw''⟩ := hw'
          subst hw''
          go_wp2_with fail
          go_meet
          exact ⟨rfl, hbx⟩
      case rest =>
      obtain ⟨rfl, hbx⟩ := hcut
      have hbJ := hb.trans (hbx.mono hb.size)
      clear hbx hW2 hb
      go_wp2_with fail
      go_roundw
      case rel => exact ⟨rfl, c + 1, by omega, by omega, by go_num, hbJ⟩
      case measure => simp [intOf]; omega
    · have hlt1 : decide ((c : Int) ≤ 10) = false := by simp; omega
      go_wp2_with fail
      go_ret
      exact ⟨rfl, hb⟩
/-- what Two tells of two sets, asked whether their members are alike -/
def MTwo (A B : Nat → Prop) (w : World) (e : Ending) (w' : World) : Prop := ∃ tno tl th tf tb, e = .returned (.tuple #[valV 32 tno (tl : Nat) (th : Nat) (tf : Nat) (tb : Nat), .slice none 0 0, .int .i64 0]) ∧ ValOk 32 tno tl th tf tb ∧ mayB (32 : Nat) tno tl th tf tb = true ∧ EqTold A B (MemV 32 tno tl th tf tb) ∧ Below w.heap.size w w'
set_option maxRecDepth 100000 in
set_option maxHeartbeats 1600000 in
theorem MTwo_eq (kd : Int) (hk : 1 ≤ kd ∧ kd ≤ 6) (K : Nat) (hK : Al.widthI kd = K) (no : Bool) (l h f b : Nat) (no2 : Bool) (l2 h2 f2 b2 : Nat) (okA : ValOk K no l h f b) (okB : ValOk K no2 l2 h2 f2 b2) (hmA : mayB K no l h f b = true) (hmB : mayB K no2 l2 h2 f2 b2 = true)
    (hne : ∃ z, MemV K no l h f b z) (hne2 : ∃ z, MemV K no2 l2 h2 f2 b2 z) (w : World) :
    Calls Tryz.prog 10 #[.int .i64 18, .int .i64 kd, valV K no l h f b, valV K no2 l2 h2 f2 b2] w (MTwo (MemV K no l h f b) (MemV K no2 l2 h2 f2 b2) w) := by
  have NE := Lib.hid hne
  have NE2 := Lib.hid hne2
  obtain ⟨dA0, dB0, hb00⟩ := two_boxes w #[.int .i64 K, .bool no, .int .i64 l, .int .i64 h, .int .i64 f, .int .i64 b] #[.int .i64 K, .bool no2, .int .i64 l2, .int .i64 h2, .int .i64 f2, .int .i64 b2] 30
  have d4 := At.new ((w.alloc (.cells #[.int .i64 K, .bool no, .int .i64 l, .int .i64 h, .int .i64 f, .int .i64 b] 30)).alloc (.cells #[.int .i64 K, .bool no2, .int .i64 l2, .int .i64 h2, .int .i64 f2, .int .i64 b2] 30)) #[.int .i64 0, .bool false, .int .i64 0, .int .i64 0, .int .i64 0, .int .i64 0] 30
  have d8 : At (((w.alloc (.cells #[.int .i64 K, .bool no, .int .i64 l, .int .i64 h, .int .i64 f, .int .i64 b] 30)).alloc (.cells #[.int .i64 K, .bool no2, .int .i64 l2, .int .i64 h2, .int .i64 f2, .int .i64 b2] 30)).alloc (.cells #[.int .i64 0, .bool false, .int .i64 0, .int .i64 0, .int .i64 0, .int .i64 0] 30)) (w.heap.size + 1 + 1) #[.int .i64 0, .bool false, .int .i64 0, .int .i64 0, .int .i64 0, .int .i64 0] 30 := by simpa only [World.size_alloc] using d4
  have dA := At.alloc dA0 (.cells #[.int .i64 0, .bool false, .int .i64 0, .int .i64 0, .int .i64 0, .int .i64 0] 30)
  have dB := At.alloc dB0 (.cells #[.int .i64 0, .bool false, .int .i64 0, .int .i64 0, .int .i64 0, .int .i64 0] 30)
  have hbE := hb00.alloc hb00.size (.cells #[.int .i64 0, .bool false, .int .i64 0, .int .i64 0, .int .i64 0, .int .i64 0] 30)
  have hz0 : Al.isN 0 (Al.widthI kd) := by rcases Al.num_cases hk with rfl | rfl | rfl | rfl | rfl | rfl <;> exact ⟨Int.le_refl 0, by decide⟩
  have cT2 := fun w => Al.Two_yes 18 kd 0 0 (by omega) hk hz0 hz0 w
  generalize Al.twoI 18 kd 0 0 = r at *
  obtain ⟨r1, r2⟩ := r
  have cX := fun w => mtake_yes kd hk K hK no l h f b hmA w
  have cY := fun w => mtake_yes kd hk K hK no2 l2 h2 f2 b2 hmB w
  have cS := fun w => start_eq kd K (Al.signedB kd) w
  clear hne hne2 dA0 dB0 hb00 d4 hz0
  go_enter Tryz.func10, Tryz.ntmps10
  go_wp2_with fail
  refine (cT2 _).mono ?_
  rintro e w1 ⟨rfl, hb1⟩
  replace dA := At.below' hb1 dA
  replace dB := At.below' hb1 dB
  replace d8 := At.below' hb1 d8
  replace hbE := hbE.trans (hb1.mono hbE.size)
  clear hb1 cT2
  have p0 : w1.cell? ⟨w.heap.size, 0, none⟩ = some (.int .i64 K) := dA.cell 0 rfl
  have p1 : w1.cell? ⟨w.heap.size, 1, none⟩ = some (.bool no) := dA.cell 1 rfl
  have p2 : w1.cell? ⟨w.heap.size, 2, none⟩ = some (.int .i64 l) := dA.cell 2 rfl
  have p3 : w1.cell? ⟨w.heap.size, 3, none⟩ = some (.int .i64 h) := dA.cell 3 rfl
  have p4 : w1.cell? ⟨w.heap.size, 4, none⟩ = some (.int .i64 f) := dA.cell 4 rfl
  have p5 : w1.cell? ⟨w.heap.size, 5, none⟩ = some (.int .i64 b) := dA.cell 5 rfl
  go_wp2_with fail
  refine (cX _).mono ?_
  rintro e w2 ⟨xa, rfl, hXA, hxa, hb2⟩
  have hxa2 := Nat.le_trans hbE.size hxa
  replace dB := At.below' hb2 dB
  replace d8 := At.below' hb2 d8
  replace hbE := hbE.trans (hb2.mono hbE.size)
  clear p0 p1 p2 p3 p4 p5
  clear hb2 cX dA hxa
  have q0 : w2.cell? ⟨w.heap.size + 1, 0, none⟩ = some (.int .i64 K) := dB.cell 0 rfl
  have q1 : w2.cell? ⟨w.heap.size + 1, 1, none⟩ = some (.bool no2) := dB.cell 1 rfl
  have q2 : w2.cell? ⟨w.heap.size + 1, 2, none⟩ = some (.int .i64 l2) := dB.cell 2 rfl
  have q3 : w2.cell? ⟨w.heap.size + 1, 3, none⟩ = some (.int .i64 h2) := dB.cell 3 rfl
  have q4 : w2.cell? ⟨w.heap.size + 1, 4, none⟩ = some (.int .i64 f2) := dB.cell 4 rfl
  have q5 : w2.cell? ⟨w.heap.size + 1, 5, none⟩ = some (.int .i64 b2) := dB.cell 5 rfl
  go_wp2_with fail
  refine (cY _).mono ?_
  rintro e w3 ⟨xb0, rfl, hXB, hxb, hb3⟩
  have hXA3 : OpNew w3 xa kd K no l h f b := At.below' hb3 hXA
  replace d8 := At.below' hb3 d8
  replace hbE := hbE.trans (hb3.mono hbE.size)
  clear q0 q1 q2 q3 q4 q5
  clear hb3 cY dB hxb hXA
  have n0 : w3.cell? ⟨xa, 0, none⟩ = some (.int .i64 kd) := hXA3.cell 0 rfl
  have n1 : w3.cell? ⟨xa, 1, none⟩ = some (.int .i64 K) := hXA3.cell 1 rfl
  have n2 : w3.cell? ⟨xa, 2, none⟩ = some (.bool (Al.signedB kd)) := hXA3.cell 2 rfl
  go_wp2_with fail
  refine (cS _).mono ?_
  rintro e w4 ⟨bw, rfl, hW, hbw, hb4⟩
  have hbw2 : w.heap.size + 1 + 1 < bw := Nat.lt_of_lt_of_le d8.lt hbw
  have hXA4 : OpNew w4 xa kd K no l h f b := At.below' hb4 hXA3
  have hXB4 : OpNew w4 xb0 kd K no2 l2 h2 f2 b2 := At.below' hb4 hXB
  replace d8 := At.below' hb4 d8
  replace hbE := hbE.trans (hb4.mono hbE.size)
  clear hb4 cS n0 n1 n2 hXA3 hXB hbw
  have cE1 := fun w g => mempty_any xa kd K no l h f b okA hmA w g
  have cE2 := fun w g => mempty_any xb0 kd K no2 l2 h2 f2 b2 okB hmB w g
  go_wp2_with fail
  refine (cE1 _ hXA4).mono ?_
  rintro e w5 ⟨is, his, rfl, hb5⟩
  obtain rfl : is = false := by
    cases is
    · rfl
    · obtain ⟨z, hz⟩ := NE.out
      exact absurd hz (his.1 rfl z)
  have hXA5 : OpNew w5 xa kd K no l h f b := At.below' hb5 hXA4
  have hXB5 : OpNew w5 xb0 kd K no2 l2 h2 f2 b2 := At.below' hb5 hXB4
  replace d8 := At.below' hb5 d8
  replace hW := At.below' hb5 hW
  replace hbE := hbE.trans (hb5.mono hbE.size)
  clear hb5 cE1 hXA4 hXB4 his
  go_wp2_with fail
  refine (cE2 _ hXB5).mono ?_
  rintro e w6 ⟨is, his, rfl, hb6⟩
  obtain rfl : is = false := by
    cases is
    · rfl
    · obtain ⟨z, hz⟩ := NE2.out
      exact absurd hz (his.1 rfl z)
  have hXA6 : OpNew w6 xa kd K no l h f b := At.below' hb6 hXA5
  have hXB6 : OpNew w6 xb0 kd K no2 l2 h2 f2 b2 := At.below' hb6 hXB5
  replace d8 := At.below' hb6 d8
  replace hW := At.below' hb6 hW
  replace hbE := hbE.trans (hb6.mono hbE.size)
  clear hb6 cE2 hXA5 hXB5 his
  have cM := mtwo_eq bw xa xb0 kd K (Al.signedB kd) K no l h f b no2 l2 h2 f2 b2 okA okB hmA hmB NE.out NE2.out w6 hXA6 hXB6 hW
  go_wp2_with fail
  refine cM.mono ?_
  rintro e w7 ⟨rfl, ⟨tno, tl, th, tf, tb, hT, okT, hmT, eqt⟩, hKp⟩
  have EQT := Lib.hid eqt
  have d8k := At.keeps d8 hKp (by omega)
  have hbF := hbE.trans (hKp.below (by omega) hbE.size)
  have cC := fun w g => classes_0 bw kd K (Al.signedB kd) tno tl th tf tb w g
  clear cM hXA6 hXB6 hW hKp hbE d8 eqt okA okB hmA hmB
  obtain ⟨B8, hB8⟩ : ∃ B, B = w.heap.size + 1 + 1 := ⟨_, rfl⟩
  have hB8l : w.heap.size ≤ B8 := by omega
  rw [← hB8] at d8k
  go_upto_region 13 with (fail)
  rw [← hB8]
  clear hB8 hbw2
  have o0 : w7.cell? ⟨bw, 4, none⟩ = some (.int .i64 32) := hT.cell 4 rfl
  have o1 : w7.cell? ⟨bw, 5, none⟩ = some (.bool tno) := hT.cell 5 rfl
  have o2 : w7.cell? ⟨bw, 6, none⟩ = some (.int .i64 tl) := hT.cell 6 rfl
  have o3 : w7.cell? ⟨bw, 7, none⟩ = some (.int .i64 th) := hT.cell 7 rfl
  have o4 : w7.cell? ⟨bw, 8, none⟩ = some (.int .i64 tf) := hT.cell 8 rfl
  have o5 : w7.cell? ⟨bw, 9, none⟩ = some (.int .i64 tb) := hT.cell 9 rfl
  have HT := Lib.hid hT
  have D8 := Lib.hid d8k
  clear hT d8k
  go_region_with
    ((go_at_call 35; refine (cC _ (At.drew HT.out)).mono ?_; rintro e w8 ⟨rfl, hb8⟩
      have dR := At.below' hb8 D8.out.drew
      have hT8 := At.below' hb8 (At.drew HT.out)
      have u0 : w8.cell? ⟨bw, 4, none⟩ = some (.int .i64 32) := hT8.cell 4 rfl
      have u1 : w8.cell? ⟨bw, 5, none⟩ = some (.bool tno) := hT8.cell 5 rfl
      have u2 : w8.cell? ⟨bw, 6, none⟩ = some (.int .i64 tl) := hT8.cell 6 rfl
      have u3 : w8.cell? ⟨bw, 7, none⟩ = some (.int .i64 th) := hT8.cell 7 rfl
      have u4 : w8.cell? ⟨bw, 8, none⟩ = some (.int .i64 tf) := hT8.cell 8 rfl
      have u5 : w8.cell? ⟨bw, 9, none⟩ = some (.int .i64 tb) := hT8.cell 9 rfl
      have tc0 : w8.cell? ⟨B8, 0, none⟩ = some (.int .i64 0) := dR.cell 0 rfl
      have tf0 : w8.frozen? ⟨B8, 0, none⟩ = false := At.free dR 0
      have ts0 : At (w8.setCell ⟨B8, 0, none⟩ (.int .i64 32)) B8 #[.int .i64 32, .bool false, .int .i64 0, .int .i64 0, .int .i64 0, .int .i64 0] 30 := At.set dR 0 (.int .i64 32) (by simp)
      have tc1 : (w8.setCell ⟨B8, 0, none⟩ (.int .i64 32)).cell? ⟨B8, 1, none⟩ = some (.bool false) := ts0.cell 1 rfl
      have tf1 : (w8.setCell ⟨B8, 0, none⟩ (.int .i64 32)).frozen? ⟨B8, 1, none⟩ = false := At.free ts0 1
      have ts1 : At ((w8.setCell ⟨B8, 0, none⟩ (.int .i64 32)).setCell ⟨B8, 1, none⟩ (.bool tno)) B8 #[.int .i64 32, .bool tno, .int .i64 0, .int .i64 0, .int .i64 0, .int .i64 0] 30 := At.set ts0 1 (.bool tno) (by simp)
      have tc2 : ((w8.setCell ⟨B8, 0, none⟩ (.int .i64 32)).setCell ⟨B8, 1, none⟩ (.bool tno)).cell? ⟨B8, 2, none⟩ = some (.int .i64 0) := ts1.cell 2 rfl
      have tf2 : ((w8.setCell ⟨B8, 0, none⟩ (.int .i64 32)).setCell ⟨B8, 1, none⟩ (.bool tno)).frozen? ⟨B8, 2, none⟩ = false := At.free ts1 2
      have ts2 : At (((w8.setCell ⟨B8, 0, none⟩ (.int .i64 32)).setCell ⟨B8, 1, none⟩ (.bool tno)).setCell ⟨B8, 2, none⟩ (.int .i64 tl)) B8 #[.int .i64 32, .bool tno, .int .i64 tl, .int .i64 0, .int .i64 0, .int .i64 0] 30 := At.set ts1 2 (.int .i64 tl) (by simp)
      have tc3 : (((w8.setCell ⟨B8, 0, none⟩ (.int .i64 32)).setCell ⟨B8, 1, none⟩ (.bool tno)).setCell ⟨B8, 2, none⟩ (.int .i64 tl)).cell? ⟨B8, 3, none⟩ = some (.int .i64 0) := ts2.cell 3 rfl
      have tf3 : (((w8.setCell ⟨B8, 0, none⟩ (.int .i64 32)).setCell ⟨B8, 1, none⟩ (.bool tno)).setCell ⟨B8, 2, none⟩ (.int .i64 tl)).frozen? ⟨B8, 3, none⟩ = false := At.free ts2 3
      have ts3 : At ((((w8.setCell ⟨B8, 0, none⟩ (.int .i64 32)).setCell ⟨B8, 1, none⟩ (.bool tno)).setCell ⟨B8, 2, none⟩ (.int .i64 tl)).setCell ⟨B8, 3, none⟩ (.int .i64 th)) B8 #[.int .i64 32, .bool tno, .int .i64 tl, .int .i64 th, .int .i64 0, .int .i64 0] 30 := At.set ts2 3 (.int .i64 th) (by simp)
      have tc4 : ((((w8.setCell ⟨B8, 0, none⟩ (.int .i64 32)).setCell ⟨B8, 1, none⟩ (.bool tno)).setCell ⟨B8, 2, none⟩ (.int .i64 tl)).setCell ⟨B8, 3, none⟩ (.int .i64 th)).cell? ⟨B8, 4, none⟩ = some (.int .i64 0) := ts3.cell 4 rfl
      have tf4 : ((((w8.setCell ⟨B8, 0, none⟩ (.int .i64 32)).setCell ⟨B8, 1, none⟩ (.bool tno)).setCell ⟨B8, 2, none⟩ (.int .i64 tl)).setCell ⟨B8, 3, none⟩ (.int .i64 th)).frozen? ⟨B8, 4, none⟩ = false := At.free ts3 4
      have ts4 : At (((((w8.setCell ⟨B8, 0, none⟩ (.int .i64 32)).setCell ⟨B8, 1, none⟩ (.bool tno)).setCell ⟨B8, 2, none⟩ (.int .i64 tl)).setCell ⟨B8, 3, none⟩ (.int .i64 th)).setCell ⟨B8, 4, none⟩ (.int .i64 tf)) B8 #[.int .i64 32, .bool tno, .int .i64 tl, .int .i64 th, .int .i64 tf, .int .i64 0] 30 := At.set ts3 4 (.int .i64 tf) (by simp)
      have tc5 : (((((w8.setCell ⟨B8, 0, none⟩ (.int .i64 32)).setCell ⟨B8, 1, none⟩ (.bool tno)).setCell ⟨B8, 2, none⟩ (.int .i64 tl)).setCell ⟨B8, 3, none⟩ (.int .i64 th)).setCell ⟨B8, 4, none⟩ (.int .i64 tf)).cell? ⟨B8, 5, none⟩ = some (.int .i64 0) := ts4.cell 5 rfl
      have tf5 : (((((w8.setCell ⟨B8, 0, none⟩ (.int .i64 32)).setCell ⟨B8, 1, none⟩ (.bool tno)).setCell ⟨B8, 2, none⟩ (.int .i64 tl)).setCell ⟨B8, 3, none⟩ (.int .i64 th)).setCell ⟨B8, 4, none⟩ (.int .i64 tf)).frozen? ⟨B8, 5, none⟩ = false := At.free ts4 5
      have ts5 : At ((((((w8.setCell ⟨B8, 0, none⟩ (.int .i64 32)).setCell ⟨B8, 1, none⟩ (.bool tno)).setCell ⟨B8, 2, none⟩ (.int .i64 tl)).setCell ⟨B8, 3, none⟩ (.int .i64 th)).setCell ⟨B8, 4, none⟩ (.int .i64 tf)).setCell ⟨B8, 5, none⟩ (.int .i64 tb)) B8 #[.int .i64 32, .bool tno, .int .i64 tl, .int .i64 th, .int .i64 tf, .int .i64 tb] 30 := At.set ts4 5 (.int .i64 tb) (by simp)
      have DR := Lib.hid ts5
      have HB8 := Lib.hid hb8
      clear dR hb8 hT8 ts5 ts0 ts1 ts2 ts3 ts4))
  all_goals
    have hbG : Below w.heap.size w ((((((w8.setCell ⟨B8, 0, none⟩ (.int .i64 32)).setCell ⟨B8, 1, none⟩ (.bool tno)).setCell ⟨B8, 2, none⟩ (.int .i64 tl)).setCell ⟨B8, 3, none⟩ (.int .i64 th)).setCell ⟨B8, 4, none⟩ (.int .i64 tf)).setCell ⟨B8, 5, none⟩ (.int .i64 tb)) := (((((((hbF.drew.trans (HB8.out.mono hbF.size)).setCell (p := ⟨B8, 0, none⟩) hB8l (.int .i64 32)).setCell (p := ⟨B8, 1, none⟩) hB8l (.bool tno)).setCell (p := ⟨B8, 2, none⟩) hB8l (.int .i64 tl)).setCell (p := ⟨B8, 3, none⟩) hB8l (.int .i64 th)).setCell (p := ⟨B8, 4, none⟩) hB8l (.int .i64 tf)).setCell (p := ⟨B8, 5, none⟩) hB8l (.int .i64 tb))
    have g0 : ((((((w8.setCell ⟨B8, 0, none⟩ (.int .i64 32)).setCell ⟨B8, 1, none⟩ (.bool tno)).setCell ⟨B8, 2, none⟩ (.int .i64 tl)).setCell ⟨B8, 3, none⟩ (.int .i64 th)).setCell ⟨B8, 4, none⟩ (.int .i64 tf)).setCell ⟨B8, 5, none⟩ (.int .i64 tb)).cell? ⟨B8, 0, none⟩ = some (.int .i64 32) := DR.out.cell 0 rfl
    have g1 : ((((((w8.setCell ⟨B8, 0, none⟩ (.int .i64 32)).setCell ⟨B8, 1, none⟩ (.bool tno)).setCell ⟨B8, 2, none⟩ (.int .i64 tl)).setCell ⟨B8, 3, none⟩ (.int .i64 th)).setCell ⟨B8, 4, none⟩ (.int .i64 tf)).setCell ⟨B8, 5, none⟩ (.int .i64 tb)).cell? ⟨B8, 1, none⟩ = some (.bool tno) := DR.out.cell 1 rfl
    have g2 : ((((((w8.setCell ⟨B8, 0, none⟩ (.int .i64 32)).setCell ⟨B8, 1, none⟩ (.bool tno)).setCell ⟨B8, 2, none⟩ (.int .i64 tl)).setCell ⟨B8, 3, none⟩ (.int .i64 th)).setCell ⟨B8, 4, none⟩ (.int .i64 tf)).setCell ⟨B8, 5, none⟩ (.int .i64 tb)).cell? ⟨B8, 2, none⟩ = some (.int .i64 tl) := DR.out.cell 2 rfl
    have g3 : ((((((w8.setCell ⟨B8, 0, none⟩ (.int .i64 32)).setCell ⟨B8, 1, none⟩ (.bool tno)).setCell ⟨B8, 2, none⟩ (.int .i64 tl)).setCell ⟨B8, 3, none⟩ (.int .i64 th)).setCell ⟨B8, 4, none⟩ (.int .i64 tf)).setCell ⟨B8, 5, none⟩ (.int .i64 tb)).cell? ⟨B8, 3, none⟩ = some (.int .i64 th) := DR.out.cell 3 rfl
    have g4 : ((((((w8.setCell ⟨B8, 0, none⟩ (.int .i64 32)).setCell ⟨B8, 1, none⟩ (.bool tno)).setCell ⟨B8, 2, none⟩ (.int .i64 tl)).setCell ⟨B8, 3, none⟩ (.int .i64 th)).setCell ⟨B8, 4, none⟩ (.int .i64 tf)).setCell ⟨B8, 5, none⟩ (.int .i64 tb)).cell? ⟨B8, 4, none⟩ = some (.int .i64 tf) := DR.out.cell 4 rfl
    have g5 : ((((((w8.setCell ⟨B8, 0, none⟩ (.int .i64 32)).setCell ⟨B8, 1, none⟩ (.bool tno)).setCell ⟨B8, 2, none⟩ (.int .i64 tl)).setCell ⟨B8, 3, none⟩ (.int .i64 th)).setCell ⟨B8, 4, none⟩ (.int .i64 tf)).setCell ⟨B8, 5, none⟩ (.int .i64 tb)).cell? ⟨B8, 5, none⟩ = some (.int .i64 tb) := DR.out.cell 5 rfl
    clear u0 u1 u2 u3 u4 u5 tc0 tc1 tc2 tc3 tc4 tc5 tf0 tf1 tf2 tf3 tf4 tf5 DR HB8 HT D8 o0 o1 o2 o3 o4 o5 cC hbF
    go_wp2_with fail
    exact bodyPost_ret (v := .tuple #[valV 32 tno tl th tf tb, .slice none 0 0, .int .i64 0]) (by simp [results, Tryz.results10, go_sem, g0, g1, g2, g3, g4, g5]) rfl ⟨tno, tl, th, tf, tb, rfl, okT, hmT, EQT.out, hbG⟩
end Go.Proofs.YtblahbmhbfcggaaGreatDoor
