/- A struct of six cells stored into a block that lies known: what is asked of each world between. -/
import Derived.Test.YtdbbfcnblgokpaaGreatDoorVNarrow
import Derived.Test.YtdbbfcnblgokpaaGreatDoorFilter
namespace Go.Proofs.YtdbbfcnblgokpaaGreatDoor
open Go.ChangeShapes Go.WideShapes Go.ChangeAt Go.RowKit Go.Joins Go.Deep
set_option linter.unusedVariables false

theorem store6 {w : World} {B : Nat} {a0 a1 a2 a3 a4 a5 : Value} {t : TypeId} (h : At w B #[a0, a1, a2, a3, a4, a5] t) (x0 x1 x2 x3 x4 x5 : Value) : (w.cell? ⟨B, 0, none⟩ = some a0 ∧ w.frozen? ⟨B, 0, none⟩ = false) ∧ ((w.setCell ⟨B, 0, none⟩ x0).cell? ⟨B, 1, none⟩ = some a1 ∧ (w.setCell ⟨B, 0, none⟩ x0).frozen? ⟨B, 1, none⟩ = false) ∧ (((w.setCell ⟨B, 0, none⟩ x0).setCell ⟨B, 1, none⟩ x1).cell? ⟨B, 2, none⟩ = some a2 ∧ ((w.setCell ⟨B, 0, none⟩ x0).setCell ⟨B, 1, none⟩ x1).frozen? ⟨B, 2, none⟩ = false) ∧ ((((w.setCell ⟨B, 0, none⟩ x0).setCell ⟨B, 1, none⟩ x1).setCell ⟨B, 2, none⟩ x2).cell? ⟨B, 3, none⟩ = some a3 ∧ (((w.setCell ⟨B, 0, none⟩ x0).setCell ⟨B, 1, none⟩ x1).setCell ⟨B, 2, none⟩ x2).frozen? ⟨B, 3, none⟩ = false) ∧ (((((w.setCell ⟨B, 0, none⟩ x0).setCell ⟨B, 1, none⟩ x1).setCell ⟨B, 2, none⟩ x2).setCell ⟨B, 3, none⟩ x3).cell? ⟨B, 4, none⟩ = some a4 ∧ ((((w.setCell ⟨B, 0, none⟩ x0).setCell ⟨B, 1, none⟩ x1).setCell ⟨B, 2, none⟩ x2).setCell ⟨B, 3, none⟩ x3).frozen? ⟨B, 4, none⟩ = false) ∧ ((((((w.setCell ⟨B, 0, none⟩ x0).setCell ⟨B, 1, none⟩ x1).setCell ⟨B, 2, none⟩ x2).setCell ⟨B, 3, none⟩ x3).setCell ⟨B, 4, none⟩ x4).cell? ⟨B, 5, none⟩ = some a5 ∧ (((((w.setCell ⟨B, 0, none⟩ x0).setCell ⟨B, 1, none⟩ x1).setCell ⟨B, 2, none⟩ x2).setCell ⟨B, 3, none⟩ x3).setCell ⟨B, 4, none⟩ x4).frozen? ⟨B, 5, none⟩ = false) := by
  have s1 : At (w.setCell ⟨B, 0, none⟩ x0) B #[x0, a1, a2, a3, a4, a5] t := At.set h 0 x0 (by simp)
  have s2 : At ((w.setCell ⟨B, 0, none⟩ x0).setCell ⟨B, 1, none⟩ x1) B #[x0, x1, a2, a3, a4, a5] t := At.set s1 1 x1 (by simp)
  have s3 : At (((w.setCell ⟨B, 0, none⟩ x0).setCell ⟨B, 1, none⟩ x1).setCell ⟨B, 2, none⟩ x2) B #[x0, x1, x2, a3, a4, a5] t := At.set s2 2 x2 (by simp)
  have s4 : At ((((w.setCell ⟨B, 0, none⟩ x0).setCell ⟨B, 1, none⟩ x1).setCell ⟨B, 2, none⟩ x2).setCell ⟨B, 3, none⟩ x3) B #[x0, x1, x2, x3, a4, a5] t := At.set s3 3 x3 (by simp)
  have s5 : At (((((w.setCell ⟨B, 0, none⟩ x0).setCell ⟨B, 1, none⟩ x1).setCell ⟨B, 2, none⟩ x2).setCell ⟨B, 3, none⟩ x3).setCell ⟨B, 4, none⟩ x4) B #[x0, x1, x2, x3, x4, a5] t := At.set s4 4 x4 (by simp)
  have s6 : At ((((((w.setCell ⟨B, 0, none⟩ x0).setCell ⟨B, 1, none⟩ x1).setCell ⟨B, 2, none⟩ x2).setCell ⟨B, 3, none⟩ x3).setCell ⟨B, 4, none⟩ x4).setCell ⟨B, 5, none⟩ x5) B #[x0, x1, x2, x3, x4, x5] t := At.set s5 5 x5 (by simp)
  exact ⟨⟨h.cell 0 rfl, At.free h 0⟩, ⟨s1.cell 1 rfl, At.free s1 1⟩, ⟨s2.cell 2 rfl, At.free s2 2⟩, ⟨s3.cell 3 rfl, At.free s3 3⟩, ⟨s4.cell 4 rfl, At.free s4 4⟩, ⟨s5.cell 5 rfl, At.free s5 5⟩⟩
theorem store6_at {w : World} {B : Nat} {a0 a1 a2 a3 a4 a5 : Value} {t : TypeId} (h : At w B #[a0, a1, a2, a3, a4, a5] t) (x0 x1 x2 x3 x4 x5 : Value) : At ((((((w.setCell ⟨B, 0, none⟩ x0).setCell ⟨B, 1, none⟩ x1).setCell ⟨B, 2, none⟩ x2).setCell ⟨B, 3, none⟩ x3).setCell ⟨B, 4, none⟩ x4).setCell ⟨B, 5, none⟩ x5) B #[x0, x1, x2, x3, x4, x5] t := by
  have s1 : At (w.setCell ⟨B, 0, none⟩ x0) B #[x0, a1, a2, a3, a4, a5] t := At.set h 0 x0 (by simp)
  have s2 : At ((w.setCell ⟨B, 0, none⟩ x0).setCell ⟨B, 1, none⟩ x1) B #[x0, x1, a2, a3, a4, a5] t := At.set s1 1 x1 (by simp)
  have s3 : At (((w.setCell ⟨B, 0, none⟩ x0).setCell ⟨B, 1, none⟩ x1).setCell ⟨B, 2, none⟩ x2) B #[x0, x1, x2, a3, a4, a5] t := At.set s2 2 x2 (by simp)
  have s4 : At ((((w.setCell ⟨B, 0, none⟩ x0).setCell ⟨B, 1, none⟩ x1).setCell ⟨B, 2, none⟩ x2).setCell ⟨B, 3, none⟩ x3) B #[x0, x1, x2, x3, a4, a5] t := At.set s3 3 x3 (by simp)
  have s5 : At (((((w.setCell ⟨B, 0, none⟩ x0).setCell ⟨B, 1, none⟩ x1).setCell ⟨B, 2, none⟩ x2).setCell ⟨B, 3, none⟩ x3).setCell ⟨B, 4, none⟩ x4) B #[x0, x1, x2, x3, x4, a5] t := At.set s4 4 x4 (by simp)
  have s6 : At ((((((w.setCell ⟨B, 0, none⟩ x0).setCell ⟨B, 1, none⟩ x1).setCell ⟨B, 2, none⟩ x2).setCell ⟨B, 3, none⟩ x3).setCell ⟨B, 4, none⟩ x4).setCell ⟨B, 5, none⟩ x5) B #[x0, x1, x2, x3, x4, x5] t := At.set s5 5 x5 (by simp)
  exact s6
theorem store6_keeps (w : World) (B : Nat) (x0 x1 x2 x3 x4 x5 : Value) : Keeps B w ((((((w.setCell ⟨B, 0, none⟩ x0).setCell ⟨B, 1, none⟩ x1).setCell ⟨B, 2, none⟩ x2).setCell ⟨B, 3, none⟩ x3).setCell ⟨B, 4, none⟩ x4).setCell ⟨B, 5, none⟩ x5) :=
  ((((((Keeps.refl B w).setCell 0 x0).setCell 1 x1).setCell 2 x2).setCell 3 x3).setCell 4 x4).setCell 5 x5
theorem store6_below {C B : Nat} {w0 w : World} (hb : Below C w0 w) (hC : C ≤ B) (x0 x1 x2 x3 x4 x5 : Value) : Below C w0 ((((((w.setCell ⟨B, 0, none⟩ x0).setCell ⟨B, 1, none⟩ x1).setCell ⟨B, 2, none⟩ x2).setCell ⟨B, 3, none⟩ x3).setCell ⟨B, 4, none⟩ x4).setCell ⟨B, 5, none⟩ x5) :=
  (((((hb.setCell (p := ⟨B, 0, none⟩) hC x0).setCell (p := ⟨B, 1, none⟩) hC x1).setCell (p := ⟨B, 2, none⟩) hC x2).setCell (p := ⟨B, 3, none⟩) hC x3).setCell (p := ⟨B, 4, none⟩) hC x4).setCell (p := ⟨B, 5, none⟩) hC x5
end Go.Proofs.YtdbbfcnblgokpaaGreatDoor

/- Package filter: what is left of two sets whose members are alike. -/
namespace Go.Proofs.YtdbbfcnblgokpaaGreatDoor
open Go.ChangeShapes Go.WideShapes Go.ChangeAt Go.RowKit Go.Joins Go.Deep
set_option linter.unusedVariables false

def EqlPost (K : Nat) (A B : Nat → Prop) (w : World) (e : Ending) (w' : World) : Prop := ∃ xno xl xh xf xb yno yl yh yf yb, e = .returned (.tuple #[valV K xno (xl : Nat) (xh : Nat) (xf : Nat) (xb : Nat), valV K yno (yl : Nat) (yh : Nat) (yf : Nat) (yb : Nat)]) ∧ ValOk K xno xl xh xf xb ∧ (∀ z, A z → B z → MemV K xno xl xh xf xb z) ∧ Below w.heap.size w w'
set_option maxRecDepth 100000 in
set_option maxHeartbeats 1600000 in
theorem fequal_yes (pa pb K : Nat) (no : Bool) (l h f b : Nat) (no2 : Bool) (l2 h2 f2 b2 : Nat) (okA : ValOk K no l h f b) (okB : ValOk K no2 l2 h2 f2 b2) (hmA : mayB K no l h f b = true) (hmB : mayB K no2 l2 h2 f2 b2 = true) (w : World) (hA : At w pa (fopC K no l h f b) 80) (hB : At w pb (fopC K no2 l2 h2 f2 b2) 80) :
    Calls Tryz.prog 39 #[.pointer (some ⟨pa, 0, none⟩), .pointer (some ⟨pb, 0, none⟩), .bool true] w (EqlPost K (MemV K no l h f b) (MemV K no2 l2 h2 f2 b2) w) := by
  obtain ⟨d6, d7, hb0⟩ := two_boxes w #[.int .i64 0, .bool false, .int .i64 0, .int .i64 0, .int .i64 0, .int .i64 0] #[.int .i64 0, .bool false, .int .i64 0, .int .i64 0, .int .i64 0, .int .i64 0] 28
  have hA0 := At.below' hb0 hA
  have hB0 := At.below' hb0 hB
  have hla := At.lt hA
  have hlb := At.lt hB
  have cM1 := fun w g => fmeet_any pa K no l h f b no2 l2 h2 f2 b2 okA okB hmA hmB w g
  have cM2 := fun w g => fmeet_any pb K no2 l2 h2 f2 b2 no l h f b okB okA hmB hmA w g
  obtain ⟨B6, hB6⟩ : ∃ B, B = w.heap.size := ⟨_, rfl⟩
  obtain ⟨B7, hB7⟩ : ∃ B, B = w.heap.size + 1 := ⟨_, rfl⟩
  have hw6 : w.heap.size ≤ B6 := by omega
  have hw7 : w.heap.size ≤ B7 := by omega
  have h67 : B6 ≠ B7 := by omega
  have h76 : B7 ≠ B6 := by omega
  have n6a : pa ≠ B6 := by omega
  have n6b : pb ≠ B6 := by omega
  have n7a : pa ≠ B7 := by omega
  have n7b : pb ≠ B7 := by omega
  rw [← hB6] at d6
  rw [← hB7] at d7
  have HB6 := Lib.hid hB6
  have HB7 := Lib.hid hB7
  clear hA hB okA okB hmA hmB hB6 hB7 hla hlb
  go_enter Tryz.func39, Tryz.ntmps39
  go_upto_region 2 with (fail)
  rw [← HB7.out, ← HB6.out]
  generalize ((w.alloc (.cells #[.int .i64 0, .bool false, .int .i64 0, .int .i64 0, .int .i64 0, .int .i64 0] 28)).alloc (.cells #[.int .i64 0, .bool false, .int .i64 0, .int .i64 0, .int .i64 0, .int .i64 0] 28)) = w0 at *
  have p0 : w0.cell? ⟨pa, 0, none⟩ = some (.int .i64 K) := hA0.cell 0 rfl
  have p1 : w0.cell? ⟨pa, 1, none⟩ = some (.bool no) := hA0.cell 1 rfl
  have p2 : w0.cell? ⟨pa, 2, none⟩ = some (.int .i64 l) := hA0.cell 2 rfl
  have p3 : w0.cell? ⟨pa, 3, none⟩ = some (.int .i64 h) := hA0.cell 3 rfl
  have p4 : w0.cell? ⟨pa, 4, none⟩ = some (.int .i64 f) := hA0.cell 4 rfl
  have p5 : w0.cell? ⟨pa, 5, none⟩ = some (.int .i64 b) := hA0.cell 5 rfl
  have q0 : w0.cell? ⟨pb, 0, none⟩ = some (.int .i64 K) := hB0.cell 0 rfl
  have q1 : w0.cell? ⟨pb, 1, none⟩ = some (.bool no2) := hB0.cell 1 rfl
  have q2 : w0.cell? ⟨pb, 2, none⟩ = some (.int .i64 l2) := hB0.cell 2 rfl
  have q3 : w0.cell? ⟨pb, 3, none⟩ = some (.int .i64 h2) := hB0.cell 3 rfl
  have q4 : w0.cell? ⟨pb, 4, none⟩ = some (.int .i64 f2) := hB0.cell 4 rfl
  have q5 : w0.cell? ⟨pb, 5, none⟩ = some (.int .i64 b2) := hB0.cell 5 rfl
  have hS : w0.drew.cell? ⟨pa, 0, none⟩ = some (.int .i64 K) ∧ w0.drew.cell? ⟨pa, 1, none⟩ = some (.bool no) ∧ w0.drew.cell? ⟨pa, 2, none⟩ = some (.int .i64 l) ∧ w0.drew.cell? ⟨pa, 3, none⟩ = some (.int .i64 h) ∧ w0.drew.cell? ⟨pa, 4, none⟩ = some (.int .i64 f) ∧ w0.drew.cell? ⟨pa, 5, none⟩ = some (.int .i64 b) ∧ w0.drew.cell? ⟨pb, 0, none⟩ = some (.int .i64 K) ∧ w0.drew.cell? ⟨pb, 1, none⟩ = some (.bool no2) ∧ w0.drew.cell? ⟨pb, 2, none⟩ = some (.int .i64 l2) ∧ w0.drew.cell? ⟨pb, 3, none⟩ = some (.int .i64 h2) ∧ w0.drew.cell? ⟨pb, 4, none⟩ = some (.int .i64 f2) ∧ w0.drew.cell? ⟨pb, 5, none⟩ = some (.int .i64 b2) := ⟨p0, p1, p2, p3, p4, p5, q0, q1, q2, q3, q4, q5⟩
  have HPA := Lib.hid hA0
  have HPB := Lib.hid hB0
  have D6 := Lib.hid d6
  have D7 := Lib.hid d7
  have HB0 := Lib.hid hb0
  clear p0 p1 p2 p3 p4 p5 q0 q1 q2 q3 q4 q5 hA0 hB0 d6 d7 hb0
  go_region_held3 (fun w' => w'.cell? ⟨pa, 0, none⟩ = some (.int .i64 K) ∧ w'.cell? ⟨pa, 1, none⟩ = some (.bool no) ∧ w'.cell? ⟨pa, 2, none⟩ = some (.int .i64 l) ∧ w'.cell? ⟨pa, 3, none⟩ = some (.int .i64 h) ∧ w'.cell? ⟨pa, 4, none⟩ = some (.int .i64 f) ∧ w'.cell? ⟨pa, 5, none⟩ = some (.int .i64 b) ∧ w'.cell? ⟨pb, 0, none⟩ = some (.int .i64 K) ∧ w'.cell? ⟨pb, 1, none⟩ = some (.bool no2) ∧ w'.cell? ⟨pb, 2, none⟩ = some (.int .i64 l2) ∧ w'.cell? ⟨pb, 3, none⟩ = some (.int .i64 h2) ∧ w'.cell? ⟨pb, 4, none⟩ = some (.int .i64 f2) ∧ w'.cell? ⟨pb, 5, none⟩ = some (.int .i64 b2))
    (first
      | with_reducible exact hS
      | with_reducible exact keep12_below hS HB1.out
      | with_reducible exact (keep12_below (keep12_below hS HB1.out) HB2.out)
      | with_reducible exact keepS_set0 (keepS_set0 (keepS_set0 (keepS_set0 (keepS_set0 (keepS_set0 ((keep12_below (keep12_below hS HB1.out) HB2.out)) n6a n6b) n6a n6b) n6a n6b) n6a n6b) n6a n6b) n6a n6b
      | with_reducible exact keepS_set0 (keepS_set0 (keepS_set0 (keepS_set0 (keepS_set0 (keepS_set0 (keepS_set0 (keepS_set0 (keepS_set0 (keepS_set0 (keepS_set0 (keepS_set0 ((keep12_below (keep12_below hS HB1.out) HB2.out)) n6a n6b) n6a n6b) n6a n6b) n6a n6b) n6a n6b) n6a n6b) n7a n7b) n7a n7b) n7a n7b) n7a n7b) n7a n7b) n7a n7b)
    ((go_at_call 31; first
      | (with_reducible refine (cM1 _ (At.drew HPA.out)).mono ?_
         rintro e w1 ⟨xno, xl, xh, xf, xb, rfl, okX, hmX, x1, x2, x3, hb1⟩
         have X1 := Lib.hid x1
         have HB1 := Lib.hid hb1
         clear x1 x2 x3 hb1)
      | (with_reducible refine (cM2 _ (At.below' HB1.out (At.drew HPB.out))).mono ?_
         rintro e w2 ⟨yno, yl, yh, yf, yb, rfl, okY, hmY, y1, y2, y3, hb2⟩
         have HB2 := Lib.hid hb2
         have d6 := At.below' hb2 (At.below' HB1.out D6.out.drew)
         have d7 := At.keeps (At.below' hb2 (At.below' HB1.out D7.out.drew)) (store6_keeps w2 B6 (.int .i64 K) (.bool xno) (.int .i64 xl) (.int .i64 xh) (.int .i64 xf) (.int .i64 xb)) h76
         have st6 := store6 d6 (.int .i64 K) (.bool xno) (.int .i64 xl) (.int .i64 xh) (.int .i64 xf) (.int .i64 xb)
         have st7 := store6 d7 (.int .i64 K) (.bool yno) (.int .i64 yl) (.int .i64 yh) (.int .i64 yf) (.int .i64 yb)
         have E6 := Lib.hid (At.keeps (store6_at d6 (.int .i64 K) (.bool xno) (.int .i64 xl) (.int .i64 xh) (.int .i64 xf) (.int .i64 xb)) (store6_keeps ((((((w2.setCell ⟨B6, 0, none⟩ (.int .i64 K)).setCell ⟨B6, 1, none⟩ (.bool xno)).setCell ⟨B6, 2, none⟩ (.int .i64 xl)).setCell ⟨B6, 3, none⟩ (.int .i64 xh)).setCell ⟨B6, 4, none⟩ (.int .i64 xf)).setCell ⟨B6, 5, none⟩ (.int .i64 xb)) B7 (.int .i64 K) (.bool yno) (.int .i64 yl) (.int .i64 yh) (.int .i64 yf) (.int .i64 yb)) h67)
         have E7 := Lib.hid (store6_at d7 (.int .i64 K) (.bool yno) (.int .i64 yl) (.int .i64 yh) (.int .i64 yf) (.int .i64 yb))
         clear y1 y2 y3 hb2 d6 d7)))
  all_goals
    have hb2 : Below w.heap.size w w2 := ((HB0.out.drew).trans (HB1.out.mono HB0.out.size)).trans (HB2.out.mono ((HB0.out.drew).trans (HB1.out.mono HB0.out.size)).size)
    have hbG := store6_below (store6_below hb2 hw6 (.int .i64 K) (.bool xno) (.int .i64 xl) (.int .i64 xh) (.int .i64 xf) (.int .i64 xb)) hw7 (.int .i64 K) (.bool yno) (.int .i64 yl) (.int .i64 yh) (.int .i64 yf) (.int .i64 yb)
    have g0 : ((((((((((((w2.setCell ⟨B6, 0, none⟩ (.int .i64 K)).setCell ⟨B6, 1, none⟩ (.bool xno)).setCell ⟨B6, 2, none⟩ (.int .i64 xl)).setCell ⟨B6, 3, none⟩ (.int .i64 xh)).setCell ⟨B6, 4, none⟩ (.int .i64 xf)).setCell ⟨B6, 5, none⟩ (.int .i64 xb)).setCell ⟨B7, 0, none⟩ (.int .i64 K)).setCell ⟨B7, 1, none⟩ (.bool yno)).setCell ⟨B7, 2, none⟩ (.int .i64 yl)).setCell ⟨B7, 3, none⟩ (.int .i64 yh)).setCell ⟨B7, 4, none⟩ (.int .i64 yf)).setCell ⟨B7, 5, none⟩ (.int .i64 yb)).cell? ⟨B6, 0, none⟩ = some (.int .i64 K) := E6.out.cell 0 rfl
    have g1 : ((((((((((((w2.setCell ⟨B6, 0, none⟩ (.int .i64 K)).setCell ⟨B6, 1, none⟩ (.bool xno)).setCell ⟨B6, 2, none⟩ (.int .i64 xl)).setCell ⟨B6, 3, none⟩ (.int .i64 xh)).setCell ⟨B6, 4, none⟩ (.int .i64 xf)).setCell ⟨B6, 5, none⟩ (.int .i64 xb)).setCell ⟨B7, 0, none⟩ (.int .i64 K)).setCell ⟨B7, 1, none⟩ (.bool yno)).setCell ⟨B7, 2, none⟩ (.int .i64 yl)).setCell ⟨B7, 3, none⟩ (.int .i64 yh)).setCell ⟨B7, 4, none⟩ (.int .i64 yf)).setCell ⟨B7, 5, none⟩ (.int .i64 yb)).cell? ⟨B6, 1, none⟩ = some (.bool xno) := E6.out.cell 1 rfl
    have g2 : ((((((((((((w2.setCell ⟨B6, 0, none⟩ (.int .i64 K)).setCell ⟨B6, 1, none⟩ (.bool xno)).setCell ⟨B6, 2, none⟩ (.int .i64 xl)).setCell ⟨B6, 3, none⟩ (.int .i64 xh)).setCell ⟨B6, 4, none⟩ (.int .i64 xf)).setCell ⟨B6, 5, none⟩ (.int .i64 xb)).setCell ⟨B7, 0, none⟩ (.int .i64 K)).setCell ⟨B7, 1, none⟩ (.bool yno)).setCell ⟨B7, 2, none⟩ (.int .i64 yl)).setCell ⟨B7, 3, none⟩ (.int .i64 yh)).setCell ⟨B7, 4, none⟩ (.int .i64 yf)).setCell ⟨B7, 5, none⟩ (.int .i64 yb)).cell? ⟨B6, 2, none⟩ = some (.int .i64 xl) := E6.out.cell 2 rfl
    have g3 : ((((((((((((w2.setCell ⟨B6, 0, none⟩ (.int .i64 K)).setCell ⟨B6, 1, none⟩ (.bool xno)).setCell ⟨B6, 2, none⟩ (.int .i64 xl)).setCell ⟨B6, 3, none⟩ (.int .i64 xh)).setCell ⟨B6, 4, none⟩ (.int .i64 xf)).setCell ⟨B6, 5, none⟩ (.int .i64 xb)).setCell ⟨B7, 0, none⟩ (.int .i64 K)).setCell ⟨B7, 1, none⟩ (.bool yno)).setCell ⟨B7, 2, none⟩ (.int .i64 yl)).setCell ⟨B7, 3, none⟩ (.int .i64 yh)).setCell ⟨B7, 4, none⟩ (.int .i64 yf)).setCell ⟨B7, 5, none⟩ (.int .i64 yb)).cell? ⟨B6, 3, none⟩ = some (.int .i64 xh) := E6.out.cell 3 rfl
    have g4 : ((((((((((((w2.setCell ⟨B6, 0, none⟩ (.int .i64 K)).setCell ⟨B6, 1, none⟩ (.bool xno)).setCell ⟨B6, 2, none⟩ (.int .i64 xl)).setCell ⟨B6, 3, none⟩ (.int .i64 xh)).setCell ⟨B6, 4, none⟩ (.int .i64 xf)).setCell ⟨B6, 5, none⟩ (.int .i64 xb)).setCell ⟨B7, 0, none⟩ (.int .i64 K)).setCell ⟨B7, 1, none⟩ (.bool yno)).setCell ⟨B7, 2, none⟩ (.int .i64 yl)).setCell ⟨B7, 3, none⟩ (.int .i64 yh)).setCell ⟨B7, 4, none⟩ (.int .i64 yf)).setCell ⟨B7, 5, none⟩ (.int .i64 yb)).cell? ⟨B6, 4, none⟩ = some (.int .i64 xf) := E6.out.cell 4 rfl
    have g5 : ((((((((((((w2.setCell ⟨B6, 0, none⟩ (.int .i64 K)).setCell ⟨B6, 1, none⟩ (.bool xno)).setCell ⟨B6, 2, none⟩ (.int .i64 xl)).setCell ⟨B6, 3, none⟩ (.int .i64 xh)).setCell ⟨B6, 4, none⟩ (.int .i64 xf)).setCell ⟨B6, 5, none⟩ (.int .i64 xb)).setCell ⟨B7, 0, none⟩ (.int .i64 K)).setCell ⟨B7, 1, none⟩ (.bool yno)).setCell ⟨B7, 2, none⟩ (.int .i64 yl)).setCell ⟨B7, 3, none⟩ (.int .i64 yh)).setCell ⟨B7, 4, none⟩ (.int .i64 yf)).setCell ⟨B7, 5, none⟩ (.int .i64 yb)).cell? ⟨B6, 5, none⟩ = some (.int .i64 xb) := E6.out.cell 5 rfl
    have k0 : ((((((((((((w2.setCell ⟨B6, 0, none⟩ (.int .i64 K)).setCell ⟨B6, 1, none⟩ (.bool xno)).setCell ⟨B6, 2, none⟩ (.int .i64 xl)).setCell ⟨B6, 3, none⟩ (.int .i64 xh)).setCell ⟨B6, 4, none⟩ (.int .i64 xf)).setCell ⟨B6, 5, none⟩ (.int .i64 xb)).setCell ⟨B7, 0, none⟩ (.int .i64 K)).setCell ⟨B7, 1, none⟩ (.bool yno)).setCell ⟨B7, 2, none⟩ (.int .i64 yl)).setCell ⟨B7, 3, none⟩ (.int .i64 yh)).setCell ⟨B7, 4, none⟩ (.int .i64 yf)).setCell ⟨B7, 5, none⟩ (.int .i64 yb)).cell? ⟨B7, 0, none⟩ = some (.int .i64 K) := E7.out.cell 0 rfl
    have k1 : ((((((((((((w2.setCell ⟨B6, 0, none⟩ (.int .i64 K)).setCell ⟨B6, 1, none⟩ (.bool xno)).setCell ⟨B6, 2, none⟩ (.int .i64 xl)).setCell ⟨B6, 3, none⟩ (.int .i64 xh)).setCell ⟨B6, 4, none⟩ (.int .i64 xf)).setCell ⟨B6, 5, none⟩ (.int .i64 xb)).setCell ⟨B7, 0, none⟩ (.int .i64 K)).setCell ⟨B7, 1, none⟩ (.bool yno)).setCell ⟨B7, 2, none⟩ (.int .i64 yl)).setCell ⟨B7, 3, none⟩ (.int .i64 yh)).setCell ⟨B7, 4, none⟩ (.int .i64 yf)).setCell ⟨B7, 5, none⟩ (.int .i64 yb)).cell? ⟨B7, 1, none⟩ = some (.bool yno) := E7.out.cell 1 rfl
    have k2 : ((((((((((((w2.setCell ⟨B6, 0, none⟩ (.int .i64 K)).setCell ⟨B6, 1, none⟩ (.bool xno)).setCell ⟨B6, 2, none⟩ (.int .i64 xl)).setCell ⟨B6, 3, none⟩ (.int .i64 xh)).setCell ⟨B6, 4, none⟩ (.int .i64 xf)).setCell ⟨B6, 5, none⟩ (.int .i64 xb)).setCell ⟨B7, 0, none⟩ (.int .i64 K)).setCell ⟨B7, 1, none⟩ (.bool yno)).setCell ⟨B7, 2, none⟩ (.int .i64 yl)).setCell ⟨B7, 3, none⟩ (.int .i64 yh)).setCell ⟨B7, 4, none⟩ (.int .i64 yf)).setCell ⟨B7, 5, none⟩ (.int .i64 yb)).cell? ⟨B7, 2, none⟩ = some (.int .i64 yl) := E7.out.cell 2 rfl
    have k3 : ((((((((((((w2.setCell ⟨B6, 0, none⟩ (.int .i64 K)).setCell ⟨B6, 1, none⟩ (.bool xno)).setCell ⟨B6, 2, none⟩ (.int .i64 xl)).setCell ⟨B6, 3, none⟩ (.int .i64 xh)).setCell ⟨B6, 4, none⟩ (.int .i64 xf)).setCell ⟨B6, 5, none⟩ (.int .i64 xb)).setCell ⟨B7, 0, none⟩ (.int .i64 K)).setCell ⟨B7, 1, none⟩ (.bool yno)).setCell ⟨B7, 2, none⟩ (.int .i64 yl)).setCell ⟨B7, 3, none⟩ (.int .i64 yh)).setCell ⟨B7, 4, none⟩ (.int .i64 yf)).setCell ⟨B7, 5, none⟩ (.int .i64 yb)).cell? ⟨B7, 3, none⟩ = some (.int .i64 yh) := E7.out.cell 3 rfl
    have k4 : ((((((((((((w2.setCell ⟨B6, 0, none⟩ (.int .i64 K)).setCell ⟨B6, 1, none⟩ (.bool xno)).setCell ⟨B6, 2, none⟩ (.int .i64 xl)).setCell ⟨B6, 3, none⟩ (.int .i64 xh)).setCell ⟨B6, 4, none⟩ (.int .i64 xf)).setCell ⟨B6, 5, none⟩ (.int .i64 xb)).setCell ⟨B7, 0, none⟩ (.int .i64 K)).setCell ⟨B7, 1, none⟩ (.bool yno)).setCell ⟨B7, 2, none⟩ (.int .i64 yl)).setCell ⟨B7, 3, none⟩ (.int .i64 yh)).setCell ⟨B7, 4, none⟩ (.int .i64 yf)).setCell ⟨B7, 5, none⟩ (.int .i64 yb)).cell? ⟨B7, 4, none⟩ = some (.int .i64 yf) := E7.out.cell 4 rfl
    have k5 : ((((((((((((w2.setCell ⟨B6, 0, none⟩ (.int .i64 K)).setCell ⟨B6, 1, none⟩ (.bool xno)).setCell ⟨B6, 2, none⟩ (.int .i64 xl)).setCell ⟨B6, 3, none⟩ (.int .i64 xh)).setCell ⟨B6, 4, none⟩ (.int .i64 xf)).setCell ⟨B6, 5, none⟩ (.int .i64 xb)).setCell ⟨B7, 0, none⟩ (.int .i64 K)).setCell ⟨B7, 1, none⟩ (.bool yno)).setCell ⟨B7, 2, none⟩ (.int .i64 yl)).setCell ⟨B7, 3, none⟩ (.int .i64 yh)).setCell ⟨B7, 4, none⟩ (.int .i64 yf)).setCell ⟨B7, 5, none⟩ (.int .i64 yb)).cell? ⟨B7, 5, none⟩ = some (.int .i64 yb) := E7.out.cell 5 rfl
    clear st6 st7 E6 E7 HB0 HB1 HB2 hb2 HPA HPB D6 D7 cM1 cM2 hS
    go_wp2_with fail
    exact bodyPost_ret (v := .tuple #[valV K xno xl xh xf xb, valV K yno yl yh yf yb]) (by simp [results, Tryz.results39, go_sem, g0, g1, g2, g3, g4, g5, k0, k1, k2, k3, k4, k5]) rfl ⟨xno, xl, xh, xf, xb, yno, yl, yh, yf, yb, rfl, okX, X1.out, hbG⟩
end Go.Proofs.YtdbbfcnblgokpaaGreatDoor

/- Package filter: Two, asked what is left of two sets whose members are alike. -/
namespace Go.Proofs.YtdbbfcnblgokpaaGreatDoor
open Go.ChangeShapes Go.WideShapes Go.ChangeAt Go.RowKit Go.Joins Go.Deep
set_option linter.unusedVariables false

theorem ftruth_1 (w : World) : Calls Tryz.prog 38 #[.bool true] w fun e w' => e = .returned (.int .i64 1) ∧ w = w' := by
  go_enter Tryz.func38, Tryz.ntmps38
  go_wp2_with fail
  go_ret
  exact ⟨rfl, rfl⟩
def FTwoPost (K : Nat) (A B : Nat → Prop) (w : World) (e : Ending) (w' : World) : Prop := ∃ xno xl xh xf xb yno yl yh yf yb, e = .returned (.tuple #[valV K xno (xl : Nat) (xh : Nat) (xf : Nat) (xb : Nat), valV K yno (yl : Nat) (yh : Nat) (yf : Nat) (yb : Nat), .int .i64 0]) ∧ ValOk K xno xl xh xf xb ∧ (∀ z, A z → B z → MemV K xno xl xh xf xb z) ∧ Below w.heap.size w w'
set_option maxRecDepth 100000 in
set_option maxHeartbeats 1600000 in
theorem FTwo_yes (kd : Int) (hk : 1 ≤ kd ∧ kd ≤ 6) (K : Nat) (hK : Al.widthI kd = K) (no : Bool) (l h f b : Nat) (no2 : Bool) (l2 h2 f2 b2 : Nat) (okA : ValOk K no l h f b) (okB : ValOk K no2 l2 h2 f2 b2) (hmA : mayB K no l h f b = true) (hmB : mayB K no2 l2 h2 f2 b2 = true)
    (hc : ∃ z, MemV K no l h f b z ∧ MemV K no2 l2 h2 f2 b2 z) (w : World) :
    Calls Tryz.prog 25 #[.int .i64 18, .int .i64 kd, valV K no l h f b, valV K no2 l2 h2 f2 b2, .bool true] w (FTwoPost K (MemV K no l h f b) (MemV K no2 l2 h2 f2 b2) w) := by
  obtain ⟨dA0, dB0, hb1⟩ := two_boxes w #[.int .i64 K, .bool no, .int .i64 l, .int .i64 h, .int .i64 f, .int .i64 b] #[.int .i64 K, .bool no2, .int .i64 l2, .int .i64 h2, .int .i64 f2, .int .i64 b2] 28
  obtain ⟨d10, d11, hb2⟩ := two_boxes ((w.alloc (.cells #[.int .i64 K, .bool no, .int .i64 l, .int .i64 h, .int .i64 f, .int .i64 b] 28)).alloc (.cells #[.int .i64 K, .bool no2, .int .i64 l2, .int .i64 h2, .int .i64 f2, .int .i64 b2] 28)) #[.int .i64 0, .bool false, .int .i64 0, .int .i64 0, .int .i64 0, .int .i64 0] #[.int .i64 0, .bool false, .int .i64 0, .int .i64 0, .int .i64 0, .int .i64 0] 28
  have dA := At.below' hb2 dA0
  have dB := At.below' hb2 dB0
  have hb0 := hb1.trans (hb2.mono hb1.size)
  have e10 : ((w.alloc (.cells #[.int .i64 K, .bool no, .int .i64 l, .int .i64 h, .int .i64 f, .int .i64 b] 28)).alloc (.cells #[.int .i64 K, .bool no2, .int .i64 l2, .int .i64 h2, .int .i64 f2, .int .i64 b2] 28)).heap.size = w.heap.size + 1 + 1 := by simp
  rw [e10] at d10 d11
  obtain ⟨B10, hB10⟩ : ∃ B, B = w.heap.size + 1 + 1 := ⟨_, rfl⟩
  obtain ⟨B11, hB11⟩ : ∃ B, B = w.heap.size + 1 + 1 + 1 := ⟨_, rfl⟩
  have hw10 : w.heap.size ≤ B10 := by omega
  have hw11 : w.heap.size ≤ B11 := by omega
  have h1011 : B10 ≠ B11 := by omega
  have h1110 : B11 ≠ B10 := by omega
  rw [← hB11] at d11
  rw [← hB10] at d10
  have HB10 := Lib.hid hB10
  have HB11 := Lib.hid hB11
  have HC := Lib.hid hc
  have cT := fun w => MTwo_eq kd hk K hK no l h f b no2 l2 h2 f2 b2 okA okB hmA hmB (hc.elim fun z hz => ⟨z, hz.1⟩) (hc.elim fun z hz => ⟨z, hz.2⟩) w
  clear dA0 dB0 hb1 hb2 e10 hB10 hB11 hk hK hc
  go_enter Tryz.func25, Tryz.ntmps25
  go_upto_region 3 with (fail)
  rw [← HB11.out, ← HB10.out]
  generalize ((((w.alloc (.cells #[.int .i64 K, .bool no, .int .i64 l, .int .i64 h, .int .i64 f, .int .i64 b] 28)).alloc (.cells #[.int .i64 K, .bool no2, .int .i64 l2, .int .i64 h2, .int .i64 f2, .int .i64 b2] 28)).alloc (.cells #[.int .i64 0, .bool false, .int .i64 0, .int .i64 0, .int .i64 0, .int .i64 0] 28)).alloc (.cells #[.int .i64 0, .bool false, .int .i64 0, .int .i64 0, .int .i64 0, .int .i64 0] 28)) = w0 at *
  have p0 : w0.cell? ⟨w.heap.size, 0, none⟩ = some (.int .i64 K) := dA.cell 0 rfl
  have p1 : w0.cell? ⟨w.heap.size, 1, none⟩ = some (.bool no) := dA.cell 1 rfl
  have p2 : w0.cell? ⟨w.heap.size, 2, none⟩ = some (.int .i64 l) := dA.cell 2 rfl
  have p3 : w0.cell? ⟨w.heap.size, 3, none⟩ = some (.int .i64 h) := dA.cell 3 rfl
  have p4 : w0.cell? ⟨w.heap.size, 4, none⟩ = some (.int .i64 f) := dA.cell 4 rfl
  have p5 : w0.cell? ⟨w.heap.size, 5, none⟩ = some (.int .i64 b) := dA.cell 5 rfl
  have q0 : w0.cell? ⟨w.heap.size + 1, 0, none⟩ = some (.int .i64 K) := dB.cell 0 rfl
  have q1 : w0.cell? ⟨w.heap.size + 1, 1, none⟩ = some (.bool no2) := dB.cell 1 rfl
  have q2 : w0.cell? ⟨w.heap.size + 1, 2, none⟩ = some (.int .i64 l2) := dB.cell 2 rfl
  have q3 : w0.cell? ⟨w.heap.size + 1, 3, none⟩ = some (.int .i64 h2) := dB.cell 3 rfl
  have q4 : w0.cell? ⟨w.heap.size + 1, 4, none⟩ = some (.int .i64 f2) := dB.cell 4 rfl
  have q5 : w0.cell? ⟨w.heap.size + 1, 5, none⟩ = some (.int .i64 b2) := dB.cell 5 rfl
  go_wp2_with fail
  refine (cT _).mono ?_
  rintro e w1 ⟨tno, tl, th, tf, tb, rfl, okT, hmT, heq, hb1⟩
  have ht1 := heq.1 HC.out
  have HT1 := Lib.hid ht1
  replace dA := At.below' hb1 dA
  replace dB := At.below' hb1 dB
  replace d10 := At.below' hb1 d10
  replace d11 := At.below' hb1 d11
  replace hb0 := hb0.trans (hb1.mono hb0.size)
  clear hb1
  clear heq ht1 cT p0 q0 p1 q1 p2 q2 p3 q3 p4 q4 p5 q5
  have dT := At.new w1 #[.int .i64 32, .bool tno, .int .i64 tl, .int .i64 th, .int .i64 tf, .int .i64 tb] 28
  obtain ⟨BT, hBT⟩ : ∃ B, B = w1.heap.size := ⟨_, rfl⟩
  rw [← hBT] at dT
  replace dA := At.alloc dA (.cells #[.int .i64 32, .bool tno, .int .i64 tl, .int .i64 th, .int .i64 tf, .int .i64 tb] 28)
  replace dB := At.alloc dB (.cells #[.int .i64 32, .bool tno, .int .i64 tl, .int .i64 th, .int .i64 tf, .int .i64 tb] 28)
  replace d10 := At.alloc d10 (.cells #[.int .i64 32, .bool tno, .int .i64 tl, .int .i64 th, .int .i64 tf, .int .i64 tb] 28)
  replace d11 := At.alloc d11 (.cells #[.int .i64 32, .bool tno, .int .i64 tl, .int .i64 th, .int .i64 tf, .int .i64 tb] 28)
  replace hb0 := hb0.alloc hb0.size (.cells #[.int .i64 32, .bool tno, .int .i64 tl, .int .i64 th, .int .i64 tf, .int .i64 tb] 28)
  go_upto_region 6 with (fail)
  rw [← hBT]
  clear hBT
  generalize w1.alloc (.cells #[.int .i64 32, .bool tno, .int .i64 tl, .int .i64 th, .int .i64 tf, .int .i64 tb] 28) = w2 at *
  have cH : ∀ w, Calls Tryz.prog 13 #[.agg #[.int .i64 32, .bool tno, .int .i64 tl, .int .i64 th, .int .i64 tf, .int .i64 tb], .int .i64 1] w (fun e w' => e = .returned (.tuple #[.bool true, .int .i64 0]) ∧ Below w.heap.size w w') := fun w => (Has_yes 32 tno tl th tf tb 1 okT hmT (by decide) w).mono (by
    rintro e w' ⟨is, his, rfl, hb⟩
    rw [his.2 HT1.out]
    exact ⟨rfl, hb⟩)
  go_cut [15, 16] from 43 to 49 (fun v15 v16 wx => v15 = .bool true ∧ v16 = .int .i64 0 ∧ Below w2.heap.size w2 wx)
  case first =>
    have ht0 := fun p : BelowBy w2 => p.cell (dT.cell 0 rfl : w2.cell? ⟨BT, 0, none⟩ = some (.int .i64 32))
    have ht1 := fun p : BelowBy w2 => p.cell (dT.cell 1 rfl : w2.cell? ⟨BT, 1, none⟩ = some (.bool tno))
    have ht2 := fun p : BelowBy w2 => p.cell (dT.cell 2 rfl : w2.cell? ⟨BT, 2, none⟩ = some (.int .i64 tl))
    have ht3 := fun p : BelowBy w2 => p.cell (dT.cell 3 rfl : w2.cell? ⟨BT, 3, none⟩ = some (.int .i64 th))
    have ht4 := fun p : BelowBy w2 => p.cell (dT.cell 4 rfl : w2.cell? ⟨BT, 4, none⟩ = some (.int .i64 tf))
    have ht5 := fun p : BelowBy w2 => p.cell (dT.cell 5 rfl : w2.cell? ⟨BT, 5, none⟩ = some (.int .i64 tb))
    clear dA dB d10 d11 dT hb0 okT hmT HT1 HC okA okB hmA hmB
    refine wp_region_quiet_below (by kernel_rfl) (by kernel_rfl) ?_
    repeat (go_big_quiet_step (((first | (go_at_call 38; with_reducible exact Calls.below_same (ftruth_1 _)) | (go_at_call 13; with_reducible exact Calls.below_of (cH _))))))
    refine wpQuiet_nil ?_
    intro wx hw'
    obtain ⟨⟨wx', hbx⟩, hw''⟩ := hw'
    subst hw''
    go_wp2_with fail
    go_meet
    exact ⟨rfl, rfl, hbx⟩
  case rest =>
  obtain ⟨rfl, rfl, hb3⟩ := hcut
  generalize wc = w3 at *
  clear dT cH okT hmT HT1
  replace dA := At.below' hb3 dA
  replace dB := At.below' hb3 dB
  replace d10 := At.below' hb3 d10
  replace d11 := At.below' hb3 d11
  replace hb0 := hb0.trans (hb3.mono hb0.size)
  clear hb3
  go_upto_region 10 with (fail)
  have p0 : w3.cell? ⟨w.heap.size, 0, none⟩ = some (.int .i64 K) := dA.cell 0 rfl
  have p1 : w3.cell? ⟨w.heap.size, 1, none⟩ = some (.bool no) := dA.cell 1 rfl
  have p2 : w3.cell? ⟨w.heap.size, 2, none⟩ = some (.int .i64 l) := dA.cell 2 rfl
  have p3 : w3.cell? ⟨w.heap.size, 3, none⟩ = some (.int .i64 h) := dA.cell 3 rfl
  have p4 : w3.cell? ⟨w.heap.size, 4, none⟩ = some (.int .i64 f) := dA.cell 4 rfl
  have p5 : w3.cell? ⟨w.heap.size, 5, none⟩ = some (.int .i64 b) := dA.cell 5 rfl
  have q0 : w3.cell? ⟨w.heap.size + 1, 0, none⟩ = some (.int .i64 K) := dB.cell 0 rfl
  have q1 : w3.cell? ⟨w.heap.size + 1, 1, none⟩ = some (.bool no2) := dB.cell 1 rfl
  have q2 : w3.cell? ⟨w.heap.size + 1, 2, none⟩ = some (.int .i64 l2) := dB.cell 2 rfl
  have q3 : w3.cell? ⟨w.heap.size + 1, 3, none⟩ = some (.int .i64 h2) := dB.cell 3 rfl
  have q4 : w3.cell? ⟨w.heap.size + 1, 4, none⟩ = some (.int .i64 f2) := dB.cell 4 rfl
  have q5 : w3.cell? ⟨w.heap.size + 1, 5, none⟩ = some (.int .i64 b2) := dB.cell 5 rfl
  go_cut [19, 20] from 60 to 63 (fun v19 v20 wx => ∃ pa pb, v19 = .pointer (some ⟨pa, 0, none⟩) ∧ v20 = .pointer (some ⟨pb, 0, none⟩) ∧ At wx pa (fopC K no l h f b) 80 ∧ At wx pb (fopC K no2 l2 h2 f2 b2) 80 ∧ Below w3.heap.size w3 wx)
  case first =>
    have cTA := fun w => ftake_any (K : Int) no (l : Int) (h : Int) (f : Int) (b : Int) w
    have cTB := fun w => ftake_any (K : Int) no2 (l2 : Int) (h2 : Int) (f2 : Int) (b2 : Int) w
    have hS : w3.drew.cell? ⟨w.heap.size, 0, none⟩ = some (.int .i64 K) ∧ w3.drew.cell? ⟨w.heap.size, 1, none⟩ = some (.bool no) ∧ w3.drew.cell? ⟨w.heap.size, 2, none⟩ = some (.int .i64 l) ∧ w3.drew.cell? ⟨w.heap.size, 3, none⟩ = some (.int .i64 h) ∧ w3.drew.cell? ⟨w.heap.size, 4, none⟩ = some (.int .i64 f) ∧ w3.drew.cell? ⟨w.heap.size, 5, none⟩ = some (.int .i64 b) ∧ w3.drew.cell? ⟨w.heap.size + 1, 0, none⟩ = some (.int .i64 K) ∧ w3.drew.cell? ⟨w.heap.size + 1, 1, none⟩ = some (.bool no2) ∧ w3.drew.cell? ⟨w.heap.size + 1, 2, none⟩ = some (.int .i64 l2) ∧ w3.drew.cell? ⟨w.heap.size + 1, 3, none⟩ = some (.int .i64 h2) ∧ w3.drew.cell? ⟨w.heap.size + 1, 4, none⟩ = some (.int .i64 f2) ∧ w3.drew.cell? ⟨w.heap.size + 1, 5, none⟩ = some (.int .i64 b2) := ⟨p0, p1, p2, p3, p4, p5, q0, q1, q2, q3, q4, q5⟩
    have hbw := Below.refl w3.heap.size w3
    clear dA dB d10 d11 hb0 okA okB hmA hmB HC p0 q0 p1 q1 p2 q2 p3 q3 p4 q4 p5 q5
    go_region_held3 (fun w' => w'.cell? ⟨w.heap.size, 0, none⟩ = some (.int .i64 K) ∧ w'.cell? ⟨w.heap.size, 1, none⟩ = some (.bool no) ∧ w'.cell? ⟨w.heap.size, 2, none⟩ = some (.int .i64 l) ∧ w'.cell? ⟨w.heap.size, 3, none⟩ = some (.int .i64 h) ∧ w'.cell? ⟨w.heap.size, 4, none⟩ = some (.int .i64 f) ∧ w'.cell? ⟨w.heap.size, 5, none⟩ = some (.int .i64 b) ∧ w'.cell? ⟨w.heap.size + 1, 0, none⟩ = some (.int .i64 K) ∧ w'.cell? ⟨w.heap.size + 1, 1, none⟩ = some (.bool no2) ∧ w'.cell? ⟨w.heap.size + 1, 2, none⟩ = some (.int .i64 l2) ∧ w'.cell? ⟨w.heap.size + 1, 3, none⟩ = some (.int .i64 h2) ∧ w'.cell? ⟨w.heap.size + 1, 4, none⟩ = some (.int .i64 f2) ∧ w'.cell? ⟨w.heap.size + 1, 5, none⟩ = some (.int .i64 b2))
      (first
        | with_reducible exact hS
        | with_reducible exact keep12_below hS HB1.out
        | with_reducible exact keep12_below (keep12_below hS HB1.out) HB2.out)
      ((go_at_call 14; first
        | (with_reducible refine (cTA _).mono ?_
           rintro e w4 ⟨pa, rfl, hPA, hpa, hb1⟩
           have HB1 := Lib.hid hb1
           have HPA := Lib.hid hPA
           clear hb1 hPA hpa)
        | (with_reducible refine (cTB _).mono ?_
           rintro e w4b ⟨pb, rfl, hPB, hpb, hb2⟩
           have HB2 := Lib.hid hb2
           have HPB := Lib.hid hPB
           clear hb2 hPB hpb)))
    all_goals
      go_wp2_with fail
      go_meet
      exact ⟨pa, pb, rfl, rfl, At.below' HB2.out HPA.out, HPB.out, (hbw.drew.trans HB1.out).trans (HB2.out.mono (hbw.drew.trans HB1.out).size)⟩
  case rest =>
  obtain ⟨pa, pb, rfl, rfl, hPA, hPB, hb4⟩ := hcut
  generalize wc = w4 at *
  clear dA dB p0 q0 p1 q1 p2 q2 p3 q3 p4 q4 p5 q5
  replace d10 := At.below' hb4 d10
  replace d11 := At.below' hb4 d11
  replace hb0 := hb0.trans (hb4.mono hb0.size)
  clear hb4
  have cE := fequal_yes pa pb K no l h f b no2 l2 h2 f2 b2 okA okB hmA hmB w4 hPA hPB
  clear okA okB hmA hmB hPA hPB
  go_wp2_with fail
  refine cE.mono ?_
  rintro e w5 ⟨xno, xl, xh, xf, xb, yno, yl, yh, yf, yb, rfl, okX, x1, hb5⟩
  have X1 := Lib.hid x1
  replace d10 := At.below' hb5 d10
  replace d11 := At.below' hb5 d11
  replace hb0 := hb0.trans (hb5.mono hb0.size)
  clear hb5
  clear x1 cE
  have st10 := store6 d10 (.int .i64 K) (.bool xno) (.int .i64 xl) (.int .i64 xh) (.int .i64 xf) (.int .i64 xb)
  have d11k := At.keeps d11 (store6_keeps w5 B10 (.int .i64 K) (.bool xno) (.int .i64 xl) (.int .i64 xh) (.int .i64 xf) (.int .i64 xb)) h1110
  have st11 := store6 d11k (.int .i64 K) (.bool yno) (.int .i64 yl) (.int .i64 yh) (.int .i64 yf) (.int .i64 yb)
  have e10 := At.keeps (store6_at d10 (.int .i64 K) (.bool xno) (.int .i64 xl) (.int .i64 xh) (.int .i64 xf) (.int .i64 xb)) (store6_keeps ((((((w5.setCell ⟨B10, 0, none⟩ (.int .i64 K)).setCell ⟨B10, 1, none⟩ (.bool xno)).setCell ⟨B10, 2, none⟩ (.int .i64 xl)).setCell ⟨B10, 3, none⟩ (.int .i64 xh)).setCell ⟨B10, 4, none⟩ (.int .i64 xf)).setCell ⟨B10, 5, none⟩ (.int .i64 xb)) B11 (.int .i64 K) (.bool yno) (.int .i64 yl) (.int .i64 yh) (.int .i64 yf) (.int .i64 yb)) h1011
  have e11 := store6_at d11k (.int .i64 K) (.bool yno) (.int .i64 yl) (.int .i64 yh) (.int .i64 yf) (.int .i64 yb)
  have hb6 := store6_below (store6_below hb0 hw10 (.int .i64 K) (.bool xno) (.int .i64 xl) (.int .i64 xh) (.int .i64 xf) (.int .i64 xb)) hw11 (.int .i64 K) (.bool yno) (.int .i64 yl) (.int .i64 yh) (.int .i64 yf) (.int .i64 yb)
  clear d10 d11 d11k hb0
  go_upto_region 13 with (fail)
  clear st10 st11
  generalize ((((((((((((w5.setCell ⟨B10, 0, none⟩ (.int .i64 K)).setCell ⟨B10, 1, none⟩ (.bool xno)).setCell ⟨B10, 2, none⟩ (.int .i64 xl)).setCell ⟨B10, 3, none⟩ (.int .i64 xh)).setCell ⟨B10, 4, none⟩ (.int .i64 xf)).setCell ⟨B10, 5, none⟩ (.int .i64 xb)).setCell ⟨B11, 0, none⟩ (.int .i64 K)).setCell ⟨B11, 1, none⟩ (.bool yno)).setCell ⟨B11, 2, none⟩ (.int .i64 yl)).setCell ⟨B11, 3, none⟩ (.int .i64 yh)).setCell ⟨B11, 4, none⟩ (.int .i64 yf)).setCell ⟨B11, 5, none⟩ (.int .i64 yb)) = w6 at *
  have x0 : w6.cell? ⟨B10, 0, none⟩ = some (.int .i64 K) := e10.cell 0 rfl
  have x1 : w6.cell? ⟨B10, 1, none⟩ = some (.bool xno) := e10.cell 1 rfl
  have x2 : w6.cell? ⟨B10, 2, none⟩ = some (.int .i64 xl) := e10.cell 2 rfl
  have x3 : w6.cell? ⟨B10, 3, none⟩ = some (.int .i64 xh) := e10.cell 3 rfl
  have x4 : w6.cell? ⟨B10, 4, none⟩ = some (.int .i64 xf) := e10.cell 4 rfl
  have x5 : w6.cell? ⟨B10, 5, none⟩ = some (.int .i64 xb) := e10.cell 5 rfl
  have y0 : w6.cell? ⟨B11, 0, none⟩ = some (.int .i64 K) := e11.cell 0 rfl
  have y1 : w6.cell? ⟨B11, 1, none⟩ = some (.bool yno) := e11.cell 1 rfl
  have y2 : w6.cell? ⟨B11, 2, none⟩ = some (.int .i64 yl) := e11.cell 2 rfl
  have y3 : w6.cell? ⟨B11, 3, none⟩ = some (.int .i64 yh) := e11.cell 3 rfl
  have y4 : w6.cell? ⟨B11, 4, none⟩ = some (.int .i64 yf) := e11.cell 4 rfl
  have y5 : w6.cell? ⟨B11, 5, none⟩ = some (.int .i64 yb) := e11.cell 5 rfl
  have st10 := store6 e10 (.int .i64 K) (.bool xno) (.int .i64 xl) (.int .i64 xh) (.int .i64 xf) (.int .i64 xb)
  have d11k := At.keeps e11 (store6_keeps w6 B10 (.int .i64 K) (.bool xno) (.int .i64 xl) (.int .i64 xh) (.int .i64 xf) (.int .i64 xb)) h1110
  have st11 := store6 d11k (.int .i64 K) (.bool yno) (.int .i64 yl) (.int .i64 yh) (.int .i64 yf) (.int .i64 yb)
  have E10 := Lib.hid (At.keeps (store6_at e10 (.int .i64 K) (.bool xno) (.int .i64 xl) (.int .i64 xh) (.int .i64 xf) (.int .i64 xb)) (store6_keeps ((((((w6.setCell ⟨B10, 0, none⟩ (.int .i64 K)).setCell ⟨B10, 1, none⟩ (.bool xno)).setCell ⟨B10, 2, none⟩ (.int .i64 xl)).setCell ⟨B10, 3, none⟩ (.int .i64 xh)).setCell ⟨B10, 4, none⟩ (.int .i64 xf)).setCell ⟨B10, 5, none⟩ (.int .i64 xb)) B11 (.int .i64 K) (.bool yno) (.int .i64 yl) (.int .i64 yh) (.int .i64 yf) (.int .i64 yb)) h1011)
  have E11 := Lib.hid (store6_at d11k (.int .i64 K) (.bool yno) (.int .i64 yl) (.int .i64 yh) (.int .i64 yf) (.int .i64 yb))
  have HB6 := Lib.hid (store6_below (store6_below hb6 hw10 (.int .i64 K) (.bool xno) (.int .i64 xl) (.int .i64 xh) (.int .i64 xf) (.int .i64 xb)) hw11 (.int .i64 K) (.bool yno) (.int .i64 yl) (.int .i64 yh) (.int .i64 yf) (.int .i64 yb))
  clear e10 e11 d11k hb6
  go_region
  all_goals
    have hbG := HB6.out.drew
    have g0 : ((((((((((((w6.setCell ⟨B10, 0, none⟩ (.int .i64 K)).setCell ⟨B10, 1, none⟩ (.bool xno)).setCell ⟨B10, 2, none⟩ (.int .i64 xl)).setCell ⟨B10, 3, none⟩ (.int .i64 xh)).setCell ⟨B10, 4, none⟩ (.int .i64 xf)).setCell ⟨B10, 5, none⟩ (.int .i64 xb)).setCell ⟨B11, 0, none⟩ (.int .i64 K)).setCell ⟨B11, 1, none⟩ (.bool yno)).setCell ⟨B11, 2, none⟩ (.int .i64 yl)).setCell ⟨B11, 3, none⟩ (.int .i64 yh)).setCell ⟨B11, 4, none⟩ (.int .i64 yf)).setCell ⟨B11, 5, none⟩ (.int .i64 yb)).drew.cell? ⟨B10, 0, none⟩ = some (.int .i64 K) := (At.drew E10.out).cell 0 rfl
    have g1 : ((((((((((((w6.setCell ⟨B10, 0, none⟩ (.int .i64 K)).setCell ⟨B10, 1, none⟩ (.bool xno)).setCell ⟨B10, 2, none⟩ (.int .i64 xl)).setCell ⟨B10, 3, none⟩ (.int .i64 xh)).setCell ⟨B10, 4, none⟩ (.int .i64 xf)).setCell ⟨B10, 5, none⟩ (.int .i64 xb)).setCell ⟨B11, 0, none⟩ (.int .i64 K)).setCell ⟨B11, 1, none⟩ (.bool yno)).setCell ⟨B11, 2, none⟩ (.int .i64 yl)).setCell ⟨B11, 3, none⟩ (.int .i64 yh)).setCell ⟨B11, 4, none⟩ (.int .i64 yf)).setCell ⟨B11, 5, none⟩ (.int .i64 yb)).drew.cell? ⟨B10, 1, none⟩ = some (.bool xno) := (At.drew E10.out).cell 1 rfl
    have g2 : ((((((((((((w6.setCell ⟨B10, 0, none⟩ (.int .i64 K)).setCell ⟨B10, 1, none⟩ (.bool xno)).setCell ⟨B10, 2, none⟩ (.int .i64 xl)).setCell ⟨B10, 3, none⟩ (.int .i64 xh)).setCell ⟨B10, 4, none⟩ (.int .i64 xf)).setCell ⟨B10, 5, none⟩ (.int .i64 xb)).setCell ⟨B11, 0, none⟩ (.int .i64 K)).setCell ⟨B11, 1, none⟩ (.bool yno)).setCell ⟨B11, 2, none⟩ (.int .i64 yl)).setCell ⟨B11, 3, none⟩ (.int .i64 yh)).setCell ⟨B11, 4, none⟩ (.int .i64 yf)).setCell ⟨B11, 5, none⟩ (.int .i64 yb)).drew.cell? ⟨B10, 2, none⟩ = some (.int .i64 xl) := (At.drew E10.out).cell 2 rfl
    have g3 : ((((((((((((w6.setCell ⟨B10, 0, none⟩ (.int .i64 K)).setCell ⟨B10, 1, none⟩ (.bool xno)).setCell ⟨B10, 2, none⟩ (.int .i64 xl)).setCell ⟨B10, 3, none⟩ (.int .i64 xh)).setCell ⟨B10, 4, none⟩ (.int .i64 xf)).setCell ⟨B10, 5, none⟩ (.int .i64 xb)).setCell ⟨B11, 0, none⟩ (.int .i64 K)).setCell ⟨B11, 1, none⟩ (.bool yno)).setCell ⟨B11, 2, none⟩ (.int .i64 yl)).setCell ⟨B11, 3, none⟩ (.int .i64 yh)).setCell ⟨B11, 4, none⟩ (.int .i64 yf)).setCell ⟨B11, 5, none⟩ (.int .i64 yb)).drew.cell? ⟨B10, 3, none⟩ = some (.int .i64 xh) := (At.drew E10.out).cell 3 rfl
    have g4 : ((((((((((((w6.setCell ⟨B10, 0, none⟩ (.int .i64 K)).setCell ⟨B10, 1, none⟩ (.bool xno)).setCell ⟨B10, 2, none⟩ (.int .i64 xl)).setCell ⟨B10, 3, none⟩ (.int .i64 xh)).setCell ⟨B10, 4, none⟩ (.int .i64 xf)).setCell ⟨B10, 5, none⟩ (.int .i64 xb)).setCell ⟨B11, 0, none⟩ (.int .i64 K)).setCell ⟨B11, 1, none⟩ (.bool yno)).setCell ⟨B11, 2, none⟩ (.int .i64 yl)).setCell ⟨B11, 3, none⟩ (.int .i64 yh)).setCell ⟨B11, 4, none⟩ (.int .i64 yf)).setCell ⟨B11, 5, none⟩ (.int .i64 yb)).drew.cell? ⟨B10, 4, none⟩ = some (.int .i64 xf) := (At.drew E10.out).cell 4 rfl
    have g5 : ((((((((((((w6.setCell ⟨B10, 0, none⟩ (.int .i64 K)).setCell ⟨B10, 1, none⟩ (.bool xno)).setCell ⟨B10, 2, none⟩ (.int .i64 xl)).setCell ⟨B10, 3, none⟩ (.int .i64 xh)).setCell ⟨B10, 4, none⟩ (.int .i64 xf)).setCell ⟨B10, 5, none⟩ (.int .i64 xb)).setCell ⟨B11, 0, none⟩ (.int .i64 K)).setCell ⟨B11, 1, none⟩ (.bool yno)).setCell ⟨B11, 2, none⟩ (.int .i64 yl)).setCell ⟨B11, 3, none⟩ (.int .i64 yh)).setCell ⟨B11, 4, none⟩ (.int .i64 yf)).setCell ⟨B11, 5, none⟩ (.int .i64 yb)).drew.cell? ⟨B10, 5, none⟩ = some (.int .i64 xb) := (At.drew E10.out).cell 5 rfl
    have k0 : ((((((((((((w6.setCell ⟨B10, 0, none⟩ (.int .i64 K)).setCell ⟨B10, 1, none⟩ (.bool xno)).setCell ⟨B10, 2, none⟩ (.int .i64 xl)).setCell ⟨B10, 3, none⟩ (.int .i64 xh)).setCell ⟨B10, 4, none⟩ (.int .i64 xf)).setCell ⟨B10, 5, none⟩ (.int .i64 xb)).setCell ⟨B11, 0, none⟩ (.int .i64 K)).setCell ⟨B11, 1, none⟩ (.bool yno)).setCell ⟨B11, 2, none⟩ (.int .i64 yl)).setCell ⟨B11, 3, none⟩ (.int .i64 yh)).setCell ⟨B11, 4, none⟩ (.int .i64 yf)).setCell ⟨B11, 5, none⟩ (.int .i64 yb)).drew.cell? ⟨B11, 0, none⟩ = some (.int .i64 K) := (At.drew E11.out).cell 0 rfl
    have k1 : ((((((((((((w6.setCell ⟨B10, 0, none⟩ (.int .i64 K)).setCell ⟨B10, 1, none⟩ (.bool xno)).setCell ⟨B10, 2, none⟩ (.int .i64 xl)).setCell ⟨B10, 3, none⟩ (.int .i64 xh)).setCell ⟨B10, 4, none⟩ (.int .i64 xf)).setCell ⟨B10, 5, none⟩ (.int .i64 xb)).setCell ⟨B11, 0, none⟩ (.int .i64 K)).setCell ⟨B11, 1, none⟩ (.bool yno)).setCell ⟨B11, 2, none⟩ (.int .i64 yl)).setCell ⟨B11, 3, none⟩ (.int .i64 yh)).setCell ⟨B11, 4, none⟩ (.int .i64 yf)).setCell ⟨B11, 5, none⟩ (.int .i64 yb)).drew.cell? ⟨B11, 1, none⟩ = some (.bool yno) := (At.drew E11.out).cell 1 rfl
    have k2 : ((((((((((((w6.setCell ⟨B10, 0, none⟩ (.int .i64 K)).setCell ⟨B10, 1, none⟩ (.bool xno)).setCell ⟨B10, 2, none⟩ (.int .i64 xl)).setCell ⟨B10, 3, none⟩ (.int .i64 xh)).setCell ⟨B10, 4, none⟩ (.int .i64 xf)).setCell ⟨B10, 5, none⟩ (.int .i64 xb)).setCell ⟨B11, 0, none⟩ (.int .i64 K)).setCell ⟨B11, 1, none⟩ (.bool yno)).setCell ⟨B11, 2, none⟩ (.int .i64 yl)).setCell ⟨B11, 3, none⟩ (.int .i64 yh)).setCell ⟨B11, 4, none⟩ (.int .i64 yf)).setCell ⟨B11, 5, none⟩ (.int .i64 yb)).drew.cell? ⟨B11, 2, none⟩ = some (.int .i64 yl) := (At.drew E11.out).cell 2 rfl
    have k3 : ((((((((((((w6.setCell ⟨B10, 0, none⟩ (.int .i64 K)).setCell ⟨B10, 1, none⟩ (.bool xno)).setCell ⟨B10, 2, none⟩ (.int .i64 xl)).setCell ⟨B10, 3, none⟩ (.int .i64 xh)).setCell ⟨B10, 4, none⟩ (.int .i64 xf)).setCell ⟨B10, 5, none⟩ (.int .i64 xb)).setCell ⟨B11, 0, none⟩ (.int .i64 K)).setCell ⟨B11, 1, none⟩ (.bool yno)).setCell ⟨B11, 2, none⟩ (.int .i64 yl)).setCell ⟨B11, 3, none⟩ (.int .i64 yh)).setCell ⟨B11, 4, none⟩ (.int .i64 yf)).setCell ⟨B11, 5, none⟩ (.int .i64 yb)).drew.cell? ⟨B11, 3, none⟩ = some (.int .i64 yh) := (At.drew E11.out).cell 3 rfl
    have k4 : ((((((((((((w6.setCell ⟨B10, 0, none⟩ (.int .i64 K)).setCell ⟨B10, 1, none⟩ (.bool xno)).setCell ⟨B10, 2, none⟩ (.int .i64 xl)).setCell ⟨B10, 3, none⟩ (.int .i64 xh)).setCell ⟨B10, 4, none⟩ (.int .i64 xf)).setCell ⟨B10, 5, none⟩ (.int .i64 xb)).setCell ⟨B11, 0, none⟩ (.int .i64 K)).setCell ⟨B11, 1, none⟩ (.bool yno)).setCell ⟨B11, 2, none⟩ (.int .i64 yl)).setCell ⟨B11, 3, none⟩ (.int .i64 yh)).setCell ⟨B11, 4, none⟩ (.int .i64 yf)).setCell ⟨B11, 5, none⟩ (.int .i64 yb)).drew.cell? ⟨B11, 4, none⟩ = some (.int .i64 yf) := (At.drew E11.out).cell 4 rfl
    have k5 : ((((((((((((w6.setCell ⟨B10, 0, none⟩ (.int .i64 K)).setCell ⟨B10, 1, none⟩ (.bool xno)).setCell ⟨B10, 2, none⟩ (.int .i64 xl)).setCell ⟨B10, 3, none⟩ (.int .i64 xh)).setCell ⟨B10, 4, none⟩ (.int .i64 xf)).setCell ⟨B10, 5, none⟩ (.int .i64 xb)).setCell ⟨B11, 0, none⟩ (.int .i64 K)).setCell ⟨B11, 1, none⟩ (.bool yno)).setCell ⟨B11, 2, none⟩ (.int .i64 yl)).setCell ⟨B11, 3, none⟩ (.int .i64 yh)).setCell ⟨B11, 4, none⟩ (.int .i64 yf)).setCell ⟨B11, 5, none⟩ (.int .i64 yb)).drew.cell? ⟨B11, 5, none⟩ = some (.int .i64 yb) := (At.drew E11.out).cell 5 rfl
    clear st10 st11 E10 E11 HB6 x0 y0 x1 y1 x2 y2 x3 y3 x4 y4 x5 y5
    go_wp2_with fail
    exact bodyPost_ret (v := .tuple #[valV K xno xl xh xf xb, valV K yno yl yh yf yb, .int .i64 0]) (by simp [results, Tryz.results25, go_sem, g0, g1, g2, g3, g4, g5, k0, k1, k2, k3, k4, k5]) rfl ⟨xno, xl, xh, xf, xb, yno, yl, yh, yf, yb, rfl, okX, X1.out, hbG⟩
end Go.Proofs.YtdbbfcnblgokpaaGreatDoor
