/- The document on programs: stmt. -/
import Derived.Test.YtncdbjflfhfddaaGreatGRt
namespace Go.Proofs.YtncdbjflfhfddaaGreat
open Go.ChangeShapes Go.WideShapes Go.ChangeAt Go.RowKit Go.Joins Go.Deep
set_option linter.unusedVariables false
set_option linter.unusedSimpArgs false

theorem is_nilG (w : World) : IsIs w (.slice none 0 0) [] := ⟨none, 0, rfl, Nat.zero_le _, Nat.zero_le _, fun h => absurd h (Nat.lt_irrefl 0)⟩
theorem heap_setCell_ltG (w : World) (b j c : Nat) (x : Value) (hc : c ≠ b) : (w.setCell ⟨b, j, none⟩ x).heap[c]? = w.heap[c]? := by
  simp only [World.setCell]
  rw [Array.getElem?_modify]
  simp [Ne.symm hc]
set_option maxRecDepth 100000 in
set_option maxHeartbeats 12800000 in
theorem rStmt_any (P : PX) (v1 v2 v3 v4 v5 vb ve : Value) (hV : P.vars.length ≤ 4) (hN : P.news.length ≤ 2) (op tt k e n : Int) (bd el : List Int) (w : World) (h : IsPr w v1 v2 v3 v4 v5 P) (hb : IsIs w vb bd) (he : IsIs w ve el) : Calls Tryz.prog 31 #[.agg #[.bool P.big, .int .i64 P.ptr, v1, v2, v3, v4, v5], .agg #[.int .i64 op, .int .i64 tt, .int .i64 k, .int .i64 e, .int .i64 n, vb, ve]] w fun e' w' => e' = .returned (.bool (rStmtB P ⟨op, tt, k, e, n, bd, el⟩)) ∧ Below w.heap.size w w' := by
  obtain ⟨q1, k1, rfl, _⟩ := id h.1
  obtain ⟨q2, k2, rfl, _⟩ := id h.2.1
  obtain ⟨q3, k3, rfl, _⟩ := id h.2.2.1
  obtain ⟨q4, k4, rfl, _⟩ := id h.2.2.2.1
  obtain ⟨q5, k5, rfl, _⟩ := id h.2.2.2.2
  obtain ⟨qb, cb, rfl, _⟩ := id hb
  obtain ⟨qe, ce, rfl, _⟩ := id he
  have hb1 := below_box1 w (.cells #[.bool P.big, .int .i64 P.ptr, .slice q1 P.vars.length k1, .slice q2 P.news.length k2, .slice q3 P.exs.length k3, .slice q4 P.sts.length k4, .slice q5 P.main.length k5] 33)
  have hA1 := At.new w #[.bool P.big, .int .i64 P.ptr, .slice q1 P.vars.length k1, .slice q2 P.news.length k2, .slice q3 P.exs.length k3, .slice q4 P.sts.length k4, .slice q5 P.main.length k5] 33
  obtain ⟨w1, hw1⟩ : ∃ w1, w.alloc (.cells #[.bool P.big, .int .i64 P.ptr, .slice q1 P.vars.length k1, .slice q2 P.news.length k2, .slice q3 P.exs.length k3, .slice q4 P.sts.length k4, .slice q5 P.main.length k5] 33) = w1 := ⟨_, rfl⟩
  rw [hw1] at hA1 hb1
  have hb2 := below_box1 w1 (.cells #[.int .i64 op, .int .i64 tt, .int .i64 k, .int .i64 e, .int .i64 n, .slice qb bd.length cb, .slice qe el.length ce] 53)
  have hA2 := At.new w1 #[.int .i64 op, .int .i64 tt, .int .i64 k, .int .i64 e, .int .i64 n, .slice qb bd.length cb, .slice qe el.length ce] 53
  obtain ⟨w2, hw2⟩ : ∃ w2, w1.alloc (.cells #[.int .i64 op, .int .i64 tt, .int .i64 k, .int .i64 e, .int .i64 n, .slice qb bd.length cb, .slice qe el.length ce] 53) = w2 := ⟨_, rfl⟩
  rw [hw2] at hA2 hb2
  have hb12 := hb1.trans (hb2.mono hb1.size)
  have HB2 := Lib.hid hb12
  have hA1' := At.below' hb2 hA1
  have HA := Lib.hid (And.intro hA1' hA2)
  have HI := Lib.hid (And.intro (h.below hb12) (And.intro (hb.below hb12) (he.below hb12)))
  have a0 : w2.cell? ⟨w.heap.size, 0, none⟩ = some (.bool P.big) := hA1'.cell 0 rfl
  have a1 : w2.cell? ⟨w.heap.size, 1, none⟩ = some (.int .i64 P.ptr) := hA1'.cell 1 rfl
  have a2 : w2.cell? ⟨w.heap.size, 2, none⟩ = some (.slice q1 P.vars.length k1) := hA1'.cell 2 rfl
  have a3 : w2.cell? ⟨w.heap.size, 3, none⟩ = some (.slice q2 P.news.length k2) := hA1'.cell 3 rfl
  have a4 : w2.cell? ⟨w.heap.size, 4, none⟩ = some (.slice q3 P.exs.length k3) := hA1'.cell 4 rfl
  have a5 : w2.cell? ⟨w.heap.size, 5, none⟩ = some (.slice q4 P.sts.length k4) := hA1'.cell 5 rfl
  have a6 : w2.cell? ⟨w.heap.size, 6, none⟩ = some (.slice q5 P.main.length k5) := hA1'.cell 6 rfl
  have s0 : w2.cell? ⟨w1.heap.size, 0, none⟩ = some (.int .i64 op) := hA2.cell 0 rfl
  have s1 : w2.cell? ⟨w1.heap.size, 1, none⟩ = some (.int .i64 tt) := hA2.cell 1 rfl
  have s2 : w2.cell? ⟨w1.heap.size, 2, none⟩ = some (.int .i64 k) := hA2.cell 2 rfl
  have s3 : w2.cell? ⟨w1.heap.size, 3, none⟩ = some (.int .i64 e) := hA2.cell 3 rfl
  have s4 : w2.cell? ⟨w1.heap.size, 4, none⟩ = some (.int .i64 n) := hA2.cell 4 rfl
  have s5 : w2.cell? ⟨w1.heap.size, 5, none⟩ = some (.slice qb bd.length cb) := hA2.cell 5 rfl
  have s6 : w2.cell? ⟨w1.heap.size, 6, none⟩ = some (.slice qe el.length ce) := hA2.cell 6 rfl
  have hO := fun w' hb' e k => rOf_any P _ _ _ _ _ e k w' (HI.out.1.below hb')
  have cG := fun m w => rNums_any m w
  have cK := fun m w => Kind_any m w
  have gK : ∀ m, upTo m 1 7 = gS m := fun m => (gS_eq m).symm
  simp only [gK] at cK
  obtain ⟨R, hR⟩ : ∃ R, R = rStmtB P ⟨op, tt, k, e, n, bd, el⟩ := ⟨_, rfl⟩
  rw [← hR]
  have HR := Lib.hid hR
  have i0 : ∀ v : Value, True := fun _ => trivial
  clear h hb he hA1 hA2 hA1' hb1 hb2 hb12 gK hR i0
  go_enter Tryz.func31, Tryz.ntmps31
  go_upto_region 3 with (fail)
  clear hw1 hw2
  have hA3 := At.new w2 #[.int .i64 op, .int .i64 0, .int .i64 0, .int .i64 0, .int .i64 0, .slice none 0 0, .slice none 0 0] 53
  have hb3 := below_box1 w2 (.cells #[.int .i64 op, .int .i64 0, .int .i64 0, .int .i64 0, .int .i64 0, .slice none 0 0, .slice none 0 0] 53)
  obtain ⟨w3, hw3⟩ : ∃ w3, w2.alloc (.cells #[.int .i64 op, .int .i64 0, .int .i64 0, .int .i64 0, .int .i64 0, .slice none 0 0, .slice none 0 0] 53) = w3 := ⟨_, rfl⟩
  rw [hw3] at hA3 hb3
  rw [hw3]
  clear hw3
  have hne1 : w.heap.size ≠ w2.heap.size := Nat.ne_of_lt HA.out.1.lt
  have hne2 : w1.heap.size ≠ w2.heap.size := Nat.ne_of_lt HA.out.2.lt
  have HNE := Lib.hid (And.intro hne1 hne2)
  have hP3 := At.below' hb3 HA.out.1
  have hS3 := At.below' hb3 HA.out.2
  clear hne1 hne2
  replace s0 := cell_below s0 hb3
  replace s1 := cell_below s1 hb3
  replace s2 := cell_below s2 hb3
  replace s3 := cell_below s3 hb3
  replace s4 := cell_below s4 hb3
  replace s5 := cell_below s5 hb3
  replace s6 := cell_below s6 hb3
  replace a0 := cell_below a0 hb3
  replace a1 := cell_below a1 hb3
  replace a2 := cell_below a2 hb3
  replace a3 := cell_below a3 hb3
  replace a4 := cell_below a4 hb3
  replace a5 := cell_below a5 hb3
  replace a6 := cell_below a6 hb3
  have x0 : w3.cell? ⟨w2.heap.size, 0, none⟩ = some (.int .i64 op) := hA3.cell 0 rfl
  have x1 : w3.cell? ⟨w2.heap.size, 1, none⟩ = some (.int .i64 0) := hA3.cell 1 rfl
  have x2 : w3.cell? ⟨w2.heap.size, 2, none⟩ = some (.int .i64 0) := hA3.cell 2 rfl
  have x3 : w3.cell? ⟨w2.heap.size, 3, none⟩ = some (.int .i64 0) := hA3.cell 3 rfl
  have x4 : w3.cell? ⟨w2.heap.size, 4, none⟩ = some (.int .i64 0) := hA3.cell 4 rfl
  have x5 : w3.cell? ⟨w2.heap.size, 5, none⟩ = some (.slice none 0 0) := hA3.cell 5 rfl
  have x6 : w3.cell? ⟨w2.heap.size, 6, none⟩ = some (.slice none 0 0) := hA3.cell 6 rfl
  have f1 := At.free hA3 1
  have f2 := At.free hA3 2
  have f3 := At.free hA3 3
  have f4 := At.free hA3 4
  have f5 := At.free hA3 5
  have f6 := At.free hA3 6
  have HX3 := Lib.hid (And.intro hA3 (And.intro hP3 hS3))
  have HB3 := Lib.hid hb3
  clear hA3 hP3 hS3 hb3
  by_cases o1 : op = 1
  · subst o1
    go_wp2_with fail
    go_region
    have t0 : At (w3.setCell ⟨w2.heap.size, 1, none⟩ (.int .i64 tt)) w2.heap.size #[.int .i64 1, .int .i64 tt, .int .i64 0, .int .i64 0, .int .i64 0, .slice none 0 0, .slice none 0 0] 53 := At.set HX3.out.1 1 (.int .i64 tt) (by simp)
    have tp0 : At (w3.setCell ⟨w2.heap.size, 1, none⟩ (.int .i64 tt)) w.heap.size _ _ := (heap_setCell_ltG w3 w2.heap.size 1 w.heap.size (.int .i64 tt) HNE.out.1).trans (show w3.heap[w.heap.size]? = _ from HX3.out.2.1)
    have ts0 : At (w3.setCell ⟨w2.heap.size, 1, none⟩ (.int .i64 tt)) w1.heap.size _ _ := (heap_setCell_ltG w3 w2.heap.size 1 w1.heap.size (.int .i64 tt) HNE.out.2).trans (show w3.heap[w1.heap.size]? = _ from HX3.out.2.2)
    have tb0 : Below w2.heap.size w2 (w3.setCell ⟨w2.heap.size, 1, none⟩ (.int .i64 tt)) := (HB3.out).setCell (p := ⟨w2.heap.size, 1, none⟩) (Nat.le_refl _) _
    have t1 : At ((w3.setCell ⟨w2.heap.size, 1, none⟩ (.int .i64 tt)).setCell ⟨w2.heap.size, 2, none⟩ (.int .i64 k)) w2.heap.size #[.int .i64 1, .int .i64 tt, .int .i64 k, .int .i64 0, .int .i64 0, .slice none 0 0, .slice none 0 0] 53 := At.set t0 2 (.int .i64 k) (by simp)
    have tp1 : At ((w3.setCell ⟨w2.heap.size, 1, none⟩ (.int .i64 tt)).setCell ⟨w2.heap.size, 2, none⟩ (.int .i64 k)) w.heap.size _ _ := (heap_setCell_ltG (w3.setCell ⟨w2.heap.size, 1, none⟩ (.int .i64 tt)) w2.heap.size 2 w.heap.size (.int .i64 k) HNE.out.1).trans (show (w3.setCell ⟨w2.heap.size, 1, none⟩ (.int .i64 tt)).heap[w.heap.size]? = _ from tp0)
    have ts1 : At ((w3.setCell ⟨w2.heap.size, 1, none⟩ (.int .i64 tt)).setCell ⟨w2.heap.size, 2, none⟩ (.int .i64 k)) w1.heap.size _ _ := (heap_setCell_ltG (w3.setCell ⟨w2.heap.size, 1, none⟩ (.int .i64 tt)) w2.heap.size 2 w1.heap.size (.int .i64 k) HNE.out.2).trans (show (w3.setCell ⟨w2.heap.size, 1, none⟩ (.int .i64 tt)).heap[w1.heap.size]? = _ from ts0)
    have tb1 : Below w2.heap.size w2 ((w3.setCell ⟨w2.heap.size, 1, none⟩ (.int .i64 tt)).setCell ⟨w2.heap.size, 2, none⟩ (.int .i64 k)) := (tb0).setCell (p := ⟨w2.heap.size, 2, none⟩) (Nat.le_refl _) _
    have t2 : At (((w3.setCell ⟨w2.heap.size, 1, none⟩ (.int .i64 tt)).setCell ⟨w2.heap.size, 2, none⟩ (.int .i64 k)).setCell ⟨w2.heap.size, 3, none⟩ (.int .i64 e)) w2.heap.size #[.int .i64 1, .int .i64 tt, .int .i64 k, .int .i64 e, .int .i64 0, .slice none 0 0, .slice none 0 0] 53 := At.set t1 3 (.int .i64 e) (by simp)
    have tp2 : At (((w3.setCell ⟨w2.heap.size, 1, none⟩ (.int .i64 tt)).setCell ⟨w2.heap.size, 2, none⟩ (.int .i64 k)).setCell ⟨w2.heap.size, 3, none⟩ (.int .i64 e)) w.heap.size _ _ := (heap_setCell_ltG ((w3.setCell ⟨w2.heap.size, 1, none⟩ (.int .i64 tt)).setCell ⟨w2.heap.size, 2, none⟩ (.int .i64 k)) w2.heap.size 3 w.heap.size (.int .i64 e) HNE.out.1).trans (show ((w3.setCell ⟨w2.heap.size, 1, none⟩ (.int .i64 tt)).setCell ⟨w2.heap.size, 2, none⟩ (.int .i64 k)).heap[w.heap.size]? = _ from tp1)
    have ts2 : At (((w3.setCell ⟨w2.heap.size, 1, none⟩ (.int .i64 tt)).setCell ⟨w2.heap.size, 2, none⟩ (.int .i64 k)).setCell ⟨w2.heap.size, 3, none⟩ (.int .i64 e)) w1.heap.size _ _ := (heap_setCell_ltG ((w3.setCell ⟨w2.heap.size, 1, none⟩ (.int .i64 tt)).setCell ⟨w2.heap.size, 2, none⟩ (.int .i64 k)) w2.heap.size 3 w1.heap.size (.int .i64 e) HNE.out.2).trans (show ((w3.setCell ⟨w2.heap.size, 1, none⟩ (.int .i64 tt)).setCell ⟨w2.heap.size, 2, none⟩ (.int .i64 k)).heap[w1.heap.size]? = _ from ts1)
    have tb2 : Below w2.heap.size w2 (((w3.setCell ⟨w2.heap.size, 1, none⟩ (.int .i64 tt)).setCell ⟨w2.heap.size, 2, none⟩ (.int .i64 k)).setCell ⟨w2.heap.size, 3, none⟩ (.int .i64 e)) := (tb1).setCell (p := ⟨w2.heap.size, 3, none⟩) (Nat.le_refl _) _
    replace t2 := At.drew t2
    replace tp2 := At.drew tp2
    replace ts2 := At.drew ts2
    replace tb2 := (tb2).drew
    obtain ⟨w4, hw4⟩ : ∃ w4, (((w3.setCell ⟨w2.heap.size, 1, none⟩ (.int .i64 tt)).setCell ⟨w2.heap.size, 2, none⟩ (.int .i64 k)).setCell ⟨w2.heap.size, 3, none⟩ (.int .i64 e)).drew = w4 := ⟨_, rfl⟩
    rw [hw4] at t2 tp2 ts2 tb2
    rw [hw4]
    clear hw4 x0 x1 x2 x3 x4 x5 x6 f1 f2 f3 f4 f5 f6 t0 tp0 ts0 tb0 t1 tp1 ts1 tb1
    have tA := t2
    have tP : At w4 w.heap.size _ _ := tp2
    have tS : At w4 w1.heap.size _ _ := ts2
    have tB := tb2
    clear t2 tp2 ts2 tb2 a0 a1 a2 a3 a4 a5 a6 s0 s1 s2 s3 s4 s5 s6
    have a0 : w4.cell? ⟨w.heap.size, 0, none⟩ = some (.bool P.big) := tP.cell 0 rfl
    have a1 : w4.cell? ⟨w.heap.size, 1, none⟩ = some (.int .i64 P.ptr) := tP.cell 1 rfl
    have a2 : w4.cell? ⟨w.heap.size, 2, none⟩ = some (.slice q1 P.vars.length k1) := tP.cell 2 rfl
    have a3 : w4.cell? ⟨w.heap.size, 3, none⟩ = some (.slice q2 P.news.length k2) := tP.cell 3 rfl
    have a4 : w4.cell? ⟨w.heap.size, 4, none⟩ = some (.slice q3 P.exs.length k3) := tP.cell 4 rfl
    have a5 : w4.cell? ⟨w.heap.size, 5, none⟩ = some (.slice q4 P.sts.length k4) := tP.cell 5 rfl
    have a6 : w4.cell? ⟨w.heap.size, 6, none⟩ = some (.slice q5 P.main.length k5) := tP.cell 6 rfl
    have s0 : w4.cell? ⟨w1.heap.size, 0, none⟩ = some (.int .i64 1) := tS.cell 0 rfl
    have s1 : w4.cell? ⟨w1.heap.size, 1, none⟩ = some (.int .i64 tt) := tS.cell 1 rfl
    have s2 : w4.cell? ⟨w1.heap.size, 2, none⟩ = some (.int .i64 k) := tS.cell 2 rfl
    have s3 : w4.cell? ⟨w1.heap.size, 3, none⟩ = some (.int .i64 e) := tS.cell 3 rfl
    have s4 : w4.cell? ⟨w1.heap.size, 4, none⟩ = some (.int .i64 n) := tS.cell 4 rfl
    have s5 : w4.cell? ⟨w1.heap.size, 5, none⟩ = some (.slice qb bd.length cb) := tS.cell 5 rfl
    have s6 : w4.cell? ⟨w1.heap.size, 6, none⟩ = some (.slice qe el.length ce) := tS.cell 6 rfl
    have x0 : w4.cell? ⟨w2.heap.size, 0, none⟩ = some (.int .i64 1) := tA.cell 0 rfl
    have x1 : w4.cell? ⟨w2.heap.size, 1, none⟩ = some (.int .i64 tt) := tA.cell 1 rfl
    have x2 : w4.cell? ⟨w2.heap.size, 2, none⟩ = some (.int .i64 k) := tA.cell 2 rfl
    have x3 : w4.cell? ⟨w2.heap.size, 3, none⟩ = some (.int .i64 e) := tA.cell 3 rfl
    have x4 : w4.cell? ⟨w2.heap.size, 4, none⟩ = some (.int .i64 0) := tA.cell 4 rfl
    have x5 : w4.cell? ⟨w2.heap.size, 5, none⟩ = some (.slice none 0 0) := tA.cell 5 rfl
    have x6 : w4.cell? ⟨w2.heap.size, 6, none⟩ = some (.slice none 0 0) := tA.cell 6 rfl
    have HT := Lib.hid (And.intro tA (And.intro tP (And.intro tS tB)))
    clear tA tP tS tB
    have hB0 := HT.out.2.2.2
    have cO := hO w4 hB0 tt 7
    go_wp2_with fail
    refine cO.mono ?_
    rintro e' w5 ⟨rfl, hc5⟩
    clear cO
    clear a0 a1 a2 a3 a4 a5 a6 s0 s1 s2 s3 s4 s5 s6 x0 x1 x2 x3 x4 x5 x6
    have hB5 := hB0.trans (hc5.mono hB0.size)
    have nA5 := At.below' hc5 HT.out.1
    have nP5 := At.below' hc5 HT.out.2.1
    have nS5 := At.below' hc5 HT.out.2.2.1
    have a0 : w5.cell? ⟨w.heap.size, 0, none⟩ = some (.bool P.big) := nP5.cell 0 rfl
    have a1 : w5.cell? ⟨w.heap.size, 1, none⟩ = some (.int .i64 P.ptr) := nP5.cell 1 rfl
    have a2 : w5.cell? ⟨w.heap.size, 2, none⟩ = some (.slice q1 P.vars.length k1) := nP5.cell 2 rfl
    have a3 : w5.cell? ⟨w.heap.size, 3, none⟩ = some (.slice q2 P.news.length k2) := nP5.cell 3 rfl
    have a4 : w5.cell? ⟨w.heap.size, 4, none⟩ = some (.slice q3 P.exs.length k3) := nP5.cell 4 rfl
    have a5 : w5.cell? ⟨w.heap.size, 5, none⟩ = some (.slice q4 P.sts.length k4) := nP5.cell 5 rfl
    have a6 : w5.cell? ⟨w.heap.size, 6, none⟩ = some (.slice q5 P.main.length k5) := nP5.cell 6 rfl
    have s0 : w5.cell? ⟨w1.heap.size, 0, none⟩ = some (.int .i64 1) := nS5.cell 0 rfl
    have s1 : w5.cell? ⟨w1.heap.size, 1, none⟩ = some (.int .i64 tt) := nS5.cell 1 rfl
    have s2 : w5.cell? ⟨w1.heap.size, 2, none⟩ = some (.int .i64 k) := nS5.cell 2 rfl
    have s3 : w5.cell? ⟨w1.heap.size, 3, none⟩ = some (.int .i64 e) := nS5.cell 3 rfl
    have s4 : w5.cell? ⟨w1.heap.size, 4, none⟩ = some (.int .i64 n) := nS5.cell 4 rfl
    have s5 : w5.cell? ⟨w1.heap.size, 5, none⟩ = some (.slice qb bd.length cb) := nS5.cell 5 rfl
    have s6 : w5.cell? ⟨w1.heap.size, 6, none⟩ = some (.slice qe el.length ce) := nS5.cell 6 rfl
    have x0 : w5.cell? ⟨w2.heap.size, 0, none⟩ = some (.int .i64 1) := nA5.cell 0 rfl
    have x1 : w5.cell? ⟨w2.heap.size, 1, none⟩ = some (.int .i64 tt) := nA5.cell 1 rfl
    have x2 : w5.cell? ⟨w2.heap.size, 2, none⟩ = some (.int .i64 k) := nA5.cell 2 rfl
    have x3 : w5.cell? ⟨w2.heap.size, 3, none⟩ = some (.int .i64 e) := nA5.cell 3 rfl
    have x4 : w5.cell? ⟨w2.heap.size, 4, none⟩ = some (.int .i64 0) := nA5.cell 4 rfl
    have x5 : w5.cell? ⟨w2.heap.size, 5, none⟩ = some (.slice none 0 0) := nA5.cell 5 rfl
    have x6 : w5.cell? ⟨w2.heap.size, 6, none⟩ = some (.slice none 0 0) := nA5.cell 6 rfl
    cases hq4 : ofB P tt 7
    · go_wp2_with fail
      go_ret
      exact ⟨ret_b (by rw [HR.out]; simp [rStmtB, hq4]), HB2.out.trans (hB5.mono HB2.out.size)⟩
    have cGG := fun w => cK k w
    cases hg : gS k
    · rw [hg] at cGG
      go_wp2_with (go_at_call 49; refine (cGG _).mono ?_; rintro e' w' ⟨rfl, rfl⟩)
      go_ret
      exact ⟨ret_b (by rw [HR.out]; simp [rStmtB, hg]), HB2.out.trans (hB5.mono HB2.out.size)⟩
    rw [hg] at cGG
    go_wp2_with fail
    refine (cGG _).mono ?_
    rintro e' w' ⟨rfl, rfl⟩
    clear cGG
    have cO := hO w5 hB5 e k
    go_wp2_with fail
    refine cO.mono ?_
    rintro e' w6 ⟨rfl, hc6⟩
    clear cO
    clear a0 a1 a2 a3 a4 a5 a6 s0 s1 s2 s3 s4 s5 s6 x0 x1 x2 x3 x4 x5 x6
    have hB6 := hB5.trans (hc6.mono hB5.size)
    have nA6 := At.below' hc6 nA5
    have nP6 := At.below' hc6 nP5
    have nS6 := At.below' hc6 nS5
    have a0 : w6.cell? ⟨w.heap.size, 0, none⟩ = some (.bool P.big) := nP6.cell 0 rfl
    have a1 : w6.cell? ⟨w.heap.size, 1, none⟩ = some (.int .i64 P.ptr) := nP6.cell 1 rfl
    have a2 : w6.cell? ⟨w.heap.size, 2, none⟩ = some (.slice q1 P.vars.length k1) := nP6.cell 2 rfl
    have a3 : w6.cell? ⟨w.heap.size, 3, none⟩ = some (.slice q2 P.news.length k2) := nP6.cell 3 rfl
    have a4 : w6.cell? ⟨w.heap.size, 4, none⟩ = some (.slice q3 P.exs.length k3) := nP6.cell 4 rfl
    have a5 : w6.cell? ⟨w.heap.size, 5, none⟩ = some (.slice q4 P.sts.length k4) := nP6.cell 5 rfl
    have a6 : w6.cell? ⟨w.heap.size, 6, none⟩ = some (.slice q5 P.main.length k5) := nP6.cell 6 rfl
    have s0 : w6.cell? ⟨w1.heap.size, 0, none⟩ = some (.int .i64 1) := nS6.cell 0 rfl
    have s1 : w6.cell? ⟨w1.heap.size, 1, none⟩ = some (.int .i64 tt) := nS6.cell 1 rfl
    have s2 : w6.cell? ⟨w1.heap.size, 2, none⟩ = some (.int .i64 k) := nS6.cell 2 rfl
    have s3 : w6.cell? ⟨w1.heap.size, 3, none⟩ = some (.int .i64 e) := nS6.cell 3 rfl
    have s4 : w6.cell? ⟨w1.heap.size, 4, none⟩ = some (.int .i64 n) := nS6.cell 4 rfl
    have s5 : w6.cell? ⟨w1.heap.size, 5, none⟩ = some (.slice qb bd.length cb) := nS6.cell 5 rfl
    have s6 : w6.cell? ⟨w1.heap.size, 6, none⟩ = some (.slice qe el.length ce) := nS6.cell 6 rfl
    have x0 : w6.cell? ⟨w2.heap.size, 0, none⟩ = some (.int .i64 1) := nA6.cell 0 rfl
    have x1 : w6.cell? ⟨w2.heap.size, 1, none⟩ = some (.int .i64 tt) := nA6.cell 1 rfl
    have x2 : w6.cell? ⟨w2.heap.size, 2, none⟩ = some (.int .i64 k) := nA6.cell 2 rfl
    have x3 : w6.cell? ⟨w2.heap.size, 3, none⟩ = some (.int .i64 e) := nA6.cell 3 rfl
    have x4 : w6.cell? ⟨w2.heap.size, 4, none⟩ = some (.int .i64 0) := nA6.cell 4 rfl
    have x5 : w6.cell? ⟨w2.heap.size, 5, none⟩ = some (.slice none 0 0) := nA6.cell 5 rfl
    have x6 : w6.cell? ⟨w2.heap.size, 6, none⟩ = some (.slice none 0 0) := nA6.cell 6 rfl
    cases hq5 : ofB P e k
    · go_wp2_with fail
      go_ret
      exact ⟨ret_b (by rw [HR.out]; simp [rStmtB, hq5]), HB2.out.trans (hB6.mono HB2.out.size)⟩
    have cQ := eqStmt_any 1 tt k e n 1 tt k e 0 (.slice qb bd.length cb) (.slice qe el.length ce) (.slice none 0 0) (.slice none 0 0) bd el [] [] w6 (HI.out.2.1.below hB6) (HI.out.2.2.below hB6) (is_nilG _) (is_nilG _)
    go_wp2_with fail
    refine cQ.mono ?_
    rintro e' w9 ⟨rfl, hb9⟩
    have hB9 := hB6.trans (hb9.mono hB6.size)
    clear cQ
    clear a0 a1 a2 a3 a4 a5 a6 s0 s1 s2 s3 s4 s5 s6 x0 x1 x2 x3 x4 x5 x6
    go_wp2_with fail
    go_ret
    exact ⟨ret_b (by rw [HR.out]; simp [rStmtB, hq4, hg, hq5]), HB2.out.trans (hB9.mono HB2.out.size)⟩
  have o1b : (op == 1) = false := beq_eq_false_iff_ne.2 o1
  by_cases o2 : op = 2
  · subst o2
    go_wp2_with fail
    go_region
    have t0 : At (w3.setCell ⟨w2.heap.size, 1, none⟩ (.int .i64 tt)) w2.heap.size #[.int .i64 2, .int .i64 tt, .int .i64 0, .int .i64 0, .int .i64 0, .slice none 0 0, .slice none 0 0] 53 := At.set HX3.out.1 1 (.int .i64 tt) (by simp)
    have tp0 : At (w3.setCell ⟨w2.heap.size, 1, none⟩ (.int .i64 tt)) w.heap.size _ _ := (heap_setCell_ltG w3 w2.heap.size 1 w.heap.size (.int .i64 tt) HNE.out.1).trans (show w3.heap[w.heap.size]? = _ from HX3.out.2.1)
    have ts0 : At (w3.setCell ⟨w2.heap.size, 1, none⟩ (.int .i64 tt)) w1.heap.size _ _ := (heap_setCell_ltG w3 w2.heap.size 1 w1.heap.size (.int .i64 tt) HNE.out.2).trans (show w3.heap[w1.heap.size]? = _ from HX3.out.2.2)
    have tb0 : Below w2.heap.size w2 (w3.setCell ⟨w2.heap.size, 1, none⟩ (.int .i64 tt)) := (HB3.out).setCell (p := ⟨w2.heap.size, 1, none⟩) (Nat.le_refl _) _
    have t1 : At ((w3.setCell ⟨w2.heap.size, 1, none⟩ (.int .i64 tt)).setCell ⟨w2.heap.size, 2, none⟩ (.int .i64 k)) w2.heap.size #[.int .i64 2, .int .i64 tt, .int .i64 k, .int .i64 0, .int .i64 0, .slice none 0 0, .slice none 0 0] 53 := At.set t0 2 (.int .i64 k) (by simp)
    have tp1 : At ((w3.setCell ⟨w2.heap.size, 1, none⟩ (.int .i64 tt)).setCell ⟨w2.heap.size, 2, none⟩ (.int .i64 k)) w.heap.size _ _ := (heap_setCell_ltG (w3.setCell ⟨w2.heap.size, 1, none⟩ (.int .i64 tt)) w2.heap.size 2 w.heap.size (.int .i64 k) HNE.out.1).trans (show (w3.setCell ⟨w2.heap.size, 1, none⟩ (.int .i64 tt)).heap[w.heap.size]? = _ from tp0)
    have ts1 : At ((w3.setCell ⟨w2.heap.size, 1, none⟩ (.int .i64 tt)).setCell ⟨w2.heap.size, 2, none⟩ (.int .i64 k)) w1.heap.size _ _ := (heap_setCell_ltG (w3.setCell ⟨w2.heap.size, 1, none⟩ (.int .i64 tt)) w2.heap.size 2 w1.heap.size (.int .i64 k) HNE.out.2).trans (show (w3.setCell ⟨w2.heap.size, 1, none⟩ (.int .i64 tt)).heap[w1.heap.size]? = _ from ts0)
    have tb1 : Below w2.heap.size w2 ((w3.setCell ⟨w2.heap.size, 1, none⟩ (.int .i64 tt)).setCell ⟨w2.heap.size, 2, none⟩ (.int .i64 k)) := (tb0).setCell (p := ⟨w2.heap.size, 2, none⟩) (Nat.le_refl _) _
    replace t1 := At.drew t1
    replace tp1 := At.drew tp1
    replace ts1 := At.drew ts1
    replace tb1 := (tb1).drew
    obtain ⟨w4, hw4⟩ : ∃ w4, ((w3.setCell ⟨w2.heap.size, 1, none⟩ (.int .i64 tt)).setCell ⟨w2.heap.size, 2, none⟩ (.int .i64 k)).drew = w4 := ⟨_, rfl⟩
    rw [hw4] at t1 tp1 ts1 tb1
    rw [hw4]
    clear hw4 x0 x1 x2 x3 x4 x5 x6 f1 f2 f3 f4 f5 f6 t0 tp0 ts0 tb0
    have tA := t1
    have tP : At w4 w.heap.size _ _ := tp1
    have tS : At w4 w1.heap.size _ _ := ts1
    have tB := tb1
    clear t1 tp1 ts1 tb1 a0 a1 a2 a3 a4 a5 a6 s0 s1 s2 s3 s4 s5 s6
    have a0 : w4.cell? ⟨w.heap.size, 0, none⟩ = some (.bool P.big) := tP.cell 0 rfl
    have a1 : w4.cell? ⟨w.heap.size, 1, none⟩ = some (.int .i64 P.ptr) := tP.cell 1 rfl
    have a2 : w4.cell? ⟨w.heap.size, 2, none⟩ = some (.slice q1 P.vars.length k1) := tP.cell 2 rfl
    have a3 : w4.cell? ⟨w.heap.size, 3, none⟩ = some (.slice q2 P.news.length k2) := tP.cell 3 rfl
    have a4 : w4.cell? ⟨w.heap.size, 4, none⟩ = some (.slice q3 P.exs.length k3) := tP.cell 4 rfl
    have a5 : w4.cell? ⟨w.heap.size, 5, none⟩ = some (.slice q4 P.sts.length k4) := tP.cell 5 rfl
    have a6 : w4.cell? ⟨w.heap.size, 6, none⟩ = some (.slice q5 P.main.length k5) := tP.cell 6 rfl
    have s0 : w4.cell? ⟨w1.heap.size, 0, none⟩ = some (.int .i64 2) := tS.cell 0 rfl
    have s1 : w4.cell? ⟨w1.heap.size, 1, none⟩ = some (.int .i64 tt) := tS.cell 1 rfl
    have s2 : w4.cell? ⟨w1.heap.size, 2, none⟩ = some (.int .i64 k) := tS.cell 2 rfl
    have s3 : w4.cell? ⟨w1.heap.size, 3, none⟩ = some (.int .i64 e) := tS.cell 3 rfl
    have s4 : w4.cell? ⟨w1.heap.size, 4, none⟩ = some (.int .i64 n) := tS.cell 4 rfl
    have s5 : w4.cell? ⟨w1.heap.size, 5, none⟩ = some (.slice qb bd.length cb) := tS.cell 5 rfl
    have s6 : w4.cell? ⟨w1.heap.size, 6, none⟩ = some (.slice qe el.length ce) := tS.cell 6 rfl
    have x0 : w4.cell? ⟨w2.heap.size, 0, none⟩ = some (.int .i64 2) := tA.cell 0 rfl
    have x1 : w4.cell? ⟨w2.heap.size, 1, none⟩ = some (.int .i64 tt) := tA.cell 1 rfl
    have x2 : w4.cell? ⟨w2.heap.size, 2, none⟩ = some (.int .i64 k) := tA.cell 2 rfl
    have x3 : w4.cell? ⟨w2.heap.size, 3, none⟩ = some (.int .i64 0) := tA.cell 3 rfl
    have x4 : w4.cell? ⟨w2.heap.size, 4, none⟩ = some (.int .i64 0) := tA.cell 4 rfl
    have x5 : w4.cell? ⟨w2.heap.size, 5, none⟩ = some (.slice none 0 0) := tA.cell 5 rfl
    have x6 : w4.cell? ⟨w2.heap.size, 6, none⟩ = some (.slice none 0 0) := tA.cell 6 rfl
    have HT := Lib.hid (And.intro tA (And.intro tP (And.intro tS tB)))
    clear tA tP tS tB
    have hB0 := HT.out.2.2.2
    have cO := hO w4 hB0 tt 7
    go_wp2_with fail
    refine cO.mono ?_
    rintro e' w5 ⟨rfl, hc5⟩
    clear cO
    clear a0 a1 a2 a3 a4 a5 a6 s0 s1 s2 s3 s4 s5 s6 x0 x1 x2 x3 x4 x5 x6
    have hB5 := hB0.trans (hc5.mono hB0.size)
    have nA5 := At.below' hc5 HT.out.1
    have nP5 := At.below' hc5 HT.out.2.1
    have nS5 := At.below' hc5 HT.out.2.2.1
    have a0 : w5.cell? ⟨w.heap.size, 0, none⟩ = some (.bool P.big) := nP5.cell 0 rfl
    have a1 : w5.cell? ⟨w.heap.size, 1, none⟩ = some (.int .i64 P.ptr) := nP5.cell 1 rfl
    have a2 : w5.cell? ⟨w.heap.size, 2, none⟩ = some (.slice q1 P.vars.length k1) := nP5.cell 2 rfl
    have a3 : w5.cell? ⟨w.heap.size, 3, none⟩ = some (.slice q2 P.news.length k2) := nP5.cell 3 rfl
    have a4 : w5.cell? ⟨w.heap.size, 4, none⟩ = some (.slice q3 P.exs.length k3) := nP5.cell 4 rfl
    have a5 : w5.cell? ⟨w.heap.size, 5, none⟩ = some (.slice q4 P.sts.length k4) := nP5.cell 5 rfl
    have a6 : w5.cell? ⟨w.heap.size, 6, none⟩ = some (.slice q5 P.main.length k5) := nP5.cell 6 rfl
    have s0 : w5.cell? ⟨w1.heap.size, 0, none⟩ = some (.int .i64 2) := nS5.cell 0 rfl
    have s1 : w5.cell? ⟨w1.heap.size, 1, none⟩ = some (.int .i64 tt) := nS5.cell 1 rfl
    have s2 : w5.cell? ⟨w1.heap.size, 2, none⟩ = some (.int .i64 k) := nS5.cell 2 rfl
    have s3 : w5.cell? ⟨w1.heap.size, 3, none⟩ = some (.int .i64 e) := nS5.cell 3 rfl
    have s4 : w5.cell? ⟨w1.heap.size, 4, none⟩ = some (.int .i64 n) := nS5.cell 4 rfl
    have s5 : w5.cell? ⟨w1.heap.size, 5, none⟩ = some (.slice qb bd.length cb) := nS5.cell 5 rfl
    have s6 : w5.cell? ⟨w1.heap.size, 6, none⟩ = some (.slice qe el.length ce) := nS5.cell 6 rfl
    have x0 : w5.cell? ⟨w2.heap.size, 0, none⟩ = some (.int .i64 2) := nA5.cell 0 rfl
    have x1 : w5.cell? ⟨w2.heap.size, 1, none⟩ = some (.int .i64 tt) := nA5.cell 1 rfl
    have x2 : w5.cell? ⟨w2.heap.size, 2, none⟩ = some (.int .i64 k) := nA5.cell 2 rfl
    have x3 : w5.cell? ⟨w2.heap.size, 3, none⟩ = some (.int .i64 0) := nA5.cell 3 rfl
    have x4 : w5.cell? ⟨w2.heap.size, 4, none⟩ = some (.int .i64 0) := nA5.cell 4 rfl
    have x5 : w5.cell? ⟨w2.heap.size, 5, none⟩ = some (.slice none 0 0) := nA5.cell 5 rfl
    have x6 : w5.cell? ⟨w2.heap.size, 6, none⟩ = some (.slice none 0 0) := nA5.cell 6 rfl
    cases hq4 : ofB P tt 7
    · go_wp2_with fail
      go_ret
      exact ⟨ret_b (by rw [HR.out]; simp [rStmtB, hq4]), HB2.out.trans (hB5.mono HB2.out.size)⟩
    have cGG := fun w => cG k w
    cases hg : gN k
    · rw [hg] at cGG
      go_wp2_with (go_at_call 46; refine (cGG _).mono ?_; rintro e' w' ⟨rfl, rfl⟩)
      go_ret
      exact ⟨ret_b (by rw [HR.out]; simp [rStmtB, hg]), HB2.out.trans (hB5.mono HB2.out.size)⟩
    rw [hg] at cGG
    go_wp2_with fail
    refine (cGG _).mono ?_
    rintro e' w' ⟨rfl, rfl⟩
    clear cGG
    have cQ := eqStmt_any 2 tt k e n 2 tt k 0 0 (.slice qb bd.length cb) (.slice qe el.length ce) (.slice none 0 0) (.slice none 0 0) bd el [] [] w5 (HI.out.2.1.below hB5) (HI.out.2.2.below hB5) (is_nilG _) (is_nilG _)
    go_wp2_with fail
    refine cQ.mono ?_
    rintro e' w9 ⟨rfl, hb9⟩
    have hB9 := hB5.trans (hb9.mono hB5.size)
    clear cQ
    clear a0 a1 a2 a3 a4 a5 a6 s0 s1 s2 s3 s4 s5 s6 x0 x1 x2 x3 x4 x5 x6
    go_wp2_with fail
    go_ret
    exact ⟨ret_b (by rw [HR.out]; simp [rStmtB, hq4, hg]), HB2.out.trans (hB9.mono HB2.out.size)⟩
  have o2b : (op == 2) = false := beq_eq_false_iff_ne.2 o2
  by_cases o3 : op = 3
  · subst o3
    go_wp2_with fail
    go_region
    have t0 : At (w3.setCell ⟨w2.heap.size, 1, none⟩ (.int .i64 tt)) w2.heap.size #[.int .i64 3, .int .i64 tt, .int .i64 0, .int .i64 0, .int .i64 0, .slice none 0 0, .slice none 0 0] 53 := At.set HX3.out.1 1 (.int .i64 tt) (by simp)
    have tp0 : At (w3.setCell ⟨w2.heap.size, 1, none⟩ (.int .i64 tt)) w.heap.size _ _ := (heap_setCell_ltG w3 w2.heap.size 1 w.heap.size (.int .i64 tt) HNE.out.1).trans (show w3.heap[w.heap.size]? = _ from HX3.out.2.1)
    have ts0 : At (w3.setCell ⟨w2.heap.size, 1, none⟩ (.int .i64 tt)) w1.heap.size _ _ := (heap_setCell_ltG w3 w2.heap.size 1 w1.heap.size (.int .i64 tt) HNE.out.2).trans (show w3.heap[w1.heap.size]? = _ from HX3.out.2.2)
    have tb0 : Below w2.heap.size w2 (w3.setCell ⟨w2.heap.size, 1, none⟩ (.int .i64 tt)) := (HB3.out).setCell (p := ⟨w2.heap.size, 1, none⟩) (Nat.le_refl _) _
    have t1 : At ((w3.setCell ⟨w2.heap.size, 1, none⟩ (.int .i64 tt)).setCell ⟨w2.heap.size, 4, none⟩ (.int .i64 n)) w2.heap.size #[.int .i64 3, .int .i64 tt, .int .i64 0, .int .i64 0, .int .i64 n, .slice none 0 0, .slice none 0 0] 53 := At.set t0 4 (.int .i64 n) (by simp)
    have tp1 : At ((w3.setCell ⟨w2.heap.size, 1, none⟩ (.int .i64 tt)).setCell ⟨w2.heap.size, 4, none⟩ (.int .i64 n)) w.heap.size _ _ := (heap_setCell_ltG (w3.setCell ⟨w2.heap.size, 1, none⟩ (.int .i64 tt)) w2.heap.size 4 w.heap.size (.int .i64 n) HNE.out.1).trans (show (w3.setCell ⟨w2.heap.size, 1, none⟩ (.int .i64 tt)).heap[w.heap.size]? = _ from tp0)
    have ts1 : At ((w3.setCell ⟨w2.heap.size, 1, none⟩ (.int .i64 tt)).setCell ⟨w2.heap.size, 4, none⟩ (.int .i64 n)) w1.heap.size _ _ := (heap_setCell_ltG (w3.setCell ⟨w2.heap.size, 1, none⟩ (.int .i64 tt)) w2.heap.size 4 w1.heap.size (.int .i64 n) HNE.out.2).trans (show (w3.setCell ⟨w2.heap.size, 1, none⟩ (.int .i64 tt)).heap[w1.heap.size]? = _ from ts0)
    have tb1 : Below w2.heap.size w2 ((w3.setCell ⟨w2.heap.size, 1, none⟩ (.int .i64 tt)).setCell ⟨w2.heap.size, 4, none⟩ (.int .i64 n)) := (tb0).setCell (p := ⟨w2.heap.size, 4, none⟩) (Nat.le_refl _) _
    replace t1 := At.drew t1
    replace tp1 := At.drew tp1
    replace ts1 := At.drew ts1
    replace tb1 := (tb1).drew
    obtain ⟨w4, hw4⟩ : ∃ w4, ((w3.setCell ⟨w2.heap.size, 1, none⟩ (.int .i64 tt)).setCell ⟨w2.heap.size, 4, none⟩ (.int .i64 n)).drew = w4 := ⟨_, rfl⟩
    rw [hw4] at t1 tp1 ts1 tb1
    rw [hw4]
    clear hw4 x0 x1 x2 x3 x4 x5 x6 f1 f2 f3 f4 f5 f6 t0 tp0 ts0 tb0
    have tA := t1
    have tP : At w4 w.heap.size _ _ := tp1
    have tS : At w4 w1.heap.size _ _ := ts1
    have tB := tb1
    clear t1 tp1 ts1 tb1 a0 a1 a2 a3 a4 a5 a6 s0 s1 s2 s3 s4 s5 s6
    have a0 : w4.cell? ⟨w.heap.size, 0, none⟩ = some (.bool P.big) := tP.cell 0 rfl
    have a1 : w4.cell? ⟨w.heap.size, 1, none⟩ = some (.int .i64 P.ptr) := tP.cell 1 rfl
    have a2 : w4.cell? ⟨w.heap.size, 2, none⟩ = some (.slice q1 P.vars.length k1) := tP.cell 2 rfl
    have a3 : w4.cell? ⟨w.heap.size, 3, none⟩ = some (.slice q2 P.news.length k2) := tP.cell 3 rfl
    have a4 : w4.cell? ⟨w.heap.size, 4, none⟩ = some (.slice q3 P.exs.length k3) := tP.cell 4 rfl
    have a5 : w4.cell? ⟨w.heap.size, 5, none⟩ = some (.slice q4 P.sts.length k4) := tP.cell 5 rfl
    have a6 : w4.cell? ⟨w.heap.size, 6, none⟩ = some (.slice q5 P.main.length k5) := tP.cell 6 rfl
    have s0 : w4.cell? ⟨w1.heap.size, 0, none⟩ = some (.int .i64 3) := tS.cell 0 rfl
    have s1 : w4.cell? ⟨w1.heap.size, 1, none⟩ = some (.int .i64 tt) := tS.cell 1 rfl
    have s2 : w4.cell? ⟨w1.heap.size, 2, none⟩ = some (.int .i64 k) := tS.cell 2 rfl
    have s3 : w4.cell? ⟨w1.heap.size, 3, none⟩ = some (.int .i64 e) := tS.cell 3 rfl
    have s4 : w4.cell? ⟨w1.heap.size, 4, none⟩ = some (.int .i64 n) := tS.cell 4 rfl
    have s5 : w4.cell? ⟨w1.heap.size, 5, none⟩ = some (.slice qb bd.length cb) := tS.cell 5 rfl
    have s6 : w4.cell? ⟨w1.heap.size, 6, none⟩ = some (.slice qe el.length ce) := tS.cell 6 rfl
    have x0 : w4.cell? ⟨w2.heap.size, 0, none⟩ = some (.int .i64 3) := tA.cell 0 rfl
    have x1 : w4.cell? ⟨w2.heap.size, 1, none⟩ = some (.int .i64 tt) := tA.cell 1 rfl
    have x2 : w4.cell? ⟨w2.heap.size, 2, none⟩ = some (.int .i64 0) := tA.cell 2 rfl
    have x3 : w4.cell? ⟨w2.heap.size, 3, none⟩ = some (.int .i64 0) := tA.cell 3 rfl
    have x4 : w4.cell? ⟨w2.heap.size, 4, none⟩ = some (.int .i64 n) := tA.cell 4 rfl
    have x5 : w4.cell? ⟨w2.heap.size, 5, none⟩ = some (.slice none 0 0) := tA.cell 5 rfl
    have x6 : w4.cell? ⟨w2.heap.size, 6, none⟩ = some (.slice none 0 0) := tA.cell 6 rfl
    have HT := Lib.hid (And.intro tA (And.intro tP (And.intro tS tB)))
    clear tA tP tS tB
    have hB0 := HT.out.2.2.2
    have cO := hO w4 hB0 tt 7
    go_wp2_with fail
    refine cO.mono ?_
    rintro e' w5 ⟨rfl, hc5⟩
    clear cO
    clear a0 a1 a2 a3 a4 a5 a6 s0 s1 s2 s3 s4 s5 s6 x0 x1 x2 x3 x4 x5 x6
    have hB5 := hB0.trans (hc5.mono hB0.size)
    have nA5 := At.below' hc5 HT.out.1
    have nP5 := At.below' hc5 HT.out.2.1
    have nS5 := At.below' hc5 HT.out.2.2.1
    have a0 : w5.cell? ⟨w.heap.size, 0, none⟩ = some (.bool P.big) := nP5.cell 0 rfl
    have a1 : w5.cell? ⟨w.heap.size, 1, none⟩ = some (.int .i64 P.ptr) := nP5.cell 1 rfl
    have a2 : w5.cell? ⟨w.heap.size, 2, none⟩ = some (.slice q1 P.vars.length k1) := nP5.cell 2 rfl
    have a3 : w5.cell? ⟨w.heap.size, 3, none⟩ = some (.slice q2 P.news.length k2) := nP5.cell 3 rfl
    have a4 : w5.cell? ⟨w.heap.size, 4, none⟩ = some (.slice q3 P.exs.length k3) := nP5.cell 4 rfl
    have a5 : w5.cell? ⟨w.heap.size, 5, none⟩ = some (.slice q4 P.sts.length k4) := nP5.cell 5 rfl
    have a6 : w5.cell? ⟨w.heap.size, 6, none⟩ = some (.slice q5 P.main.length k5) := nP5.cell 6 rfl
    have s0 : w5.cell? ⟨w1.heap.size, 0, none⟩ = some (.int .i64 3) := nS5.cell 0 rfl
    have s1 : w5.cell? ⟨w1.heap.size, 1, none⟩ = some (.int .i64 tt) := nS5.cell 1 rfl
    have s2 : w5.cell? ⟨w1.heap.size, 2, none⟩ = some (.int .i64 k) := nS5.cell 2 rfl
    have s3 : w5.cell? ⟨w1.heap.size, 3, none⟩ = some (.int .i64 e) := nS5.cell 3 rfl
    have s4 : w5.cell? ⟨w1.heap.size, 4, none⟩ = some (.int .i64 n) := nS5.cell 4 rfl
    have s5 : w5.cell? ⟨w1.heap.size, 5, none⟩ = some (.slice qb bd.length cb) := nS5.cell 5 rfl
    have s6 : w5.cell? ⟨w1.heap.size, 6, none⟩ = some (.slice qe el.length ce) := nS5.cell 6 rfl
    have x0 : w5.cell? ⟨w2.heap.size, 0, none⟩ = some (.int .i64 3) := nA5.cell 0 rfl
    have x1 : w5.cell? ⟨w2.heap.size, 1, none⟩ = some (.int .i64 tt) := nA5.cell 1 rfl
    have x2 : w5.cell? ⟨w2.heap.size, 2, none⟩ = some (.int .i64 0) := nA5.cell 2 rfl
    have x3 : w5.cell? ⟨w2.heap.size, 3, none⟩ = some (.int .i64 0) := nA5.cell 3 rfl
    have x4 : w5.cell? ⟨w2.heap.size, 4, none⟩ = some (.int .i64 n) := nA5.cell 4 rfl
    have x5 : w5.cell? ⟨w2.heap.size, 5, none⟩ = some (.slice none 0 0) := nA5.cell 5 rfl
    have x6 : w5.cell? ⟨w2.heap.size, 6, none⟩ = some (.slice none 0 0) := nA5.cell 6 rfl
    cases hq4 : ofB P tt 7
    · go_wp2_with fail
      go_ret
      exact ⟨ret_b (by rw [HR.out]; simp [rStmtB, hq4]), HB2.out.trans (hB5.mono HB2.out.size)⟩
    have ew1 : IntKind.i64.wrap ((P.vars.length : Int) + 1) = (P.vars.length : Int) + 1 := by rw [IntKind.wrap_i64]; omega
    have ew2 : IntKind.i64.wrap ((P.vars.length : Int) + (P.news.length : Int)) = (P.vars.length : Int) + (P.news.length : Int) := by rw [IntKind.wrap_i64]; omega
    have cU := fun w => Between_any n ((P.vars.length : Int) + 1) ((P.vars.length : Int) + P.news.length) w
    cases hu : upTo n ((P.vars.length : Int) + 1) ((P.vars.length : Int) + P.news.length)
    · rw [hu] at cU
      go_wp2_with (go_at_call 43; refine (cU _).mono ?_; rintro e' w' ⟨rfl, rfl⟩)
      go_ret
      exact ⟨ret_b (by rw [HR.out]; simp [rStmtB, hu]), HB2.out.trans (hB5.mono HB2.out.size)⟩
    rw [hu] at cU
    go_wp2_with fail
    refine (cU _).mono ?_
    rintro e' w' ⟨rfl, rfl⟩
    clear cU
    have cQ := eqStmt_any 3 tt k e n 3 tt 0 0 n (.slice qb bd.length cb) (.slice qe el.length ce) (.slice none 0 0) (.slice none 0 0) bd el [] [] w5 (HI.out.2.1.below hB5) (HI.out.2.2.below hB5) (is_nilG _) (is_nilG _)
    go_wp2_with fail
    refine cQ.mono ?_
    rintro e' w9 ⟨rfl, hb9⟩
    have hB9 := hB5.trans (hb9.mono hB5.size)
    clear cQ
    clear a0 a1 a2 a3 a4 a5 a6 s0 s1 s2 s3 s4 s5 s6 x0 x1 x2 x3 x4 x5 x6
    go_wp2_with fail
    go_ret
    exact ⟨ret_b (by rw [HR.out]; simp [rStmtB, hq4, hu]), HB2.out.trans (hB9.mono HB2.out.size)⟩
  have o3b : (op == 3) = false := beq_eq_false_iff_ne.2 o3
  by_cases o4 : op = 4
  · subst o4
    go_upto_region 16 with (fail)
    have t0 : At (w3.setCell ⟨w2.heap.size, 3, none⟩ (.int .i64 e)) w2.heap.size #[.int .i64 4, .int .i64 0, .int .i64 0, .int .i64 e, .int .i64 0, .slice none 0 0, .slice none 0 0] 53 := At.set HX3.out.1 3 (.int .i64 e) (by simp)
    have tp0 : At (w3.setCell ⟨w2.heap.size, 3, none⟩ (.int .i64 e)) w.heap.size _ _ := (heap_setCell_ltG w3 w2.heap.size 3 w.heap.size (.int .i64 e) HNE.out.1).trans (show w3.heap[w.heap.size]? = _ from HX3.out.2.1)
    have ts0 : At (w3.setCell ⟨w2.heap.size, 3, none⟩ (.int .i64 e)) w1.heap.size _ _ := (heap_setCell_ltG w3 w2.heap.size 3 w1.heap.size (.int .i64 e) HNE.out.2).trans (show w3.heap[w1.heap.size]? = _ from HX3.out.2.2)
    have tb0 : Below w2.heap.size w2 (w3.setCell ⟨w2.heap.size, 3, none⟩ (.int .i64 e)) := (HB3.out).setCell (p := ⟨w2.heap.size, 3, none⟩) (Nat.le_refl _) _
    obtain ⟨w4, hw4⟩ : ∃ w4, (w3.setCell ⟨w2.heap.size, 3, none⟩ (.int .i64 e)) = w4 := ⟨_, rfl⟩
    rw [hw4] at t0 tp0 ts0 tb0
    rw [hw4]
    clear hw4 x0 x1 x2 x3 x4 x5 x6 f1 f2 f3 f4 f5 f6 
    have tA := t0
    have tP : At w4 w.heap.size _ _ := tp0
    have tS : At w4 w1.heap.size _ _ := ts0
    have tB := tb0
    clear t0 tp0 ts0 tb0 a0 a1 a2 a3 a4 a5 a6 s0 s1 s2 s3 s4 s5 s6
    have a0 : w4.cell? ⟨w.heap.size, 0, none⟩ = some (.bool P.big) := tP.cell 0 rfl
    have a1 : w4.cell? ⟨w.heap.size, 1, none⟩ = some (.int .i64 P.ptr) := tP.cell 1 rfl
    have a2 : w4.cell? ⟨w.heap.size, 2, none⟩ = some (.slice q1 P.vars.length k1) := tP.cell 2 rfl
    have a3 : w4.cell? ⟨w.heap.size, 3, none⟩ = some (.slice q2 P.news.length k2) := tP.cell 3 rfl
    have a4 : w4.cell? ⟨w.heap.size, 4, none⟩ = some (.slice q3 P.exs.length k3) := tP.cell 4 rfl
    have a5 : w4.cell? ⟨w.heap.size, 5, none⟩ = some (.slice q4 P.sts.length k4) := tP.cell 5 rfl
    have a6 : w4.cell? ⟨w.heap.size, 6, none⟩ = some (.slice q5 P.main.length k5) := tP.cell 6 rfl
    have s0 : w4.cell? ⟨w1.heap.size, 0, none⟩ = some (.int .i64 4) := tS.cell 0 rfl
    have s1 : w4.cell? ⟨w1.heap.size, 1, none⟩ = some (.int .i64 tt) := tS.cell 1 rfl
    have s2 : w4.cell? ⟨w1.heap.size, 2, none⟩ = some (.int .i64 k) := tS.cell 2 rfl
    have s3 : w4.cell? ⟨w1.heap.size, 3, none⟩ = some (.int .i64 e) := tS.cell 3 rfl
    have s4 : w4.cell? ⟨w1.heap.size, 4, none⟩ = some (.int .i64 n) := tS.cell 4 rfl
    have s5 : w4.cell? ⟨w1.heap.size, 5, none⟩ = some (.slice qb bd.length cb) := tS.cell 5 rfl
    have s6 : w4.cell? ⟨w1.heap.size, 6, none⟩ = some (.slice qe el.length ce) := tS.cell 6 rfl
    have x0 : w4.cell? ⟨w2.heap.size, 0, none⟩ = some (.int .i64 4) := tA.cell 0 rfl
    have x1 : w4.cell? ⟨w2.heap.size, 1, none⟩ = some (.int .i64 0) := tA.cell 1 rfl
    have x2 : w4.cell? ⟨w2.heap.size, 2, none⟩ = some (.int .i64 0) := tA.cell 2 rfl
    have x3 : w4.cell? ⟨w2.heap.size, 3, none⟩ = some (.int .i64 e) := tA.cell 3 rfl
    have x4 : w4.cell? ⟨w2.heap.size, 4, none⟩ = some (.int .i64 0) := tA.cell 4 rfl
    have x5 : w4.cell? ⟨w2.heap.size, 5, none⟩ = some (.slice none 0 0) := tA.cell 5 rfl
    have x6 : w4.cell? ⟨w2.heap.size, 6, none⟩ = some (.slice none 0 0) := tA.cell 6 rfl
    have HT := Lib.hid (And.intro tA (And.intro tP (And.intro tS tB)))
    clear tA tP tS tB
    have hB0 := HT.out.2.2.2
    have cO := hO w4 hB0 e 7
    go_wp2_with fail
    refine cO.mono ?_
    rintro e' w5 ⟨rfl, hc5⟩
    clear cO
    clear a0 a1 a2 a3 a4 a5 a6 s0 s1 s2 s3 s4 s5 s6 x0 x1 x2 x3 x4 x5 x6
    have hB5 := hB0.trans (hc5.mono hB0.size)
    have nA5 := At.below' hc5 HT.out.1
    have nP5 := At.below' hc5 HT.out.2.1
    have nS5 := At.below' hc5 HT.out.2.2.1
    have a0 : w5.cell? ⟨w.heap.size, 0, none⟩ = some (.bool P.big) := nP5.cell 0 rfl
    have a1 : w5.cell? ⟨w.heap.size, 1, none⟩ = some (.int .i64 P.ptr) := nP5.cell 1 rfl
    have a2 : w5.cell? ⟨w.heap.size, 2, none⟩ = some (.slice q1 P.vars.length k1) := nP5.cell 2 rfl
    have a3 : w5.cell? ⟨w.heap.size, 3, none⟩ = some (.slice q2 P.news.length k2) := nP5.cell 3 rfl
    have a4 : w5.cell? ⟨w.heap.size, 4, none⟩ = some (.slice q3 P.exs.length k3) := nP5.cell 4 rfl
    have a5 : w5.cell? ⟨w.heap.size, 5, none⟩ = some (.slice q4 P.sts.length k4) := nP5.cell 5 rfl
    have a6 : w5.cell? ⟨w.heap.size, 6, none⟩ = some (.slice q5 P.main.length k5) := nP5.cell 6 rfl
    have s0 : w5.cell? ⟨w1.heap.size, 0, none⟩ = some (.int .i64 4) := nS5.cell 0 rfl
    have s1 : w5.cell? ⟨w1.heap.size, 1, none⟩ = some (.int .i64 tt) := nS5.cell 1 rfl
    have s2 : w5.cell? ⟨w1.heap.size, 2, none⟩ = some (.int .i64 k) := nS5.cell 2 rfl
    have s3 : w5.cell? ⟨w1.heap.size, 3, none⟩ = some (.int .i64 e) := nS5.cell 3 rfl
    have s4 : w5.cell? ⟨w1.heap.size, 4, none⟩ = some (.int .i64 n) := nS5.cell 4 rfl
    have s5 : w5.cell? ⟨w1.heap.size, 5, none⟩ = some (.slice qb bd.length cb) := nS5.cell 5 rfl
    have s6 : w5.cell? ⟨w1.heap.size, 6, none⟩ = some (.slice qe el.length ce) := nS5.cell 6 rfl
    have x0 : w5.cell? ⟨w2.heap.size, 0, none⟩ = some (.int .i64 4) := nA5.cell 0 rfl
    have x1 : w5.cell? ⟨w2.heap.size, 1, none⟩ = some (.int .i64 0) := nA5.cell 1 rfl
    have x2 : w5.cell? ⟨w2.heap.size, 2, none⟩ = some (.int .i64 0) := nA5.cell 2 rfl
    have x3 : w5.cell? ⟨w2.heap.size, 3, none⟩ = some (.int .i64 e) := nA5.cell 3 rfl
    have x4 : w5.cell? ⟨w2.heap.size, 4, none⟩ = some (.int .i64 0) := nA5.cell 4 rfl
    have x5 : w5.cell? ⟨w2.heap.size, 5, none⟩ = some (.slice none 0 0) := nA5.cell 5 rfl
    have x6 : w5.cell? ⟨w2.heap.size, 6, none⟩ = some (.slice none 0 0) := nA5.cell 6 rfl
    cases hq4 : ofB P e 7
    · go_wp2_with fail
      go_ret
      exact ⟨ret_b (by rw [HR.out]; simp [rStmtB, hq4]), HB2.out.trans (hB5.mono HB2.out.size)⟩
    have cQ := eqStmt_any 4 tt k e n 4 0 0 e 0 (.slice qb bd.length cb) (.slice qe el.length ce) (.slice none 0 0) (.slice none 0 0) bd el [] [] w5 (HI.out.2.1.below hB5) (HI.out.2.2.below hB5) (is_nilG _) (is_nilG _)
    go_wp2_with fail
    refine cQ.mono ?_
    rintro e' w9 ⟨rfl, hb9⟩
    have hB9 := hB5.trans (hb9.mono hB5.size)
    clear cQ
    clear a0 a1 a2 a3 a4 a5 a6 s0 s1 s2 s3 s4 s5 s6 x0 x1 x2 x3 x4 x5 x6
    go_wp2_with fail
    go_ret
    exact ⟨ret_b (by rw [HR.out]; simp [rStmtB, hq4]), HB2.out.trans (hB9.mono HB2.out.size)⟩
  have o4b : (op == 4) = false := beq_eq_false_iff_ne.2 o4
  by_cases o5 : op = 5
  · subst o5
    go_wp2_with fail
    go_region
    have t0 : At (w3.setCell ⟨w2.heap.size, 3, none⟩ (.int .i64 e)) w2.heap.size #[.int .i64 5, .int .i64 0, .int .i64 0, .int .i64 e, .int .i64 0, .slice none 0 0, .slice none 0 0] 53 := At.set HX3.out.1 3 (.int .i64 e) (by simp)
    have tp0 : At (w3.setCell ⟨w2.heap.size, 3, none⟩ (.int .i64 e)) w.heap.size _ _ := (heap_setCell_ltG w3 w2.heap.size 3 w.heap.size (.int .i64 e) HNE.out.1).trans (show w3.heap[w.heap.size]? = _ from HX3.out.2.1)
    have ts0 : At (w3.setCell ⟨w2.heap.size, 3, none⟩ (.int .i64 e)) w1.heap.size _ _ := (heap_setCell_ltG w3 w2.heap.size 3 w1.heap.size (.int .i64 e) HNE.out.2).trans (show w3.heap[w1.heap.size]? = _ from HX3.out.2.2)
    have tb0 : Below w2.heap.size w2 (w3.setCell ⟨w2.heap.size, 3, none⟩ (.int .i64 e)) := (HB3.out).setCell (p := ⟨w2.heap.size, 3, none⟩) (Nat.le_refl _) _
    have t1 : At ((w3.setCell ⟨w2.heap.size, 3, none⟩ (.int .i64 e)).setCell ⟨w2.heap.size, 5, none⟩ (.slice qb bd.length cb)) w2.heap.size #[.int .i64 5, .int .i64 0, .int .i64 0, .int .i64 e, .int .i64 0, .slice qb bd.length cb, .slice none 0 0] 53 := At.set t0 5 (.slice qb bd.length cb) (by simp)
    have tp1 : At ((w3.setCell ⟨w2.heap.size, 3, none⟩ (.int .i64 e)).setCell ⟨w2.heap.size, 5, none⟩ (.slice qb bd.length cb)) w.heap.size _ _ := (heap_setCell_ltG (w3.setCell ⟨w2.heap.size, 3, none⟩ (.int .i64 e)) w2.heap.size 5 w.heap.size (.slice qb bd.length cb) HNE.out.1).trans (show (w3.setCell ⟨w2.heap.size, 3, none⟩ (.int .i64 e)).heap[w.heap.size]? = _ from tp0)
    have ts1 : At ((w3.setCell ⟨w2.heap.size, 3, none⟩ (.int .i64 e)).setCell ⟨w2.heap.size, 5, none⟩ (.slice qb bd.length cb)) w1.heap.size _ _ := (heap_setCell_ltG (w3.setCell ⟨w2.heap.size, 3, none⟩ (.int .i64 e)) w2.heap.size 5 w1.heap.size (.slice qb bd.length cb) HNE.out.2).trans (show (w3.setCell ⟨w2.heap.size, 3, none⟩ (.int .i64 e)).heap[w1.heap.size]? = _ from ts0)
    have tb1 : Below w2.heap.size w2 ((w3.setCell ⟨w2.heap.size, 3, none⟩ (.int .i64 e)).setCell ⟨w2.heap.size, 5, none⟩ (.slice qb bd.length cb)) := (tb0).setCell (p := ⟨w2.heap.size, 5, none⟩) (Nat.le_refl _) _
    have t2 : At (((w3.setCell ⟨w2.heap.size, 3, none⟩ (.int .i64 e)).setCell ⟨w2.heap.size, 5, none⟩ (.slice qb bd.length cb)).setCell ⟨w2.heap.size, 6, none⟩ (.slice qe el.length ce)) w2.heap.size #[.int .i64 5, .int .i64 0, .int .i64 0, .int .i64 e, .int .i64 0, .slice qb bd.length cb, .slice qe el.length ce] 53 := At.set t1 6 (.slice qe el.length ce) (by simp)
    have tp2 : At (((w3.setCell ⟨w2.heap.size, 3, none⟩ (.int .i64 e)).setCell ⟨w2.heap.size, 5, none⟩ (.slice qb bd.length cb)).setCell ⟨w2.heap.size, 6, none⟩ (.slice qe el.length ce)) w.heap.size _ _ := (heap_setCell_ltG ((w3.setCell ⟨w2.heap.size, 3, none⟩ (.int .i64 e)).setCell ⟨w2.heap.size, 5, none⟩ (.slice qb bd.length cb)) w2.heap.size 6 w.heap.size (.slice qe el.length ce) HNE.out.1).trans (show ((w3.setCell ⟨w2.heap.size, 3, none⟩ (.int .i64 e)).setCell ⟨w2.heap.size, 5, none⟩ (.slice qb bd.length cb)).heap[w.heap.size]? = _ from tp1)
    have ts2 : At (((w3.setCell ⟨w2.heap.size, 3, none⟩ (.int .i64 e)).setCell ⟨w2.heap.size, 5, none⟩ (.slice qb bd.length cb)).setCell ⟨w2.heap.size, 6, none⟩ (.slice qe el.length ce)) w1.heap.size _ _ := (heap_setCell_ltG ((w3.setCell ⟨w2.heap.size, 3, none⟩ (.int .i64 e)).setCell ⟨w2.heap.size, 5, none⟩ (.slice qb bd.length cb)) w2.heap.size 6 w1.heap.size (.slice qe el.length ce) HNE.out.2).trans (show ((w3.setCell ⟨w2.heap.size, 3, none⟩ (.int .i64 e)).setCell ⟨w2.heap.size, 5, none⟩ (.slice qb bd.length cb)).heap[w1.heap.size]? = _ from ts1)
    have tb2 : Below w2.heap.size w2 (((w3.setCell ⟨w2.heap.size, 3, none⟩ (.int .i64 e)).setCell ⟨w2.heap.size, 5, none⟩ (.slice qb bd.length cb)).setCell ⟨w2.heap.size, 6, none⟩ (.slice qe el.length ce)) := (tb1).setCell (p := ⟨w2.heap.size, 6, none⟩) (Nat.le_refl _) _
    replace t2 := At.drew t2
    replace tp2 := At.drew tp2
    replace ts2 := At.drew ts2
    replace tb2 := (tb2).drew
    obtain ⟨w4, hw4⟩ : ∃ w4, (((w3.setCell ⟨w2.heap.size, 3, none⟩ (.int .i64 e)).setCell ⟨w2.heap.size, 5, none⟩ (.slice qb bd.length cb)).setCell ⟨w2.heap.size, 6, none⟩ (.slice qe el.length ce)).drew = w4 := ⟨_, rfl⟩
    rw [hw4] at t2 tp2 ts2 tb2
    rw [hw4]
    clear hw4 x0 x1 x2 x3 x4 x5 x6 f1 f2 f3 f4 f5 f6 t0 tp0 ts0 tb0 t1 tp1 ts1 tb1
    have tA := t2
    have tP : At w4 w.heap.size _ _ := tp2
    have tS : At w4 w1.heap.size _ _ := ts2
    have tB := tb2
    clear t2 tp2 ts2 tb2 a0 a1 a2 a3 a4 a5 a6 s0 s1 s2 s3 s4 s5 s6
    have a0 : w4.cell? ⟨w.heap.size, 0, none⟩ = some (.bool P.big) := tP.cell 0 rfl
    have a1 : w4.cell? ⟨w.heap.size, 1, none⟩ = some (.int .i64 P.ptr) := tP.cell 1 rfl
    have a2 : w4.cell? ⟨w.heap.size, 2, none⟩ = some (.slice q1 P.vars.length k1) := tP.cell 2 rfl
    have a3 : w4.cell? ⟨w.heap.size, 3, none⟩ = some (.slice q2 P.news.length k2) := tP.cell 3 rfl
    have a4 : w4.cell? ⟨w.heap.size, 4, none⟩ = some (.slice q3 P.exs.length k3) := tP.cell 4 rfl
    have a5 : w4.cell? ⟨w.heap.size, 5, none⟩ = some (.slice q4 P.sts.length k4) := tP.cell 5 rfl
    have a6 : w4.cell? ⟨w.heap.size, 6, none⟩ = some (.slice q5 P.main.length k5) := tP.cell 6 rfl
    have s0 : w4.cell? ⟨w1.heap.size, 0, none⟩ = some (.int .i64 5) := tS.cell 0 rfl
    have s1 : w4.cell? ⟨w1.heap.size, 1, none⟩ = some (.int .i64 tt) := tS.cell 1 rfl
    have s2 : w4.cell? ⟨w1.heap.size, 2, none⟩ = some (.int .i64 k) := tS.cell 2 rfl
    have s3 : w4.cell? ⟨w1.heap.size, 3, none⟩ = some (.int .i64 e) := tS.cell 3 rfl
    have s4 : w4.cell? ⟨w1.heap.size, 4, none⟩ = some (.int .i64 n) := tS.cell 4 rfl
    have s5 : w4.cell? ⟨w1.heap.size, 5, none⟩ = some (.slice qb bd.length cb) := tS.cell 5 rfl
    have s6 : w4.cell? ⟨w1.heap.size, 6, none⟩ = some (.slice qe el.length ce) := tS.cell 6 rfl
    have x0 : w4.cell? ⟨w2.heap.size, 0, none⟩ = some (.int .i64 5) := tA.cell 0 rfl
    have x1 : w4.cell? ⟨w2.heap.size, 1, none⟩ = some (.int .i64 0) := tA.cell 1 rfl
    have x2 : w4.cell? ⟨w2.heap.size, 2, none⟩ = some (.int .i64 0) := tA.cell 2 rfl
    have x3 : w4.cell? ⟨w2.heap.size, 3, none⟩ = some (.int .i64 e) := tA.cell 3 rfl
    have x4 : w4.cell? ⟨w2.heap.size, 4, none⟩ = some (.int .i64 0) := tA.cell 4 rfl
    have x5 : w4.cell? ⟨w2.heap.size, 5, none⟩ = some (.slice qb bd.length cb) := tA.cell 5 rfl
    have x6 : w4.cell? ⟨w2.heap.size, 6, none⟩ = some (.slice qe el.length ce) := tA.cell 6 rfl
    have HT := Lib.hid (And.intro tA (And.intro tP (And.intro tS tB)))
    clear tA tP tS tB
    have hB0 := HT.out.2.2.2
    have cO := hO w4 hB0 e 6
    go_wp2_with fail
    refine cO.mono ?_
    rintro e' w5 ⟨rfl, hc5⟩
    clear cO
    clear a0 a1 a2 a3 a4 a5 a6 s0 s1 s2 s3 s4 s5 s6 x0 x1 x2 x3 x4 x5 x6
    have hB5 := hB0.trans (hc5.mono hB0.size)
    have nA5 := At.below' hc5 HT.out.1
    have nP5 := At.below' hc5 HT.out.2.1
    have nS5 := At.below' hc5 HT.out.2.2.1
    have a0 : w5.cell? ⟨w.heap.size, 0, none⟩ = some (.bool P.big) := nP5.cell 0 rfl
    have a1 : w5.cell? ⟨w.heap.size, 1, none⟩ = some (.int .i64 P.ptr) := nP5.cell 1 rfl
    have a2 : w5.cell? ⟨w.heap.size, 2, none⟩ = some (.slice q1 P.vars.length k1) := nP5.cell 2 rfl
    have a3 : w5.cell? ⟨w.heap.size, 3, none⟩ = some (.slice q2 P.news.length k2) := nP5.cell 3 rfl
    have a4 : w5.cell? ⟨w.heap.size, 4, none⟩ = some (.slice q3 P.exs.length k3) := nP5.cell 4 rfl
    have a5 : w5.cell? ⟨w.heap.size, 5, none⟩ = some (.slice q4 P.sts.length k4) := nP5.cell 5 rfl
    have a6 : w5.cell? ⟨w.heap.size, 6, none⟩ = some (.slice q5 P.main.length k5) := nP5.cell 6 rfl
    have s0 : w5.cell? ⟨w1.heap.size, 0, none⟩ = some (.int .i64 5) := nS5.cell 0 rfl
    have s1 : w5.cell? ⟨w1.heap.size, 1, none⟩ = some (.int .i64 tt) := nS5.cell 1 rfl
    have s2 : w5.cell? ⟨w1.heap.size, 2, none⟩ = some (.int .i64 k) := nS5.cell 2 rfl
    have s3 : w5.cell? ⟨w1.heap.size, 3, none⟩ = some (.int .i64 e) := nS5.cell 3 rfl
    have s4 : w5.cell? ⟨w1.heap.size, 4, none⟩ = some (.int .i64 n) := nS5.cell 4 rfl
    have s5 : w5.cell? ⟨w1.heap.size, 5, none⟩ = some (.slice qb bd.length cb) := nS5.cell 5 rfl
    have s6 : w5.cell? ⟨w1.heap.size, 6, none⟩ = some (.slice qe el.length ce) := nS5.cell 6 rfl
    have x0 : w5.cell? ⟨w2.heap.size, 0, none⟩ = some (.int .i64 5) := nA5.cell 0 rfl
    have x1 : w5.cell? ⟨w2.heap.size, 1, none⟩ = some (.int .i64 0) := nA5.cell 1 rfl
    have x2 : w5.cell? ⟨w2.heap.size, 2, none⟩ = some (.int .i64 0) := nA5.cell 2 rfl
    have x3 : w5.cell? ⟨w2.heap.size, 3, none⟩ = some (.int .i64 e) := nA5.cell 3 rfl
    have x4 : w5.cell? ⟨w2.heap.size, 4, none⟩ = some (.int .i64 0) := nA5.cell 4 rfl
    have x5 : w5.cell? ⟨w2.heap.size, 5, none⟩ = some (.slice qb bd.length cb) := nA5.cell 5 rfl
    have x6 : w5.cell? ⟨w2.heap.size, 6, none⟩ = some (.slice qe el.length ce) := nA5.cell 6 rfl
    cases hq4 : ofB P e 6
    · go_wp2_with fail
      go_ret
      exact ⟨ret_b (by rw [HR.out]; simp [rStmtB, hq4]), HB2.out.trans (hB5.mono HB2.out.size)⟩
    have cQ := eqStmt_any 5 tt k e n 5 0 0 e 0 (.slice qb bd.length cb) (.slice qe el.length ce) (.slice qb bd.length cb) (.slice qe el.length ce) bd el bd el w5 (HI.out.2.1.below hB5) (HI.out.2.2.below hB5) (HI.out.2.1.below hB5) (HI.out.2.2.below hB5)
    go_wp2_with fail
    refine cQ.mono ?_
    rintro e' w9 ⟨rfl, hb9⟩
    have hB9 := hB5.trans (hb9.mono hB5.size)
    clear cQ
    clear a0 a1 a2 a3 a4 a5 a6 s0 s1 s2 s3 s4 s5 s6 x0 x1 x2 x3 x4 x5 x6
    go_wp2_with fail
    go_ret
    exact ⟨ret_b (by rw [HR.out]; simp [rStmtB, hq4]), HB2.out.trans (hB9.mono HB2.out.size)⟩
  have o5b : (op == 5) = false := beq_eq_false_iff_ne.2 o5
  by_cases o6 : op = 6
  · subst o6
    go_wp2_with fail
    go_region
    have t0 : At (w3.setCell ⟨w2.heap.size, 3, none⟩ (.int .i64 e)) w2.heap.size #[.int .i64 6, .int .i64 0, .int .i64 0, .int .i64 e, .int .i64 0, .slice none 0 0, .slice none 0 0] 53 := At.set HX3.out.1 3 (.int .i64 e) (by simp)
    have tp0 : At (w3.setCell ⟨w2.heap.size, 3, none⟩ (.int .i64 e)) w.heap.size _ _ := (heap_setCell_ltG w3 w2.heap.size 3 w.heap.size (.int .i64 e) HNE.out.1).trans (show w3.heap[w.heap.size]? = _ from HX3.out.2.1)
    have ts0 : At (w3.setCell ⟨w2.heap.size, 3, none⟩ (.int .i64 e)) w1.heap.size _ _ := (heap_setCell_ltG w3 w2.heap.size 3 w1.heap.size (.int .i64 e) HNE.out.2).trans (show w3.heap[w1.heap.size]? = _ from HX3.out.2.2)
    have tb0 : Below w2.heap.size w2 (w3.setCell ⟨w2.heap.size, 3, none⟩ (.int .i64 e)) := (HB3.out).setCell (p := ⟨w2.heap.size, 3, none⟩) (Nat.le_refl _) _
    have t1 : At ((w3.setCell ⟨w2.heap.size, 3, none⟩ (.int .i64 e)).setCell ⟨w2.heap.size, 5, none⟩ (.slice qb bd.length cb)) w2.heap.size #[.int .i64 6, .int .i64 0, .int .i64 0, .int .i64 e, .int .i64 0, .slice qb bd.length cb, .slice none 0 0] 53 := At.set t0 5 (.slice qb bd.length cb) (by simp)
    have tp1 : At ((w3.setCell ⟨w2.heap.size, 3, none⟩ (.int .i64 e)).setCell ⟨w2.heap.size, 5, none⟩ (.slice qb bd.length cb)) w.heap.size _ _ := (heap_setCell_ltG (w3.setCell ⟨w2.heap.size, 3, none⟩ (.int .i64 e)) w2.heap.size 5 w.heap.size (.slice qb bd.length cb) HNE.out.1).trans (show (w3.setCell ⟨w2.heap.size, 3, none⟩ (.int .i64 e)).heap[w.heap.size]? = _ from tp0)
    have ts1 : At ((w3.setCell ⟨w2.heap.size, 3, none⟩ (.int .i64 e)).setCell ⟨w2.heap.size, 5, none⟩ (.slice qb bd.length cb)) w1.heap.size _ _ := (heap_setCell_ltG (w3.setCell ⟨w2.heap.size, 3, none⟩ (.int .i64 e)) w2.heap.size 5 w1.heap.size (.slice qb bd.length cb) HNE.out.2).trans (show (w3.setCell ⟨w2.heap.size, 3, none⟩ (.int .i64 e)).heap[w1.heap.size]? = _ from ts0)
    have tb1 : Below w2.heap.size w2 ((w3.setCell ⟨w2.heap.size, 3, none⟩ (.int .i64 e)).setCell ⟨w2.heap.size, 5, none⟩ (.slice qb bd.length cb)) := (tb0).setCell (p := ⟨w2.heap.size, 5, none⟩) (Nat.le_refl _) _
    replace t1 := At.drew t1
    replace tp1 := At.drew tp1
    replace ts1 := At.drew ts1
    replace tb1 := (tb1).drew
    obtain ⟨w4, hw4⟩ : ∃ w4, ((w3.setCell ⟨w2.heap.size, 3, none⟩ (.int .i64 e)).setCell ⟨w2.heap.size, 5, none⟩ (.slice qb bd.length cb)).drew = w4 := ⟨_, rfl⟩
    rw [hw4] at t1 tp1 ts1 tb1
    rw [hw4]
    clear hw4 x0 x1 x2 x3 x4 x5 x6 f1 f2 f3 f4 f5 f6 t0 tp0 ts0 tb0
    have tA := t1
    have tP : At w4 w.heap.size _ _ := tp1
    have tS : At w4 w1.heap.size _ _ := ts1
    have tB := tb1
    clear t1 tp1 ts1 tb1 a0 a1 a2 a3 a4 a5 a6 s0 s1 s2 s3 s4 s5 s6
    have a0 : w4.cell? ⟨w.heap.size, 0, none⟩ = some (.bool P.big) := tP.cell 0 rfl
    have a1 : w4.cell? ⟨w.heap.size, 1, none⟩ = some (.int .i64 P.ptr) := tP.cell 1 rfl
    have a2 : w4.cell? ⟨w.heap.size, 2, none⟩ = some (.slice q1 P.vars.length k1) := tP.cell 2 rfl
    have a3 : w4.cell? ⟨w.heap.size, 3, none⟩ = some (.slice q2 P.news.length k2) := tP.cell 3 rfl
    have a4 : w4.cell? ⟨w.heap.size, 4, none⟩ = some (.slice q3 P.exs.length k3) := tP.cell 4 rfl
    have a5 : w4.cell? ⟨w.heap.size, 5, none⟩ = some (.slice q4 P.sts.length k4) := tP.cell 5 rfl
    have a6 : w4.cell? ⟨w.heap.size, 6, none⟩ = some (.slice q5 P.main.length k5) := tP.cell 6 rfl
    have s0 : w4.cell? ⟨w1.heap.size, 0, none⟩ = some (.int .i64 6) := tS.cell 0 rfl
    have s1 : w4.cell? ⟨w1.heap.size, 1, none⟩ = some (.int .i64 tt) := tS.cell 1 rfl
    have s2 : w4.cell? ⟨w1.heap.size, 2, none⟩ = some (.int .i64 k) := tS.cell 2 rfl
    have s3 : w4.cell? ⟨w1.heap.size, 3, none⟩ = some (.int .i64 e) := tS.cell 3 rfl
    have s4 : w4.cell? ⟨w1.heap.size, 4, none⟩ = some (.int .i64 n) := tS.cell 4 rfl
    have s5 : w4.cell? ⟨w1.heap.size, 5, none⟩ = some (.slice qb bd.length cb) := tS.cell 5 rfl
    have s6 : w4.cell? ⟨w1.heap.size, 6, none⟩ = some (.slice qe el.length ce) := tS.cell 6 rfl
    have x0 : w4.cell? ⟨w2.heap.size, 0, none⟩ = some (.int .i64 6) := tA.cell 0 rfl
    have x1 : w4.cell? ⟨w2.heap.size, 1, none⟩ = some (.int .i64 0) := tA.cell 1 rfl
    have x2 : w4.cell? ⟨w2.heap.size, 2, none⟩ = some (.int .i64 0) := tA.cell 2 rfl
    have x3 : w4.cell? ⟨w2.heap.size, 3, none⟩ = some (.int .i64 e) := tA.cell 3 rfl
    have x4 : w4.cell? ⟨w2.heap.size, 4, none⟩ = some (.int .i64 0) := tA.cell 4 rfl
    have x5 : w4.cell? ⟨w2.heap.size, 5, none⟩ = some (.slice qb bd.length cb) := tA.cell 5 rfl
    have x6 : w4.cell? ⟨w2.heap.size, 6, none⟩ = some (.slice none 0 0) := tA.cell 6 rfl
    have HT := Lib.hid (And.intro tA (And.intro tP (And.intro tS tB)))
    clear tA tP tS tB
    have hB0 := HT.out.2.2.2
    have cO := hO w4 hB0 e 6
    go_wp2_with fail
    refine cO.mono ?_
    rintro e' w5 ⟨rfl, hc5⟩
    clear cO
    clear a0 a1 a2 a3 a4 a5 a6 s0 s1 s2 s3 s4 s5 s6 x0 x1 x2 x3 x4 x5 x6
    have hB5 := hB0.trans (hc5.mono hB0.size)
    have nA5 := At.below' hc5 HT.out.1
    have nP5 := At.below' hc5 HT.out.2.1
    have nS5 := At.below' hc5 HT.out.2.2.1
    have a0 : w5.cell? ⟨w.heap.size, 0, none⟩ = some (.bool P.big) := nP5.cell 0 rfl
    have a1 : w5.cell? ⟨w.heap.size, 1, none⟩ = some (.int .i64 P.ptr) := nP5.cell 1 rfl
    have a2 : w5.cell? ⟨w.heap.size, 2, none⟩ = some (.slice q1 P.vars.length k1) := nP5.cell 2 rfl
    have a3 : w5.cell? ⟨w.heap.size, 3, none⟩ = some (.slice q2 P.news.length k2) := nP5.cell 3 rfl
    have a4 : w5.cell? ⟨w.heap.size, 4, none⟩ = some (.slice q3 P.exs.length k3) := nP5.cell 4 rfl
    have a5 : w5.cell? ⟨w.heap.size, 5, none⟩ = some (.slice q4 P.sts.length k4) := nP5.cell 5 rfl
    have a6 : w5.cell? ⟨w.heap.size, 6, none⟩ = some (.slice q5 P.main.length k5) := nP5.cell 6 rfl
    have s0 : w5.cell? ⟨w1.heap.size, 0, none⟩ = some (.int .i64 6) := nS5.cell 0 rfl
    have s1 : w5.cell? ⟨w1.heap.size, 1, none⟩ = some (.int .i64 tt) := nS5.cell 1 rfl
    have s2 : w5.cell? ⟨w1.heap.size, 2, none⟩ = some (.int .i64 k) := nS5.cell 2 rfl
    have s3 : w5.cell? ⟨w1.heap.size, 3, none⟩ = some (.int .i64 e) := nS5.cell 3 rfl
    have s4 : w5.cell? ⟨w1.heap.size, 4, none⟩ = some (.int .i64 n) := nS5.cell 4 rfl
    have s5 : w5.cell? ⟨w1.heap.size, 5, none⟩ = some (.slice qb bd.length cb) := nS5.cell 5 rfl
    have s6 : w5.cell? ⟨w1.heap.size, 6, none⟩ = some (.slice qe el.length ce) := nS5.cell 6 rfl
    have x0 : w5.cell? ⟨w2.heap.size, 0, none⟩ = some (.int .i64 6) := nA5.cell 0 rfl
    have x1 : w5.cell? ⟨w2.heap.size, 1, none⟩ = some (.int .i64 0) := nA5.cell 1 rfl
    have x2 : w5.cell? ⟨w2.heap.size, 2, none⟩ = some (.int .i64 0) := nA5.cell 2 rfl
    have x3 : w5.cell? ⟨w2.heap.size, 3, none⟩ = some (.int .i64 e) := nA5.cell 3 rfl
    have x4 : w5.cell? ⟨w2.heap.size, 4, none⟩ = some (.int .i64 0) := nA5.cell 4 rfl
    have x5 : w5.cell? ⟨w2.heap.size, 5, none⟩ = some (.slice qb bd.length cb) := nA5.cell 5 rfl
    have x6 : w5.cell? ⟨w2.heap.size, 6, none⟩ = some (.slice none 0 0) := nA5.cell 6 rfl
    cases hq4 : ofB P e 6
    · go_wp2_with fail
      go_ret
      exact ⟨ret_b (by rw [HR.out]; simp [rStmtB, hq4]), HB2.out.trans (hB5.mono HB2.out.size)⟩
    have cQ := eqStmt_any 6 tt k e n 6 0 0 e 0 (.slice qb bd.length cb) (.slice qe el.length ce) (.slice qb bd.length cb) (.slice none 0 0) bd el bd [] w5 (HI.out.2.1.below hB5) (HI.out.2.2.below hB5) (HI.out.2.1.below hB5) (is_nilG _)
    go_wp2_with fail
    refine cQ.mono ?_
    rintro e' w9 ⟨rfl, hb9⟩
    have hB9 := hB5.trans (hb9.mono hB5.size)
    clear cQ
    clear a0 a1 a2 a3 a4 a5 a6 s0 s1 s2 s3 s4 s5 s6 x0 x1 x2 x3 x4 x5 x6
    go_wp2_with fail
    go_ret
    exact ⟨ret_b (by rw [HR.out]; simp [rStmtB, hq4]), HB2.out.trans (hB9.mono HB2.out.size)⟩
  have o6b : (op == 6) = false := beq_eq_false_iff_ne.2 o6
  by_cases o7 : op = 7
  · subst o7
    obtain ⟨w4, hw4⟩ : ∃ w4, w4 = w3 := ⟨_, rfl⟩
    subst hw4
    clear x0 x1 x2 x3 x4 x5 x6 f1 f2 f3 f4 f5 f6
    have tA := HX3.out.1
    have tP := HX3.out.2.1
    have tS := HX3.out.2.2
    have tB := HB3.out
    clear a0 a1 a2 a3 a4 a5 a6 s0 s1 s2 s3 s4 s5 s6
    have a0 : w4.cell? ⟨w.heap.size, 0, none⟩ = some (.bool P.big) := tP.cell 0 rfl
    have a1 : w4.cell? ⟨w.heap.size, 1, none⟩ = some (.int .i64 P.ptr) := tP.cell 1 rfl
    have a2 : w4.cell? ⟨w.heap.size, 2, none⟩ = some (.slice q1 P.vars.length k1) := tP.cell 2 rfl
    have a3 : w4.cell? ⟨w.heap.size, 3, none⟩ = some (.slice q2 P.news.length k2) := tP.cell 3 rfl
    have a4 : w4.cell? ⟨w.heap.size, 4, none⟩ = some (.slice q3 P.exs.length k3) := tP.cell 4 rfl
    have a5 : w4.cell? ⟨w.heap.size, 5, none⟩ = some (.slice q4 P.sts.length k4) := tP.cell 5 rfl
    have a6 : w4.cell? ⟨w.heap.size, 6, none⟩ = some (.slice q5 P.main.length k5) := tP.cell 6 rfl
    have s0 : w4.cell? ⟨w1.heap.size, 0, none⟩ = some (.int .i64 7) := tS.cell 0 rfl
    have s1 : w4.cell? ⟨w1.heap.size, 1, none⟩ = some (.int .i64 tt) := tS.cell 1 rfl
    have s2 : w4.cell? ⟨w1.heap.size, 2, none⟩ = some (.int .i64 k) := tS.cell 2 rfl
    have s3 : w4.cell? ⟨w1.heap.size, 3, none⟩ = some (.int .i64 e) := tS.cell 3 rfl
    have s4 : w4.cell? ⟨w1.heap.size, 4, none⟩ = some (.int .i64 n) := tS.cell 4 rfl
    have s5 : w4.cell? ⟨w1.heap.size, 5, none⟩ = some (.slice qb bd.length cb) := tS.cell 5 rfl
    have s6 : w4.cell? ⟨w1.heap.size, 6, none⟩ = some (.slice qe el.length ce) := tS.cell 6 rfl
    have x0 : w4.cell? ⟨w2.heap.size, 0, none⟩ = some (.int .i64 7) := tA.cell 0 rfl
    have x1 : w4.cell? ⟨w2.heap.size, 1, none⟩ = some (.int .i64 0) := tA.cell 1 rfl
    have x2 : w4.cell? ⟨w2.heap.size, 2, none⟩ = some (.int .i64 0) := tA.cell 2 rfl
    have x3 : w4.cell? ⟨w2.heap.size, 3, none⟩ = some (.int .i64 0) := tA.cell 3 rfl
    have x4 : w4.cell? ⟨w2.heap.size, 4, none⟩ = some (.int .i64 0) := tA.cell 4 rfl
    have x5 : w4.cell? ⟨w2.heap.size, 5, none⟩ = some (.slice none 0 0) := tA.cell 5 rfl
    have x6 : w4.cell? ⟨w2.heap.size, 6, none⟩ = some (.slice none 0 0) := tA.cell 6 rfl
    have HT := Lib.hid (And.intro tA (And.intro tP (And.intro tS tB)))
    clear tA tP tS tB
    have hB0 := HT.out.2.2.2
    have cQ := eqStmt_any 7 tt k e n 7 0 0 0 0 (.slice qb bd.length cb) (.slice qe el.length ce) (.slice none 0 0) (.slice none 0 0) bd el [] [] w4 (HI.out.2.1.below hB0) (HI.out.2.2.below hB0) (is_nilG _) (is_nilG _)
    go_wp2_with fail
    refine cQ.mono ?_
    rintro e' w9 ⟨rfl, hb9⟩
    have hB9 := hB0.trans (hb9.mono hB0.size)
    clear cQ
    clear a0 a1 a2 a3 a4 a5 a6 s0 s1 s2 s3 s4 s5 s6 x0 x1 x2 x3 x4 x5 x6
    go_wp2_with fail
    go_ret
    exact ⟨ret_b (by rw [HR.out]; simp [rStmtB, *]), HB2.out.trans (hB9.mono HB2.out.size)⟩
  have o7b : (op == 7) = false := beq_eq_false_iff_ne.2 o7
  clear x0 x1 x2 x3 x4 x5 x6 f1 f2 f3 f4 f5 f6
  go_wp2_with fail
  go_ret
  exact ⟨ret_b (by rw [HR.out]; simp [rStmtB, *]), HB2.out.trans (HB3.out.mono HB2.out.size)⟩
end Go.Proofs.YtncdbjflfhfddaaGreat
