/- The same program in memory twice is told to be the same. -/
import Derived.Test.YtncdbjflfhfddaaGreatGRs
import Derived.Test.YtncdbjflfhfddaaGreatGC
import Derived.Test.YtncdbjflfhfddaaGreatBSmall
namespace Go.Proofs.YtncdbjflfhfddaaGreat
open Go.ChangeShapes Go.WideShapes Go.ChangeAt Go.RowKit Go.Joins Go.Deep
set_option linter.unusedVariables false

theorem under_ex : Tryz.prog.underlying 50 = some (.struct (Tryz.prog.fieldsOf 50)) := by kernel_rfl
theorem held_ex : Tryz.prog.stoodInHeld 50 = false := by kernel_rfl
theorem under_ab : Tryz.prog.underlying 29 = some (.struct (Tryz.prog.fieldsOf 29)) := by kernel_rfl
theorem held_ab : Tryz.prog.stoodInHeld 29 = false := by kernel_rfl
theorem neq_ex (o k n a b : Int) (w : World) :
    (binOp .neq 50 (.agg #[.int .i64 o, .int .i64 k, .int .i64 n, .int .i64 a, .int .i64 b]) (.agg #[.int .i64 o, .int .i64 k, .int .i64 n, .int .i64 a, .int .i64 b])).run Tryz.prog w = .ok (.bool false) w := by
  rw [run_neq_struct, run_equalIn_agg w 9999 50 _ _ under_ex held_ex]
  simp [Program.fieldsOf, Tryz.underlying50, go_sem]
theorem eql_ab (b : Bool) (p : Int) (w : World) :
    (binOp .eql 29 (.agg #[.bool b, .int .i64 p]) (.agg #[.bool b, .int .i64 p])).run Tryz.prog w = .ok (.bool true) w := by
  rw [run_eql_struct, run_equalIn_agg w 9999 29 _ _ under_ab held_ab]
  simp [Program.fieldsOf, Tryz.underlying29, go_sem]
def YesP (w : World) (e : Ending) (w' : World) : Prop := e = .returned (.bool true) ∧ Below w.heap.size w w'
theorem eqNums_same (v v2 : Value) (l : List Int) (w : World) (h : IsIs w v l) (h2 : IsIs w v2 l) : Calls Tryz.prog 16 #[v, v2] w (YesP w) :=
  (eqNumsG v v2 l l w h h2).mono fun e w' ⟨he, hb⟩ => ⟨by rw [he]; simp, hb⟩
set_option maxHeartbeats 1600000 in
theorem eqExprs_same (v v2 : Value) (l : List EX) (w : World) (h : IsEs w v l) (h2 : IsEs w v2 l) : Calls Tryz.prog 33 #[v, v2] w (YesP w) := by
  obtain ⟨q, cap, rfl, hl, _, hc⟩ := h
  obtain ⟨q2, cap2, rfl, _, _, hc2⟩ := h2
  obtain ⟨n, hn⟩ : ∃ n, n = l.length := ⟨_, rfl⟩
  rw [← hn] at hc hc2 hl ⊢
  unfold maxLen at hl
  have HN := Lib.hid hn
  have HC := Lib.hid (And.intro hc hc2)
  clear hn hc hc2
  go_enter Tryz.func33, Tryz.ntmps33
  go_wp2
  go_loopw [5] (fun v wr => ∃ i : Nat, i ≤ n ∧ v = .int .i64 (i : Nat) ∧ Below w.heap.size w wr) (fun v _ => n - (intOf v).toNat)
  case atStart => exact ⟨0, Nat.zero_le _, rfl, Below.refl _ _⟩
  case round =>
    obtain ⟨i, hi, rfl, hbr⟩ := hrel
    by_cases hlt : i < n
    · obtain ⟨g, o, rfl, hg, hcell⟩ := HC.out.1 (by omega)
      obtain ⟨g2, o2, rfl, hg2, hcell2⟩ := HC.out.2 (by omega)
      obtain ⟨x, hx⟩ : ∃ x, l[i]? = some x := ⟨_, List.getElem?_eq_getElem (by rw [← HN.out]; exact hlt)⟩
      obtain ⟨c0, c1, c2, c3, c4⟩ := (QE.below _ _ _ _ _ hbr (hcell i x hx)).cells
      obtain ⟨d0, d1, d2, d3, d4⟩ := (QE.below _ _ _ _ _ hbr (hcell2 i x hx)).cells
      obtain ⟨xo, xk, xn, xa, xb⟩ := x
      dsimp only at c0 c1 c2 c3 c4 d0 d1 d2 d3 d4
      have cE := fun w => neq_ex xo xk xn xa xb w
      have hj3 : (i : Int) < (n : Int) := by omega
      clear hcell hcell2 hx
      go_wp2
      go_quiet (fail)
      go_wp2
      go_roundw
      case rel => exact ⟨i + 1, by omega, by go_num, hbr.trans (Joins.below_draws _ _ _)⟩
      case measure => simp [intOf]; omega
    · obtain rfl : i = n := by omega
      go_wp2
      go_ret
      exact ⟨rfl, hbr⟩
set_option maxRecDepth 100000 in
set_option maxHeartbeats 3200000 in
theorem eqStmts_same (v v2 : Value) (l : List SX) (w : World) (h : IsSs w v l) (h2 : IsSs w v2 l) : Calls Tryz.prog 34 #[v, v2] w (YesP w) := by
  obtain ⟨q, cap, rfl, hl, _, hc⟩ := h
  obtain ⟨q2, cap2, rfl, _, _, hc2⟩ := h2
  obtain ⟨n, hn⟩ : ∃ n, n = l.length := ⟨_, rfl⟩
  rw [← hn] at hc hc2 hl ⊢
  unfold maxLen at hl
  have HN := Lib.hid hn
  have HC := Lib.hid (And.intro hc hc2)
  clear hn hc hc2
  go_enter Tryz.func34, Tryz.ntmps34
  go_wp2
  go_loopw [5] (fun v wr => ∃ i : Nat, i ≤ n ∧ v = .int .i64 (i : Nat) ∧ Below w.heap.size w wr) (fun v _ => n - (intOf v).toNat)
  case atStart => exact ⟨0, Nat.zero_le _, rfl, Below.refl _ _⟩
  case round =>
    obtain ⟨i, hi, rfl, hbr⟩ := hrel
    obtain ⟨wp, hwp⟩ : ∃ wp, wp = wr := ⟨_, rfl⟩
    subst hwp
    have HBR := Lib.hid hbr
    by_cases hlt : i < n
    · obtain ⟨g, o, rfl, hg, hcell⟩ := HC.out.1 (by omega)
      obtain ⟨g2, o2, rfl, hg2, hcell2⟩ := HC.out.2 (by omega)
      obtain ⟨x, hx⟩ : ∃ x, l[i]? = some x := ⟨_, List.getElem?_eq_getElem (by rw [← HN.out]; exact hlt)⟩
      obtain ⟨vb, ve, c0, c1, c2, c3, c4, c5, c6, ib, ie⟩ := QS.below _ _ _ _ _ hbr (hcell i x hx)
      obtain ⟨vb2, ve2, d0, d1, d2, d3, d4, d5, d6, ib2, ie2⟩ := QS.below _ _ _ _ _ hbr (hcell2 i x hx)
      obtain ⟨xo, xt, xk, xe, xn, xbd, xel⟩ := x
      dsimp only at c0 c1 c2 c3 c4 c5 c6 d0 d1 d2 d3 d4 d5 d6 ib ie ib2 ie2
      have cX := fun p : BelowBy wp => eqStmt_any xo xt xk xe xn xo xt xk xe xn vb ve vb2 ve2 xbd xel xbd xel p.world (ib.below p.below) (ie.below p.below) (ib2.below p.below) (ie2.below p.below)
      have es : eqSX ⟨xo, xt, xk, xe, xn, xbd, xel⟩ ⟨xo, xt, xk, xe, xn, xbd, xel⟩ = true := by simp [eqSX]
      rw [es] at cX
      obtain ⟨qb, cb, rfl, _⟩ := id ib
      obtain ⟨qe, ce, rfl, _⟩ := id ie
      obtain ⟨qb2, cb2, rfl, _⟩ := id ib2
      obtain ⟨qe2, ce2, rfl, _⟩ := id ie2
      have hj3 : (i : Int) < (n : Int) := by omega
      have z0 := fun p : BelowBy wp => p.cell c0
      have z1 := fun p : BelowBy wp => p.cell c1
      have z2 := fun p : BelowBy wp => p.cell c2
      have z3 := fun p : BelowBy wp => p.cell c3
      have z4 := fun p : BelowBy wp => p.cell c4
      have z5 := fun p : BelowBy wp => p.cell c5
      have z6 := fun p : BelowBy wp => p.cell c6
      have y0 := fun p : BelowBy wp => p.cell d0
      have y1 := fun p : BelowBy wp => p.cell d1
      have y2 := fun p : BelowBy wp => p.cell d2
      have y3 := fun p : BelowBy wp => p.cell d3
      have y4 := fun p : BelowBy wp => p.cell d4
      have y5 := fun p : BelowBy wp => p.cell d5
      have y6 := fun p : BelowBy wp => p.cell d6
      clear hcell hcell2 hx ib ie ib2 ie2 es hbr
      generalize xbd.length = nb at *
      generalize xel.length = ne at *
      go_wp2_with fail
      refine wp_region_quiet_below (by kernel_rfl) (by kernel_rfl) ?_
      repeat (go_big_quiet_step ((go_at_call 51; (with_reducible exact Calls.below_of (cX _)))))
      refine wpQuiet_nil ?_
      intro w9 hw'
      have hb9 : Below wp.heap.size wp w9 := by (obtain ⟨⟨_, h⟩, h2⟩ := hw'; rw [h2]; exact h)
      clear hw' c0 c1 c2 c3 c4 c5 c6 d0 d1 d2 d3 d4 d5 d6 z0 z1 z2 z3 z4 z5 z6 y0 y1 y2 y3 y4 y5 y6 cX
      go_wp2_with fail
      go_roundw
      case rel => exact ⟨i + 1, by omega, by go_num, HBR.out.trans (hb9.mono HBR.out.size)⟩
      case measure => simp [intOf]; omega
    · obtain rfl : i = n := by omega
      clear hbr
      go_wp2
      go_ret
      exact ⟨rfl, HBR.out⟩
set_option maxRecDepth 100000 in
set_option maxHeartbeats 3200000 in
theorem eqProgram_same (P : PX) (v1 v2 v3 v4 v5 u1 u2 u3 u4 u5 : Value) (w : World) (h : IsPr w v1 v2 v3 v4 v5 P) (h2 : IsPr w u1 u2 u3 u4 u5 P) :
    Calls Tryz.prog 17 #[.agg #[.bool P.big, .int .i64 P.ptr, v1, v2, v3, v4, v5], .agg #[.bool P.big, .int .i64 P.ptr, u1, u2, u3, u4, u5]] w (YesP w) := by
  obtain ⟨q1, k1, rfl, _⟩ := id h.1
  obtain ⟨q2, k2, rfl, _⟩ := id h.2.1
  obtain ⟨q3, k3, rfl, _⟩ := id h.2.2.1
  obtain ⟨q4, k4, rfl, _⟩ := id h.2.2.2.1
  obtain ⟨q5, k5, rfl, _⟩ := id h.2.2.2.2
  obtain ⟨p1, j1, rfl, _⟩ := id h2.1
  obtain ⟨p2, j2, rfl, _⟩ := id h2.2.1
  obtain ⟨p3, j3, rfl, _⟩ := id h2.2.2.1
  obtain ⟨p4, j4, rfl, _⟩ := id h2.2.2.2.1
  obtain ⟨p5, j5, rfl, _⟩ := id h2.2.2.2.2
  have hb0 := below_box1 w (.cells #[.bool P.big, .int .i64 P.ptr, .slice q1 P.vars.length k1, .slice q2 P.news.length k2, .slice q3 P.exs.length k3, .slice q4 P.sts.length k4, .slice q5 P.main.length k5] 33)
  have hA := At.new w #[.bool P.big, .int .i64 P.ptr, .slice q1 P.vars.length k1, .slice q2 P.news.length k2, .slice q3 P.exs.length k3, .slice q4 P.sts.length k4, .slice q5 P.main.length k5] 33
  obtain ⟨w1, hw1⟩ : ∃ w1, w.alloc (.cells #[.bool P.big, .int .i64 P.ptr, .slice q1 P.vars.length k1, .slice q2 P.news.length k2, .slice q3 P.exs.length k3, .slice q4 P.sts.length k4, .slice q5 P.main.length k5] 33) = w1 := ⟨_, rfl⟩
  rw [hw1] at hb0 hA
  have hb1 := below_box1 w1 (.cells #[.bool P.big, .int .i64 P.ptr, .slice p1 P.vars.length j1, .slice p2 P.news.length j2, .slice p3 P.exs.length j3, .slice p4 P.sts.length j4, .slice p5 P.main.length j5] 33)
  have hB := At.new w1 #[.bool P.big, .int .i64 P.ptr, .slice p1 P.vars.length j1, .slice p2 P.news.length j2, .slice p3 P.exs.length j3, .slice p4 P.sts.length j4, .slice p5 P.main.length j5] 33
  obtain ⟨w2, hw2⟩ : ∃ w2, w1.alloc (.cells #[.bool P.big, .int .i64 P.ptr, .slice p1 P.vars.length j1, .slice p2 P.news.length j2, .slice p3 P.exs.length j3, .slice p4 P.sts.length j4, .slice p5 P.main.length j5] 33) = w2 := ⟨_, rfl⟩
  rw [hw2] at hb1 hB
  have hA2 := At.below' hb1 hA
  have hb02 := hb0.trans (hb1.mono hb0.size)
  have i1 := h.below hb02
  have i2 := h2.below hb02
  have hlt : w.heap.size < w1.heap.size := hA.lt
  have cE := fun w => eql_ab P.big P.ptr w
  have c1 := fun w' (hb : Below w2.heap.size w2 w') => eqNums_same _ _ _ w' (i1.1.below hb) (i2.1.below hb)
  have c2 := fun w' (hb : Below w2.heap.size w2 w') => eqNums_same _ _ _ w' (i1.2.1.below hb) (i2.2.1.below hb)
  have c3 := fun w' (hb : Below w2.heap.size w2 w') => eqExprs_same _ _ _ w' (i1.2.2.1.below hb) (i2.2.2.1.below hb)
  have c4 := fun w' (hb : Below w2.heap.size w2 w') => eqStmts_same _ _ _ w' (i1.2.2.2.1.below hb) (i2.2.2.2.1.below hb)
  have c5 := fun w' (hb : Below w2.heap.size w2 w') => eqNums_same _ _ _ w' (i1.2.2.2.2.below hb) (i2.2.2.2.2.below hb)
  unfold YesP at c1 c2 c3 c4 c5
  have a0 : w2.cell? ⟨w.heap.size, 0, none⟩ = some (.bool P.big) := hA2.cell 0 rfl
  have a1 : w2.cell? ⟨w.heap.size, 1, none⟩ = some (.int .i64 P.ptr) := hA2.cell 1 rfl
  have a2 : w2.cell? ⟨w.heap.size, 2, none⟩ = some (.slice q1 P.vars.length k1) := hA2.cell 2 rfl
  have a3 : w2.cell? ⟨w.heap.size, 3, none⟩ = some (.slice q2 P.news.length k2) := hA2.cell 3 rfl
  have a4 : w2.cell? ⟨w.heap.size, 4, none⟩ = some (.slice q3 P.exs.length k3) := hA2.cell 4 rfl
  have a5 : w2.cell? ⟨w.heap.size, 5, none⟩ = some (.slice q4 P.sts.length k4) := hA2.cell 5 rfl
  have a6 : w2.cell? ⟨w.heap.size, 6, none⟩ = some (.slice q5 P.main.length k5) := hA2.cell 6 rfl
  have b0 : w2.cell? ⟨w1.heap.size, 0, none⟩ = some (.bool P.big) := hB.cell 0 rfl
  have b1 : w2.cell? ⟨w1.heap.size, 1, none⟩ = some (.int .i64 P.ptr) := hB.cell 1 rfl
  have b2 : w2.cell? ⟨w1.heap.size, 2, none⟩ = some (.slice p1 P.vars.length j1) := hB.cell 2 rfl
  have b3 : w2.cell? ⟨w1.heap.size, 3, none⟩ = some (.slice p2 P.news.length j2) := hB.cell 3 rfl
  have b4 : w2.cell? ⟨w1.heap.size, 4, none⟩ = some (.slice p3 P.exs.length j3) := hB.cell 4 rfl
  have b5 : w2.cell? ⟨w1.heap.size, 5, none⟩ = some (.slice p4 P.sts.length j4) := hB.cell 5 rfl
  have b6 : w2.cell? ⟨w1.heap.size, 6, none⟩ = some (.slice p5 P.main.length j5) := hB.cell 6 rfl
  have HB02 := Lib.hid hb02
  clear h h2 hb0 hb1 hA hA2 hB i1 i2 hb02
  generalize P.vars.length = nv at *
  generalize P.news.length = nn at *
  generalize P.exs.length = nx at *
  generalize P.sts.length = ns at *
  generalize P.main.length = nm at *
  generalize P.big = xb at *
  generalize P.ptr = xp at *
  go_enter Tryz.func17, Tryz.ntmps17
  go_upto_region 1 with (fail)
  clear hw1 hw2
  go_wp2_with fail
  refine (c1 _ (Below.refl _ _)).mono ?_
  rintro e w3 ⟨rfl, hb3⟩
  have d3 := cell_below a3 hb3
  have f3 := cell_below b3 hb3
  have HB3 := Lib.hid hb3
  have c2' := c2 w3 hb3
  clear hb3 c1 c2
  go_wp2_with fail
  refine c2'.mono ?_
  rintro e w4 ⟨rfl, hb4⟩
  have hb24 := HB3.out.trans (hb4.mono HB3.out.size)
  have d4 := cell_below a4 hb24
  have f4 := cell_below b4 hb24
  have HB4 := Lib.hid hb24
  have c3' := c3 w4 hb24
  clear hb4 hb24 c2' c3 d3 f3
  go_wp2_with fail
  refine c3'.mono ?_
  rintro e w5 ⟨rfl, hb5⟩
  have hb25 := HB4.out.trans (hb5.mono HB4.out.size)
  have d5 := cell_below a5 hb25
  have f5 := cell_below b5 hb25
  have HB5 := Lib.hid hb25
  have c4' := c4 w5 hb25
  clear hb5 hb25 c3' c4 d4 f4
  go_wp2_with fail
  refine c4'.mono ?_
  rintro e w6 ⟨rfl, hb6⟩
  have hb26 := HB5.out.trans (hb6.mono HB5.out.size)
  have d6 := cell_below a6 hb26
  have f6 := cell_below b6 hb26
  have HB6 := Lib.hid hb26
  have c5' := c5 w6 hb26
  clear hb6 hb26 c4' c5 d5 f5
  go_wp2_with fail
  refine c5'.mono ?_
  rintro e w7 ⟨rfl, hb7⟩
  have hb27 := HB6.out.trans (hb7.mono HB6.out.size)
  have FIN : Hid (YesP w (.returned (.bool true)) w7) := Lib.hid ⟨rfl, HB02.out.trans (hb27.mono HB02.out.size)⟩
  clear hb7 hb27 c5' d6 f6
  go_wp2_with fail
  go_ret
  exact FIN.out
end Go.Proofs.YtncdbjflfhfddaaGreat
