/- Package prog: take, mayBe, Check, Inner. -/
import Derived.Test.YtncdbjflfhfddaaGreatGO
namespace Go.Proofs.YtncdbjflfhfddaaGreat
open Go.ChangeShapes Go.WideShapes Go.ChangeAt Go.RowKit Go.Joins Go.Deep
set_option linter.unusedVariables false


theorem form_eq (P : PX) : formB P = (((P.ptr == 2) || (P.ptr == 4)) && (szB P.vars 4 && szB P.news 2) && (decide (P.exs.length ≤ 120) && (List.range P.exs.length).all fun i => isExprB P (exAt P i) i) && (decide (P.sts.length ≤ 40) && P.sts.all (isStmtB P))) := by
  simp [formB, Bool.and_assoc]
def TakeP (P : PX) (v1 v2 v3 v4 v5 : Value) (w : World) (e : Ending) (w' : World) : Prop :=
  ∃ w0 pb, e = .returned (.pointer (some ⟨pb, 0, none⟩)) ∧ PgNew w0 w' pb P v1 v2 v3 v4 v5 0 0 ∧ Below w.heap.size w w0 ∧ Below w.heap.size w w'
theorem take_any (P : PX) (v1 v2 v3 v4 v5 : Value) (w : World) (h : IsPr w v1 v2 v3 v4 v5 P) : Calls Tryz.prog 25 #[.agg #[.bool P.big, .int .i64 P.ptr, v1, v2, v3, v4, v5]] w (TakeP P v1 v2 v3 v4 v5 w) := by
  obtain ⟨q1, k1, rfl, _⟩ := id h.1
  obtain ⟨q2, k2, rfl, _⟩ := id h.2.1
  obtain ⟨q3, k3, rfl, _⟩ := id h.2.2.1
  obtain ⟨q4, k4, rfl, _⟩ := id h.2.2.2.1
  obtain ⟨q5, k5, rfl, _⟩ := id h.2.2.2.2
  have hb0 := below_box1 w (.cells #[.bool P.big, .int .i64 P.ptr, .slice q1 P.vars.length k1, .slice q2 P.news.length k2, .slice q3 P.exs.length k3, .slice q4 P.sts.length k4, .slice q5 P.main.length k5] 33)
  obtain ⟨w1, hw1⟩ : ∃ w1, w.alloc (.cells #[.bool P.big, .int .i64 P.ptr, .slice q1 P.vars.length k1, .slice q2 P.news.length k2, .slice q3 P.exs.length k3, .slice q4 P.sts.length k4, .slice q5 P.main.length k5] 33) = w1 := ⟨_, rfl⟩
  have hA := At.new w #[.bool P.big, .int .i64 P.ptr, .slice q1 P.vars.length k1, .slice q2 P.news.length k2, .slice q3 P.exs.length k3, .slice q4 P.sts.length k4, .slice q5 P.main.length k5] 33
  rw [hw1] at hb0 hA
  have hc := hA.cell 0 rfl
  have FIN : Hid (TakeP P (.slice q1 P.vars.length k1) (.slice q2 P.news.length k2) (.slice q3 P.exs.length k3) (.slice q4 P.sts.length k4) (.slice q5 P.main.length k5) w (.returned (.pointer (some ⟨w1.heap.size, 0, none⟩))) (w1.alloc (.cells (pgC P (.slice q1 P.vars.length k1) (.slice q2 P.news.length k2) (.slice q3 P.exs.length k3) (.slice q4 P.sts.length k4) (.slice q5 P.main.length k5) 0 0 0 false (.slice none 0 0) (.slice none 0 0)) 89))) :=
    Lib.hid ⟨w1, w1.heap.size, rfl, ⟨At.new _ _ _, below_box1 _ _, rfl, h.below hb0⟩, hb0, hb0.trans ((below_box1 _ _).mono hb0.size)⟩
  have a0 : w1.cell? ⟨w.heap.size, 0, none⟩ = some (.bool P.big) := hA.cell 0 rfl
  have a1 : w1.cell? ⟨w.heap.size, 1, none⟩ = some (.int .i64 P.ptr) := hA.cell 1 rfl
  have a2 : w1.cell? ⟨w.heap.size, 2, none⟩ = some (.slice q1 P.vars.length k1) := hA.cell 2 rfl
  have a3 : w1.cell? ⟨w.heap.size, 3, none⟩ = some (.slice q2 P.news.length k2) := hA.cell 3 rfl
  have a4 : w1.cell? ⟨w.heap.size, 4, none⟩ = some (.slice q3 P.exs.length k3) := hA.cell 4 rfl
  have a5 : w1.cell? ⟨w.heap.size, 5, none⟩ = some (.slice q4 P.sts.length k4) := hA.cell 5 rfl
  have a6 : w1.cell? ⟨w.heap.size, 6, none⟩ = some (.slice q5 P.main.length k5) := hA.cell 6 rfl
  clear hc hA hb0 h
  go_enter Tryz.func25, Tryz.ntmps25
  go_wp2
  go_ret
  exact FIN.out
def MayP (w0 : World) (pb : Nat) (P : PX) (v1 v2 v3 v4 v5 : Value) (w : World) (e : Ending) (w' : World) : Prop :=
  e = .returned (.bool (progB P)) ∧ (progB P = true → PgDone w0 w' pb P v1 v2 v3 v4 v5 1 0) ∧ Below pb w w'
set_option maxHeartbeats 1600000 in
theorem mayBe_any (w0 : World) (pb : Nat) (P : PX) (v1 v2 v3 v4 v5 : Value) (w : World) (h : PgNew w0 w pb P v1 v2 v3 v4 v5 0 0) : Calls Tryz.prog 26 #[.pointer (some ⟨pb, 0, none⟩)] w (MayP w0 pb P v1 v2 v3 v4 v5 w) := by
  have c0 : w.cell? ⟨pb, 0, none⟩ = some (.bool P.big) := h.cells.cell 0 rfl
  have c1 : w.cell? ⟨pb, 1, none⟩ = some (.int .i64 P.ptr) := h.cells.cell 1 rfl
  have hlt := h.cells.lt
  have HH := Lib.hid h
  have hfe := form_eq P
  have HP : Hid (progB P = (formB P && (goA P).isSome)) := Lib.hid rfl
  clear h
  by_cases hp : mayA P.ptr
  · have cS := fun w => Size_yes P.big P.ptr 7 hp (by decide) w
    have hp2 : ((P.ptr == 2) || (P.ptr == 4)) = true := by rcases hp with h | h <;> rw [h] <;> rfl
    rw [hp2] at hfe
    have cZ := fun w h => haveSizes_any pb P w h
    have cE := fun w h => haveExprs_any pb P w h
    generalize hz : (szB P.vars 4 && szB P.news 2) = bz at cZ hfe
    generalize (decide (P.exs.length ≤ 120) && (List.range P.exs.length).all fun i => isExprB P (exAt P i) i) = be at cE hfe
    generalize sizN P.ptr 7 = sz at *
    cases bz
    · have FIN : Hid (progB P = false) := Lib.hid (by rw [HP.out, hfe]; rfl)
      clear cE hfe hz
      go_enter Tryz.func26, Tryz.ntmps26
      go_wp2_with (first | (go_at_call 36; refine (cS _).mono ?_; rintro e w1 ⟨rfl, hb1⟩) | (go_at_call 37; refine (cZ _ (QP.below _ _ _ _ _ hb1 HH.out.qp)).mono ?_; rintro e w2 ⟨rfl, rfl⟩))
      go_ret
      exact ⟨ret_b FIN.out.symm, fun h => by rw [FIN.out] at h; (cases h), hb1.mono (Nat.le_of_lt hlt)⟩
    · have hszs : P.vars.length ≤ 4 ∧ P.news.length ≤ 2 := by
        simp only [Bool.and_eq_true, szB, decide_eq_true_eq] at hz
        exact ⟨hz.1.1, hz.2.1⟩
      have cT := fun w h => haveStmts_any pb P hszs.1 hszs.2 w h
      generalize (decide (P.sts.length ≤ 40) && P.sts.all (isStmtB P)) = bt at cT hfe
      cases be
      · have FIN : Hid (progB P = false) := Lib.hid (by rw [HP.out, hfe]; rfl)
        clear cT hfe hz hszs
        go_enter Tryz.func26, Tryz.ntmps26
        go_wp2_with (first | (go_at_call 36; refine (cS _).mono ?_; rintro e w1 ⟨rfl, hb1⟩) | (go_at_call 37; refine (cZ _ (QP.below _ _ _ _ _ hb1 HH.out.qp)).mono ?_; rintro e w2 ⟨rfl, rfl⟩) | (go_at_call 38; refine (cE _ (QP.below _ _ _ _ _ hb1 HH.out.qp)).mono ?_; rintro e w3 ⟨rfl, hb3⟩))
        go_ret
        exact ⟨ret_b FIN.out.symm, fun h => by rw [FIN.out] at h; (cases h), (hb1.trans (hb3.mono hb1.size)).mono (Nat.le_of_lt hlt)⟩
      · cases bt
        · have FIN : Hid (progB P = false) := Lib.hid (by rw [HP.out, hfe]; rfl)
          clear hfe hz hszs
          go_enter Tryz.func26, Tryz.ntmps26
          go_wp2_with (first | (go_at_call 36; refine (cS _).mono ?_; rintro e w1 ⟨rfl, hb1⟩) | (go_at_call 37; refine (cZ _ (QP.below _ _ _ _ _ hb1 HH.out.qp)).mono ?_; rintro e w2 ⟨rfl, rfl⟩) | (go_at_call 38; refine (cE _ (QP.below _ _ _ _ _ hb1 HH.out.qp)).mono ?_; rintro e w3 ⟨rfl, hb3⟩) | (go_at_call 39; refine (cT _ (QP.below _ _ _ _ _ hb3 (QP.below _ _ _ _ _ hb1 HH.out.qp))).mono ?_; rintro e w4 ⟨rfl, hb4⟩))
          go_ret
          exact ⟨ret_b FIN.out.symm, fun h => by rw [FIN.out] at h; (cases h), ((hb1.trans (hb3.mono hb1.size)).trans (hb4.mono (Nat.le_trans hb1.size hb3.size))).mono (Nat.le_of_lt hlt)⟩
        · have hF : formB P = true := by rw [hfe]; rfl
          have FIN : Hid (progB P = (goA P).isSome) := Lib.hid (by rw [HP.out, hF]; rfl)
          have cD := fun w h => stand_any w0 pb P v1 v2 v3 v4 v5 hF w h
          unfold StandP at cD
          clear hfe hz hszs hF
          go_enter Tryz.func26, Tryz.ntmps26
          go_wp2_with (first | (go_at_call 36; refine (cS _).mono ?_; rintro e w1 ⟨rfl, hb1⟩) | (go_at_call 37; refine (cZ _ (QP.below _ _ _ _ _ hb1 HH.out.qp)).mono ?_; rintro e w2 ⟨rfl, rfl⟩) | (go_at_call 38; refine (cE _ (QP.below _ _ _ _ _ hb1 HH.out.qp)).mono ?_; rintro e w3 ⟨rfl, hb3⟩) | (go_at_call 39; refine (cT _ (QP.below _ _ _ _ _ hb3 (QP.below _ _ _ _ _ hb1 HH.out.qp))).mono ?_; rintro e w4 ⟨rfl, hb4⟩; have hb14 := (hb1.trans (hb3.mono hb1.size)).trans (hb4.mono (Nat.le_trans hb1.size hb3.size))) | (go_at_call 40; refine (cD _ (HH.out.bel hb14)).mono ?_; rintro e w5 ⟨rfl, hd5, hb5⟩))
          go_ret
          exact ⟨ret_b FIN.out.symm, fun _ => hd5, (hb14.mono (Nat.le_of_lt hlt)).trans hb5⟩
  · have cS := fun w => Size_no P.big P.ptr 7 (fun h => hp h.1) w
    have hp2 : ((P.ptr == 2) || (P.ptr == 4)) = false := by
      cases h : ((P.ptr == 2) || (P.ptr == 4))
      · rfl
      · simp at h; exact absurd h hp
    have FIN : Hid (progB P = false) := Lib.hid (by rw [HP.out, hfe, hp2]; rfl)
    clear hfe hp2 hp
    go_enter Tryz.func26, Tryz.ntmps26
    go_wp2_with (go_at_call 36; refine (cS _).mono ?_; rintro e w1 ⟨rfl, hb1⟩)
    go_ret
    exact ⟨ret_b FIN.out.symm, fun h => by rw [FIN.out] at h; (cases h), hb1.mono (Nat.le_of_lt hlt)⟩
theorem pgBox (P : PX) (v1 v2 v3 v4 v5 : Value) (w : World) : At (w.alloc (.cells #[.bool P.big, .int .i64 P.ptr, v1, v2, v3, v4, v5] 33)) w.heap.size #[.bool P.big, .int .i64 P.ptr, v1, v2, v3, v4, v5] 33 := At.new _ _ _
def CheckP (P : PX) (w : World) (e : Ending) (w' : World) : Prop := ∃ k : Int, e = .returned (.int .i64 k) ∧ k = (if progB P then 0 else 1) ∧ Below w.heap.size w w'
set_option maxHeartbeats 1600000 in
theorem Check_prog (P : PX) (v1 v2 v3 v4 v5 : Value) (w : World) (h : IsPr w v1 v2 v3 v4 v5 P) : Calls Tryz.prog 15 #[.agg #[.bool P.big, .int .i64 P.ptr, v1, v2, v3, v4, v5]] w (CheckP P w) := by
  have hb0 := below_box1 w (.cells #[.bool P.big, .int .i64 P.ptr, v1, v2, v3, v4, v5] 33)
  have hA := pgBox P v1 v2 v3 v4 v5 w
  obtain ⟨w1, hw1⟩ : ∃ w1, w.alloc (.cells #[.bool P.big, .int .i64 P.ptr, v1, v2, v3, v4, v5] 33) = w1 := ⟨_, rfl⟩
  rw [hw1] at hb0 hA
  have h1 := h.below hb0
  have cT := take_any P v1 v2 v3 v4 v5 w1 h1
  unfold TakeP at cT
  have cM := fun w0 pb w h => mayBe_any w0 pb P v1 v2 v3 v4 v5 w h
  unfold MayP at cM
  obtain ⟨q1, k1, rfl, _⟩ := id h.1
  obtain ⟨q2, k2, rfl, _⟩ := id h.2.1
  obtain ⟨q3, k3, rfl, _⟩ := id h.2.2.1
  obtain ⟨q4, k4, rfl, _⟩ := id h.2.2.2.1
  obtain ⟨q5, k5, rfl, _⟩ := id h.2.2.2.2
  have a0 : w1.cell? ⟨w.heap.size, 0, none⟩ = some (.bool P.big) := hA.cell 0 rfl
  have a1 : w1.cell? ⟨w.heap.size, 1, none⟩ = some (.int .i64 P.ptr) := hA.cell 1 rfl
  have a2 : w1.cell? ⟨w.heap.size, 2, none⟩ = some (.slice q1 P.vars.length k1) := hA.cell 2 rfl
  have a3 : w1.cell? ⟨w.heap.size, 3, none⟩ = some (.slice q2 P.news.length k2) := hA.cell 3 rfl
  have a4 : w1.cell? ⟨w.heap.size, 4, none⟩ = some (.slice q3 P.exs.length k3) := hA.cell 4 rfl
  have a5 : w1.cell? ⟨w.heap.size, 5, none⟩ = some (.slice q4 P.sts.length k4) := hA.cell 5 rfl
  have a6 : w1.cell? ⟨w.heap.size, 6, none⟩ = some (.slice q5 P.main.length k5) := hA.cell 6 rfl
  have HB0 := Lib.hid hb0
  obtain ⟨b, hb⟩ : ∃ b, b = progB P := ⟨_, rfl⟩
  have HBP := Lib.hid hb
  rw [← hb] at cM
  clear h h1 hb0 hA hb
  cases b
  all_goals
    go_enter Tryz.func15, Tryz.ntmps15
    go_wp2_with (first | (go_at_call 25; refine cT.mono ?_; rintro e w2 ⟨w0, pb, rfl, n2, z2, y2⟩) | (go_at_call 26; refine (cM w0 pb _ n2).mono ?_; rintro e w3 ⟨rfl, d3, b3⟩))
    go_ret
    exact ⟨_, rfl, (by rw [← HBP.out]; rfl), HB0.out.trans ((y2.trans (b3.mono (by rw [n2.hpb.symm]; exact z2.size))).mono HB0.out.size)⟩

def InnerP (P : PX) (w : World) (e : Ending) (w' : World) : Prop :=
  ∃ (v : Value) (k : Int), e = .returned (.tuple #[v, .int .i64 k]) ∧ Below w.heap.size w w' ∧ (progB P = false → v = .slice none 0 0 ∧ k = 1) ∧ (progB P = true → k = 0 ∧ IsIs w' v (innerL P) ∧ (innerL P).length = P.sts.length)
set_option maxHeartbeats 1600000 in
theorem Inner_prog (P : PX) (v1 v2 v3 v4 v5 : Value) (w : World) (h : IsPr w v1 v2 v3 v4 v5 P) : Calls Tryz.prog 7 #[.agg #[.bool P.big, .int .i64 P.ptr, v1, v2, v3, v4, v5]] w (InnerP P w) := by
  have hb0 := below_box1 w (.cells #[.bool P.big, .int .i64 P.ptr, v1, v2, v3, v4, v5] 33)
  have hA := pgBox P v1 v2 v3 v4 v5 w
  obtain ⟨w1, hw1⟩ : ∃ w1, w.alloc (.cells #[.bool P.big, .int .i64 P.ptr, v1, v2, v3, v4, v5] 33) = w1 := ⟨_, rfl⟩
  rw [hw1] at hb0 hA
  have h1 := h.below hb0
  have cT := take_any P v1 v2 v3 v4 v5 w1 h1
  unfold TakeP at cT
  have cM := fun w0 pb w h => mayBe_any w0 pb P v1 v2 v3 v4 v5 w h
  unfold MayP at cM
  obtain ⟨q1, k1, rfl, _⟩ := id h.1
  obtain ⟨q2, k2, rfl, _⟩ := id h.2.1
  obtain ⟨q3, k3, rfl, _⟩ := id h.2.2.1
  obtain ⟨q4, k4, rfl, _⟩ := id h.2.2.2.1
  obtain ⟨q5, k5, rfl, _⟩ := id h.2.2.2.2
  have a0 : w1.cell? ⟨w.heap.size, 0, none⟩ = some (.bool P.big) := hA.cell 0 rfl
  have a1 : w1.cell? ⟨w.heap.size, 1, none⟩ = some (.int .i64 P.ptr) := hA.cell 1 rfl
  have a2 : w1.cell? ⟨w.heap.size, 2, none⟩ = some (.slice q1 P.vars.length k1) := hA.cell 2 rfl
  have a3 : w1.cell? ⟨w.heap.size, 3, none⟩ = some (.slice q2 P.news.length k2) := hA.cell 3 rfl
  have a4 : w1.cell? ⟨w.heap.size, 4, none⟩ = some (.slice q3 P.exs.length k3) := hA.cell 4 rfl
  have a5 : w1.cell? ⟨w.heap.size, 5, none⟩ = some (.slice q4 P.sts.length k4) := hA.cell 5 rfl
  have a6 : w1.cell? ⟨w.heap.size, 6, none⟩ = some (.slice q5 P.main.length k5) := hA.cell 6 rfl
  have HB0 := Lib.hid hb0
  obtain ⟨b, hb⟩ : ∃ b, b = progB P := ⟨_, rfl⟩
  have HBP := Lib.hid hb
  rw [← hb] at cM
  clear h h1 hb0 hA hb
  cases b
  · go_enter Tryz.func7, Tryz.ntmps7
    go_wp2_with (first | (go_at_call 25; refine cT.mono ?_; rintro e w2 ⟨w0, pb, rfl, n2, z2, y2⟩) | (go_at_call 26; refine (cM w0 pb _ n2).mono ?_; rintro e w3 ⟨rfl, d3, b3⟩))
    go_ret2
    exact ⟨_, _, rfl, HB0.out.trans ((y2.trans (b3.mono (by rw [n2.hpb.symm]; exact z2.size))).mono HB0.out.size), fun _ => ⟨rfl, rfl⟩, fun h => by rw [← HBP.out] at h; (cases h)⟩
  · have hG : (goA P).isSome = true := by
      have := HBP.out
      unfold progB at this
      cases hg : (goA P).isSome
      · rw [hg, Bool.and_false] at this; cases this
      · rfl
    have cD := fun w0 pb w h => depths_any w0 pb P (.slice q1 P.vars.length k1) (.slice q2 P.news.length k2) (.slice q3 P.exs.length k3) (.slice q4 P.sts.length k4) (.slice q5 P.main.length k5) hG w h
    clear hG
    go_enter Tryz.func7, Tryz.ntmps7
    go_wp2_with (first | (go_at_call 25; refine cT.mono ?_; rintro e w2 ⟨w0, pb, rfl, n2, z2, y2⟩) | (go_at_call 26; refine (cM w0 pb _ n2).mono ?_; rintro e w3 ⟨rfl, d3, b3⟩) | (go_at_call 27; refine (cD w0 pb _ (d3 (by first | rfl | trivial))).mono ?_; rintro e w4 ⟨v, rfl, i4, l4, rfl⟩))
    go_ret2
    exact ⟨_, _, rfl, HB0.out.trans ((y2.trans (b3.mono (by rw [n2.hpb.symm]; exact z2.size))).mono HB0.out.size), (fun h => by rw [← HBP.out] at h; (cases h)), fun _ => ⟨rfl, i4, l4⟩⟩

end Go.Proofs.YtncdbjflfhfddaaGreat
