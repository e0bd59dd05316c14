/- Package prog: whether an expression may stand at its place. -/
import Derived.Test.YtncdbjflfhfddaaGreatGE
import Derived.Deep.Cut
import Derived.Deep.CutRange
namespace Go.Proofs.YtncdbjflfhfddaaGreat
open Go.ChangeShapes Go.WideShapes Go.ChangeAt Go.RowKit Go.Joins Go.Deep
set_option linter.unusedVariables false
set_option linter.unusedSimpArgs false


set_option maxHeartbeats 3200000 in
theorem isExpr_any (pb : Nat) (P : PX) (op k n xa xb i : Int) (hi : i ≤ P.exs.length) (w : World) (h : QP w pb 0 P) : Calls Tryz.prog 57 #[.pointer (some ⟨pb, 0, none⟩), .agg #[.int .i64 op, .int .i64 k, .int .i64 n, .int .i64 xa, .int .i64 xb], .int .i64 i] w fun e w' => e = .returned (.bool (isExprB P ⟨op, k, n, xa, xb⟩ i)) ∧ Below w.heap.size w w' := by
  have c2 := fun w => gTwo_any op w
  have c1 := fun w => gOne_any op w
  have hb0 := below_box1 w (.cells #[.int .i64 op, .int .i64 k, .int .i64 n, .int .i64 xa, .int .i64 xb] 50)
  have hA := At.new w #[.int .i64 op, .int .i64 k, .int .i64 n, .int .i64 xa, .int .i64 xb] 50
  obtain ⟨w1, hw1⟩ : ∃ w1, w.alloc (.cells #[.int .i64 op, .int .i64 k, .int .i64 n, .int .i64 xa, .int .i64 xb] 50) = w1 := ⟨_, rfl⟩
  rw [hw1] at hb0 hA
  have hP := QP.below _ _ _ _ _ hb0 h
  have kA := fun p : BelowBy w1 => gKind_any pb P xa i hi p.world (QP.below _ _ _ _ _ p.below hP)
  have kB := fun p : BelowBy w1 => gKind_any pb P xb i hi p.world (QP.below _ _ _ _ _ p.below hP)
  have fT := fun w => fitsTwo_any op k n xa xb (kindI P xa i) (kindI P xb i) w
  have fO := fun w => fitsOne_any op k n xa xb (kindI P xa i) w
  have fN := fitsNone_any pb P op k n xa xb w1 hP
  have e0 : isExprB P ⟨op, k, n, xa, xb⟩ i = (if hasTwoB op then (n == 0) && fitsTwoB ⟨op, k, n, xa, xb⟩ (kindI P xa i) (kindI P xb i) else if hasOneB op then (n == 0) && (xb == 0) && fitsOneB ⟨op, k, n, xa, xb⟩ (kindI P xa i) else if xa ≠ 0 ∨ xb ≠ 0 then false else fitsNoneB P ⟨op, k, n, xa, xb⟩) := rfl
  rw [e0]
  generalize fitsTwoB ⟨op, k, n, xa, xb⟩ (kindI P xa i) (kindI P xb i) = vT at *
  generalize fitsOneB ⟨op, k, n, xa, xb⟩ (kindI P xa i) = vO at *
  generalize fitsNoneB P ⟨op, k, n, xa, xb⟩ = vN at *
  generalize kindI P xa i = ka at *
  generalize kindI P xb i = kb at *
  have a0 : w1.cell? ⟨w.heap.size, 0, none⟩ = some (.int .i64 op) := hA.cell 0 rfl
  have a1 : w1.cell? ⟨w.heap.size, 1, none⟩ = some (.int .i64 k) := hA.cell 1 rfl
  have a2 : w1.cell? ⟨w.heap.size, 2, none⟩ = some (.int .i64 n) := hA.cell 2 rfl
  have a3 : w1.cell? ⟨w.heap.size, 3, none⟩ = some (.int .i64 xa) := hA.cell 3 rfl
  have a4 : w1.cell? ⟨w.heap.size, 4, none⟩ = some (.int .i64 xb) := hA.cell 4 rfl
  have p0 := fun p : BelowBy w1 => p.cell a0
  have p1 := fun p : BelowBy w1 => p.cell a1
  have p2 := fun p : BelowBy w1 => p.cell a2
  have p3 := fun p : BelowBy w1 => p.cell a3
  have p4 := fun p : BelowBy w1 => p.cell a4
  clear e0 h hP hi
  cases h2 : hasTwoB op
  · rw [h2] at c2
    cases h3 : hasOneB op
    · rw [h3] at c1
      by_cases ha : xa = 0
      · subst ha
        by_cases hb : xb = 0
        · subst hb
          go_enter Tryz.func57, Tryz.ntmps57
          go_upto_region 1 with (fail)
          clear hw1
          go_wp2_with (first | (go_at_call 64; refine (c2 _).mono ?_; rintro e w' ⟨rfl, rfl⟩) | (go_at_call 67; refine (c1 _).mono ?_; rintro e w' ⟨rfl, rfl⟩) | (go_at_call 69; refine fN.mono ?_; rintro e w' ⟨rfl, hbn⟩))
          go_ret
          exact ⟨ret_b (by simp [*]), hb0.trans (hbn.mono hb0.size)⟩
        · have hbb : (xb != 0) = true := bne_iff_ne.2 hb
          go_enter Tryz.func57, Tryz.ntmps57
          go_upto_region 1 with (fail)
          clear hw1
          go_wp2_with (first | (go_at_call 64; refine (c2 _).mono ?_; rintro e w' ⟨rfl, rfl⟩) | (go_at_call 67; refine (c1 _).mono ?_; rintro e w' ⟨rfl, rfl⟩) | (go_at_call 69; refine fN.mono ?_; rintro e w' ⟨rfl, hbn⟩))
          go_ret
          exact ⟨ret_b (by simp [*]), hb0⟩
      · have hab : (xa != 0) = true := bne_iff_ne.2 ha
        go_enter Tryz.func57, Tryz.ntmps57
        go_upto_region 1 with (fail)
        clear hw1
        go_wp2_with (first | (go_at_call 64; refine (c2 _).mono ?_; rintro e w' ⟨rfl, rfl⟩) | (go_at_call 67; refine (c1 _).mono ?_; rintro e w' ⟨rfl, rfl⟩) | (go_at_call 69; refine fN.mono ?_; rintro e w' ⟨rfl, hbn⟩))
        go_ret
        exact ⟨ret_b (by simp [*]), hb0⟩
    · rw [h3] at c1
      by_cases h1 : n = 0
      · subst h1
        by_cases h2 : xb = 0
        · subst h2
          go_enter Tryz.func57, Tryz.ntmps57
          go_upto_region 1 with (fail)
          clear hw1
          go_wp2_with (first | (go_at_call 64; refine (c2 _).mono ?_; rintro e w' ⟨rfl, rfl⟩) | (go_at_call 67; refine (c1 _).mono ?_; rintro e w' ⟨rfl, rfl⟩) | (go_at_call 69; refine fN.mono ?_; rintro e w' ⟨rfl, hbn⟩))
          refine wp_region_quiet_below (by kernel_rfl) (by kernel_rfl) ?_
          repeat (go_big_quiet_step (first | (go_at_call 66; (first | (with_reducible exact Calls.below_same (kA _)) | (with_reducible exact Calls.below_same (kB _)))) | (go_at_call 65; (with_reducible exact Calls.below_of (fT _))) | (go_at_call 68; (with_reducible exact Calls.below_of (fO _)))))
          refine wpQuiet_nil ?_
          intro _ hw'
          obtain ⟨⟨w2, hb2⟩, hw''⟩ := hw'
          subst hw''
          go_wp2
          go_ret
          exact ⟨ret_b (by simp [*]), hb0.trans (hb2.mono hb0.size)⟩
        · have h2b : (xb == 0) = false := beq_eq_false_iff_ne.2 h2
          go_enter Tryz.func57, Tryz.ntmps57
          go_upto_region 1 with (fail)
          clear hw1
          go_wp2_with (first | (go_at_call 64; refine (c2 _).mono ?_; rintro e w' ⟨rfl, rfl⟩) | (go_at_call 67; refine (c1 _).mono ?_; rintro e w' ⟨rfl, rfl⟩) | (go_at_call 69; refine fN.mono ?_; rintro e w' ⟨rfl, hbn⟩))
          refine wp_region_quiet_below (by kernel_rfl) (by kernel_rfl) ?_
          repeat (go_big_quiet_step (first | (go_at_call 66; (first | (with_reducible exact Calls.below_same (kA _)) | (with_reducible exact Calls.below_same (kB _)))) | (go_at_call 65; (with_reducible exact Calls.below_of (fT _))) | (go_at_call 68; (with_reducible exact Calls.below_of (fO _)))))
          refine wpQuiet_nil ?_
          intro _ hw'
          obtain ⟨⟨w2, hb2⟩, hw''⟩ := hw'
          subst hw''
          go_wp2
          go_ret
          exact ⟨ret_b (by simp [*]), hb0.trans (hb2.mono hb0.size)⟩
      · have h1b : (n == 0) = false := beq_eq_false_iff_ne.2 h1
        go_enter Tryz.func57, Tryz.ntmps57
        go_upto_region 1 with (fail)
        clear hw1
        go_wp2_with (first | (go_at_call 64; refine (c2 _).mono ?_; rintro e w' ⟨rfl, rfl⟩) | (go_at_call 67; refine (c1 _).mono ?_; rintro e w' ⟨rfl, rfl⟩) | (go_at_call 69; refine fN.mono ?_; rintro e w' ⟨rfl, hbn⟩))
        refine wp_region_quiet_below (by kernel_rfl) (by kernel_rfl) ?_
        repeat (go_big_quiet_step (first | (go_at_call 66; (first | (with_reducible exact Calls.below_same (kA _)) | (with_reducible exact Calls.below_same (kB _)))) | (go_at_call 65; (with_reducible exact Calls.below_of (fT _))) | (go_at_call 68; (with_reducible exact Calls.below_of (fO _)))))
        refine wpQuiet_nil ?_
        intro _ hw'
        obtain ⟨⟨w2, hb2⟩, hw''⟩ := hw'
        subst hw''
        go_wp2
        go_ret
        exact ⟨ret_b (by simp [*]), hb0.trans (hb2.mono hb0.size)⟩
  · rw [h2] at c2
    by_cases h3 : n = 0
    · subst h3
      go_enter Tryz.func57, Tryz.ntmps57
      go_upto_region 1 with (fail)
      clear hw1
      go_wp2_with (first | (go_at_call 64; refine (c2 _).mono ?_; rintro e w' ⟨rfl, rfl⟩) | (go_at_call 67; refine (c1 _).mono ?_; rintro e w' ⟨rfl, rfl⟩) | (go_at_call 69; refine fN.mono ?_; rintro e w' ⟨rfl, hbn⟩))
      refine wp_region_quiet_below (by kernel_rfl) (by kernel_rfl) ?_
      repeat (go_big_quiet_step (first | (go_at_call 66; (first | (with_reducible exact Calls.below_same (kA _)) | (with_reducible exact Calls.below_same (kB _)))) | (go_at_call 65; (with_reducible exact Calls.below_of (fT _))) | (go_at_call 68; (with_reducible exact Calls.below_of (fO _)))))
      refine wpQuiet_nil ?_
      intro _ hw'
      obtain ⟨⟨w2, hb2⟩, hw''⟩ := hw'
      subst hw''
      go_wp2
      go_ret
      exact ⟨ret_b (by simp [*]), hb0.trans (hb2.mono hb0.size)⟩
    · have h3b : (n == 0) = false := beq_eq_false_iff_ne.2 h3
      go_enter Tryz.func57, Tryz.ntmps57
      go_upto_region 1 with (fail)
      clear hw1
      go_wp2_with (first | (go_at_call 64; refine (c2 _).mono ?_; rintro e w' ⟨rfl, rfl⟩) | (go_at_call 67; refine (c1 _).mono ?_; rintro e w' ⟨rfl, rfl⟩) | (go_at_call 69; refine fN.mono ?_; rintro e w' ⟨rfl, hbn⟩))
      refine wp_region_quiet_below (by kernel_rfl) (by kernel_rfl) ?_
      repeat (go_big_quiet_step (first | (go_at_call 66; (first | (with_reducible exact Calls.below_same (kA _)) | (with_reducible exact Calls.below_same (kB _)))) | (go_at_call 65; (with_reducible exact Calls.below_of (fT _))) | (go_at_call 68; (with_reducible exact Calls.below_of (fO _)))))
      refine wpQuiet_nil ?_
      intro _ hw'
      obtain ⟨⟨w2, hb2⟩, hw''⟩ := hw'
      subst hw''
      go_wp2
      go_ret
      exact ⟨ret_b (by simp [*]), hb0.trans (hb2.mono hb0.size)⟩
end Go.Proofs.YtncdbjflfhfddaaGreat
