/- Package bytes: a number's byte, a pointer's part, a byte's weight; which bytes may be. -/
import Derived.Test.YtnhbaigagphpmaaBByte
import Derived.Test.YtnhbaigagphpmaaVQuiet
namespace Go.Proofs.Ytnhbaigagphpmaa
open Go.ChangeShapes Go.WideShapes Go.ChangeAt Go.RowKit Go.Joins Go.Deep
set_option linter.unusedVariables false

/-- the byte of a number at so many bits up -/
theorem digit_any (n : Int) (up : Nat) (hu : up = 0 ∨ up = 8 ∨ up = 16 ∨ up = 24) (w : World) : Calls Try.prog 64 #[.int .i64 n, .int .i64 (up : Nat)] w fun e w' => e = .returned (byV (digY (digI n up))) ∧ Below w.heap.size w w' := by
  have ha := and_255
  rcases hu with rfl | rfl | rfl | rfl
  · go_enter Try.func64, Try.ntmps64
    go_wp2
    exact bodyPost_ret (v := byV (digY (n % 256))) (by simp [results, Try.results64, go_sem, byV, digY]) rfl ⟨by simp [digI], below_box1 _ _⟩
  · go_enter Try.func64, Try.ntmps64
    go_wp2
    exact bodyPost_ret (v := byV (digY (n / 256 % 256))) (by simp [results, Try.results64, go_sem, byV, digY]) rfl ⟨by simp [digI], below_box1 _ _⟩
  · go_enter Try.func64, Try.ntmps64
    go_wp2
    exact bodyPost_ret (v := byV (digY (n / 65536 % 256))) (by simp [results, Try.results64, go_sem, byV, digY]) rfl ⟨by simp [digI], below_box1 _ _⟩
  · go_enter Try.func64, Try.ntmps64
    go_wp2
    exact bodyPost_ret (v := byV (digY (n / 16777216 % 256))) (by simp [results, Try.results64, go_sem, byV, digY]) rfl ⟨by simp [digI], below_box1 _ _⟩
theorem below_box2 (w : World) (o o' : Obj) : Below w.heap.size w ((w.alloc o).alloc o') := (below_box1 w o).alloc (by simp) _
theorem part_any (p : Bool) (n b o i : Int) (w : World) : Calls Try.prog 63 #[.agg #[.bool p, .int .i64 n, .int .i64 b, .int .i64 o], .int .i64 i] w fun e w' => e = .returned (byV (parY b o i)) ∧ Below w.heap.size w w' := by
  go_enter Try.func63, Try.ntmps63
  go_wp2
  exact bodyPost_ret (v := byV (parY b o i)) (by simp [results, Try.results63, go_sem, byV, parY]) rfl ⟨rfl, by first | exact below_box2 _ _ _ | (refine Below.setCell (below_box2 _ _ _) ?_ _; simp)⟩
theorem weight_any (big : Bool) (p : Int) (n i : Nat) (hn : n = 1 ∨ n = 2 ∨ n = 4) (hi : i < n) (w : World) : Calls Try.prog 61 #[.agg #[.bool big, .int .i64 p], .int .i64 (n : Nat), .int .i64 (i : Nat)] w fun e w' => e = .returned (.int .i64 (wtN big n i : Nat)) ∧ Below w.heap.size w w' := by
  have hi' : i = 0 ∨ i = 1 ∨ i = 2 ∨ i = 3 := by omega
  cases big
  · have hr : ((wtN false n i : Nat) : Int) = 8 * i := by simp [wtN]
    rw [hr]
    clear hr
    rcases hi' with rfl | rfl | rfl | rfl
    all_goals
      go_enter Try.func61, Try.ntmps61
      go_wp2
      go_ret
      exact ⟨rfl, below_box1 _ _⟩
  · rcases hn with rfl | rfl | rfl
    all_goals
      rcases hi' with rfl | rfl | rfl | rfl
      all_goals first
        | exact absurd hi (by decide)
        | (go_enter Try.func61, Try.ntmps61
           go_wp2
           go_ret
           exact ⟨rfl, below_box1 _ _⟩)
theorem wtN_cases (big : Bool) (n i : Nat) (hn : n = 1 ∨ n = 2 ∨ n = 4) (hi : i < n) : wtN big n i = 0 ∨ wtN big n i = 8 ∨ wtN big n i = 16 ∨ wtN big n i = 24 := by
  unfold wtN; cases big <;> simp <;> omega

theorem mayY_0 (n b o i : Int) : mayY ⟨0, n, b, o, i⟩ = eqY ⟨0, n, b, o, i⟩ noY := rfl
theorem mayY_1 (n b o i : Int) : mayY ⟨1, n, b, o, i⟩ = (upTo n 0 255 && (b == 0) && (o == 0) && (i == 0)) := rfl
theorem mayY_2 (n b o i : Int) : mayY ⟨2, n, b, o, i⟩ = ((n == 0) && upTo b 1 32 && upTo o 0 32 && upTo i 0 3) := rfl
theorem mayY_1' (n b o i : Int) : mayY ⟨1, n, b, o, i⟩ = eqY ⟨1, n, b, o, i⟩ (digY (digI n 0)) := by
  rw [mayY_1, Bool.eq_iff_iff]
  simp only [eqY, digY, upTo, digI, Bool.and_eq_true, beq_iff_eq, decide_eq_true_eq, Int.pow_zero, Int.ediv_one]
  constructor
  · rintro ⟨⟨⟨h1, h2⟩, h3⟩, h4⟩; exact ⟨⟨⟨⟨trivial, by omega⟩, h2⟩, h3⟩, h4⟩
  · rintro ⟨⟨⟨⟨_, h1⟩, h2⟩, h3⟩, h4⟩; exact ⟨⟨⟨⟨by omega, by omega⟩, h2⟩, h3⟩, h4⟩
theorem mayY_no (s n b o i : Int) (h : s ≠ 0 ∧ s ≠ 1 ∧ s ≠ 2) : mayY ⟨s, n, b, o, i⟩ = false := by simp [mayY, h.1, h.2.1, h.2.2]

theorem isByte_any (x : BY) (w : World) : Calls Try.prog 55 #[byV x] w fun e w' => e = .returned (.bool (mayY x)) ∧ Below w.heap.size w w' := by
  obtain ⟨s, n, b, o, i⟩ := x
  show Calls Try.prog 55 #[.agg #[.int .i64 s, .int .i64 n, .int .i64 b, .int .i64 o, .int .i64 i]] w _
  by_cases h0 : s = 0
  · subst h0
    rw [mayY_0]
    have cE := fun w => eql_by' 0 n b o i 0 0 0 0 0 w
    unfold noY
    generalize eqY ⟨0, n, b, o, i⟩ ⟨0, 0, 0, 0, 0⟩ = q at *
    go_enter Try.func55, Try.ntmps55
    go_wp2
    go_ret
    exact ⟨rfl, below_box1 _ _⟩
  by_cases h1 : s = 1
  · subst h1
    rw [mayY_1']
    have cE := fun w => eql_by' 1 n b o i 1 (digI n 0) 0 0 0 w
    have cD := fun w => digit_any n 0 (Or.inl rfl) w
    unfold digY at *
    generalize eqY ⟨1, n, b, o, i⟩ ⟨1, digI n 0, 0, 0, 0⟩ = q at *
    generalize digI n 0 = m at *
    unfold byV at cD
    dsimp only at cD
    have d0 := At.new w #[.int .i64 1, .int .i64 n, .int .i64 b, .int .i64 o, .int .i64 i] 67
    have hb0 := below_box1 w (.cells #[.int .i64 1, .int .i64 n, .int .i64 b, .int .i64 o, .int .i64 i] 67)
    go_enter Try.func55, Try.ntmps55
    go_wp2
    generalize (w.alloc (.cells #[.int .i64 1, .int .i64 n, .int .i64 b, .int .i64 o, .int .i64 i] 67)) = w1 at *
    have q0 := fun p : BelowBy w1 => p.cell (d0.cell 0 rfl)
    have q1 := fun p : BelowBy w1 => p.cell (d0.cell 1 rfl)
    have q2 := fun p : BelowBy w1 => p.cell (d0.cell 2 rfl)
    have q3 := fun p : BelowBy w1 => p.cell (d0.cell 3 rfl)
    have q4 := fun p : BelowBy w1 => p.cell (d0.cell 4 rfl)
    clear d0 h0
    refine wp_region_quiet_below (by kernel_rfl) (by kernel_rfl) ?_
    repeat (go_big_quiet_step ((go_at_call 64; (with_reducible exact Calls.below_of (cD _)))))
    refine wpQuiet_nil ?_
    intro _ hw'
    obtain ⟨⟨w2, hb2⟩, hw''⟩ := hw'
    subst hw''
    go_wp2_with fail
    go_ret
    exact ⟨rfl, hb0.trans (hb2.mono hb0.size)⟩
  by_cases h2 : s = 2
  · subst h2
    rw [mayY_2]
    have cP := fun w => isPlace_any b o w
    have cI := fun w => isUpTo_any i 0 3 w
    have hr : ((n == 0) && upTo b 1 32 && upTo o 0 32 && upTo i 0 3) = ((n == 0) && placeB b o && upTo i 0 3) := by simp [placeB, Bool.and_assoc]
    rw [hr]
    clear hr h0 h1
    by_cases hn : n = 0
    · subst hn
      generalize upTo i 0 3 = q2 at *
      cases hq : placeB b o
      all_goals
        rw [hq] at cP
        clear hq
        go_enter Try.func55, Try.ntmps55
        go_wp2_with (first | (go_at_call 72; (with_reducible refine (cP _).mono ?_); rintro e w' ⟨rfl, rfl⟩) | (go_at_call 73; (with_reducible refine (cI _).mono ?_); rintro e w' ⟨rfl, rfl⟩))
        go_ret
        exact ⟨rfl, below_box1 _ _⟩
    · have h4 : (n == 0) = false := by simpa using hn
      go_enter Try.func55, Try.ntmps55
      go_wp2
      go_ret
      exact ⟨ret_b (by simp [h4]), below_box1 _ _⟩
  rw [mayY_no s n b o i ⟨h0, h1, h2⟩]
  have e0 : (s == 0) = false := by simpa using h0
  have e1 : (s == 1) = false := by simpa using h1
  have e2 : (s == 2) = false := by simpa using h2
  clear h0 h1 h2
  go_enter Try.func55, Try.ntmps55
  go_wp2
  go_ret
  exact ⟨rfl, below_box1 _ _⟩
theorem Byte_any (x : BY) (w : World) : Calls Try.prog 103 #[byV x] w fun e w' => e = .returned (.int .i64 (if mayY x then 0 else 1)) ∧ Below w.heap.size w w' := by
  have cP := fun w => isByte_any x w
  cases hm : mayY x
  all_goals
    rw [hm] at cP
    obtain ⟨s, n, b, o, i⟩ := x
    show Calls Try.prog 103 #[.agg #[.int .i64 s, .int .i64 n, .int .i64 b, .int .i64 o, .int .i64 i]] w _
    unfold byV at cP
    dsimp only at cP
    clear hm
    go_enter Try.func103, Try.ntmps103
    go_wp2_with (first | (go_at_call 55; refine (cP _).mono ?_; rintro e w' ⟨rfl, hb⟩))
    go_ret
    exact ⟨rfl, (below_box1 _ _).trans (hb.mono (by simp))⟩
end Go.Proofs.Ytnhbaigagphpmaa
