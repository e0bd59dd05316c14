/- Package prog: what an expression may be made of. -/
import Derived.Test.YtncdbjflfhfddaaGreatGQ
namespace Go.Proofs.YtncdbjflfhfddaaGreat
open Go.ChangeShapes Go.WideShapes Go.ChangeAt Go.RowKit Go.Joins Go.Deep
set_option linter.unusedVariables false
set_option linter.unusedSimpArgs false


set_option maxHeartbeats 1600000 in
theorem fitsTwo_any (op k n xa xb a b : Int) (w : World) : Calls Tryz.prog 65 #[.agg #[.int .i64 op, .int .i64 k, .int .i64 n, .int .i64 xa, .int .i64 xb], .int .i64 a, .int .i64 b] w fun e w' => e = .returned (.bool (fitsTwoB ⟨op, k, n, xa, xb⟩ a b)) ∧ Below w.heap.size w w' := by
  have cA := fun w => gNums_any a w
  have cK := fun w => gNums_any k w
  by_cases o18 : op = 18
  · subst o18
    by_cases h1 : k = 6
    · subst h1
      cases h2 : gN a
      · rw [h2] at cA
        go_enter Tryz.func65, Tryz.ntmps65
        go_wp2_with (go_at_call 71; (first | (with_reducible refine (cA _).mono ?_) | (with_reducible refine (cK _).mono ?_)); rintro e w' ⟨rfl, rfl⟩)
        go_ret
        exact ⟨ret_b (by simp [fitsTwoB, *]), below_box1 _ _⟩
      · rw [h2] at cA
        by_cases h3 : a = b
        · subst h3
          go_enter Tryz.func65, Tryz.ntmps65
          go_wp2_with (go_at_call 71; (first | (with_reducible refine (cA _).mono ?_) | (with_reducible refine (cK _).mono ?_)); rintro e w' ⟨rfl, rfl⟩)
          go_ret
          exact ⟨ret_b (by simp [fitsTwoB, *]), below_box1 _ _⟩
        · have h3b : (a == b) = false := beq_eq_false_iff_ne.2 h3
          go_enter Tryz.func65, Tryz.ntmps65
          go_wp2_with (go_at_call 71; (first | (with_reducible refine (cA _).mono ?_) | (with_reducible refine (cK _).mono ?_)); rintro e w' ⟨rfl, rfl⟩)
          go_ret
          exact ⟨ret_b (by simp [fitsTwoB, *]), below_box1 _ _⟩
    · have h1b : (k == 6) = false := beq_eq_false_iff_ne.2 h1
      go_enter Tryz.func65, Tryz.ntmps65
      go_wp2_with (go_at_call 71; (first | (with_reducible refine (cA _).mono ?_) | (with_reducible refine (cK _).mono ?_)); rintro e w' ⟨rfl, rfl⟩)
      go_ret
      exact ⟨ret_b (by simp [fitsTwoB, *]), below_box1 _ _⟩
  · have o18b : (op == 18) = false := beq_eq_false_iff_ne.2 o18
    by_cases o19 : op = 19
    · subst o19
      by_cases h4 : k = 6
      · subst h4
        cases h5 : gN a
        · rw [h5] at cA
          go_enter Tryz.func65, Tryz.ntmps65
          go_wp2_with (go_at_call 71; (first | (with_reducible refine (cA _).mono ?_) | (with_reducible refine (cK _).mono ?_)); rintro e w' ⟨rfl, rfl⟩)
          go_ret
          exact ⟨ret_b (by simp [fitsTwoB, *]), below_box1 _ _⟩
        · rw [h5] at cA
          by_cases h6 : a = b
          · subst h6
            go_enter Tryz.func65, Tryz.ntmps65
            go_wp2_with (go_at_call 71; (first | (with_reducible refine (cA _).mono ?_) | (with_reducible refine (cK _).mono ?_)); rintro e w' ⟨rfl, rfl⟩)
            go_ret
            exact ⟨ret_b (by simp [fitsTwoB, *]), below_box1 _ _⟩
          · have h6b : (a == b) = false := beq_eq_false_iff_ne.2 h6
            go_enter Tryz.func65, Tryz.ntmps65
            go_wp2_with (go_at_call 71; (first | (with_reducible refine (cA _).mono ?_) | (with_reducible refine (cK _).mono ?_)); rintro e w' ⟨rfl, rfl⟩)
            go_ret
            exact ⟨ret_b (by simp [fitsTwoB, *]), below_box1 _ _⟩
      · have h4b : (k == 6) = false := beq_eq_false_iff_ne.2 h4
        go_enter Tryz.func65, Tryz.ntmps65
        go_wp2_with (go_at_call 71; (first | (with_reducible refine (cA _).mono ?_) | (with_reducible refine (cK _).mono ?_)); rintro e w' ⟨rfl, rfl⟩)
        go_ret
        exact ⟨ret_b (by simp [fitsTwoB, *]), below_box1 _ _⟩
    · have o19b : (op == 19) = false := beq_eq_false_iff_ne.2 o19
      by_cases o20 : op = 20
      · subst o20
        by_cases h7 : k = 7
        · subst h7
          by_cases h8 : a = 7
          · subst h8
            by_cases h9 : b = 6
            · subst h9
              go_enter Tryz.func65, Tryz.ntmps65
              go_wp2_with (go_at_call 71; (first | (with_reducible refine (cA _).mono ?_) | (with_reducible refine (cK _).mono ?_)); rintro e w' ⟨rfl, rfl⟩)
              go_ret
              exact ⟨ret_b (by simp [fitsTwoB, *]), below_box1 _ _⟩
            · have h9b : (b == 6) = false := beq_eq_false_iff_ne.2 h9
              go_enter Tryz.func65, Tryz.ntmps65
              go_wp2_with (go_at_call 71; (first | (with_reducible refine (cA _).mono ?_) | (with_reducible refine (cK _).mono ?_)); rintro e w' ⟨rfl, rfl⟩)
              go_ret
              exact ⟨ret_b (by simp [fitsTwoB, *]), below_box1 _ _⟩
          · have h8b : (a == 7) = false := beq_eq_false_iff_ne.2 h8
            go_enter Tryz.func65, Tryz.ntmps65
            go_wp2_with (go_at_call 71; (first | (with_reducible refine (cA _).mono ?_) | (with_reducible refine (cK _).mono ?_)); rintro e w' ⟨rfl, rfl⟩)
            go_ret
            exact ⟨ret_b (by simp [fitsTwoB, *]), below_box1 _ _⟩
        · have h7b : (k == 7) = false := beq_eq_false_iff_ne.2 h7
          go_enter Tryz.func65, Tryz.ntmps65
          go_wp2_with (go_at_call 71; (first | (with_reducible refine (cA _).mono ?_) | (with_reducible refine (cK _).mono ?_)); rintro e w' ⟨rfl, rfl⟩)
          go_ret
          exact ⟨ret_b (by simp [fitsTwoB, *]), below_box1 _ _⟩
      · have o20b : (op == 20) = false := beq_eq_false_iff_ne.2 o20
        by_cases o21 : op = 21
        · subst o21
          by_cases h10 : k = 6
          · subst h10
            by_cases h11 : a = 7
            · subst h11
              by_cases h12 : b = 7
              · subst h12
                go_enter Tryz.func65, Tryz.ntmps65
                go_wp2_with (go_at_call 71; (first | (with_reducible refine (cA _).mono ?_) | (with_reducible refine (cK _).mono ?_)); rintro e w' ⟨rfl, rfl⟩)
                go_ret
                exact ⟨ret_b (by simp [fitsTwoB, *]), below_box1 _ _⟩
              · have h12b : (b == 7) = false := beq_eq_false_iff_ne.2 h12
                go_enter Tryz.func65, Tryz.ntmps65
                go_wp2_with (go_at_call 71; (first | (with_reducible refine (cA _).mono ?_) | (with_reducible refine (cK _).mono ?_)); rintro e w' ⟨rfl, rfl⟩)
                go_ret
                exact ⟨ret_b (by simp [fitsTwoB, *]), below_box1 _ _⟩
            · have h11b : (a == 7) = false := beq_eq_false_iff_ne.2 h11
              go_enter Tryz.func65, Tryz.ntmps65
              go_wp2_with (go_at_call 71; (first | (with_reducible refine (cA _).mono ?_) | (with_reducible refine (cK _).mono ?_)); rintro e w' ⟨rfl, rfl⟩)
              go_ret
              exact ⟨ret_b (by simp [fitsTwoB, *]), below_box1 _ _⟩
          · have h10b : (k == 6) = false := beq_eq_false_iff_ne.2 h10
            go_enter Tryz.func65, Tryz.ntmps65
            go_wp2_with (go_at_call 71; (first | (with_reducible refine (cA _).mono ?_) | (with_reducible refine (cK _).mono ?_)); rintro e w' ⟨rfl, rfl⟩)
            go_ret
            exact ⟨ret_b (by simp [fitsTwoB, *]), below_box1 _ _⟩
        · have o21b : (op == 21) = false := beq_eq_false_iff_ne.2 o21
          by_cases o22 : op = 22
          · subst o22
            by_cases h13 : k = 6
            · subst h13
              by_cases h14 : a = 7
              · subst h14
                by_cases h15 : b = 7
                · subst h15
                  go_enter Tryz.func65, Tryz.ntmps65
                  go_wp2_with (go_at_call 71; (first | (with_reducible refine (cA _).mono ?_) | (with_reducible refine (cK _).mono ?_)); rintro e w' ⟨rfl, rfl⟩)
                  go_ret
                  exact ⟨ret_b (by simp [fitsTwoB, *]), below_box1 _ _⟩
                · have h15b : (b == 7) = false := beq_eq_false_iff_ne.2 h15
                  go_enter Tryz.func65, Tryz.ntmps65
                  go_wp2_with (go_at_call 71; (first | (with_reducible refine (cA _).mono ?_) | (with_reducible refine (cK _).mono ?_)); rintro e w' ⟨rfl, rfl⟩)
                  go_ret
                  exact ⟨ret_b (by simp [fitsTwoB, *]), below_box1 _ _⟩
              · have h14b : (a == 7) = false := beq_eq_false_iff_ne.2 h14
                go_enter Tryz.func65, Tryz.ntmps65
                go_wp2_with (go_at_call 71; (first | (with_reducible refine (cA _).mono ?_) | (with_reducible refine (cK _).mono ?_)); rintro e w' ⟨rfl, rfl⟩)
                go_ret
                exact ⟨ret_b (by simp [fitsTwoB, *]), below_box1 _ _⟩
            · have h13b : (k == 6) = false := beq_eq_false_iff_ne.2 h13
              go_enter Tryz.func65, Tryz.ntmps65
              go_wp2_with (go_at_call 71; (first | (with_reducible refine (cA _).mono ?_) | (with_reducible refine (cK _).mono ?_)); rintro e w' ⟨rfl, rfl⟩)
              go_ret
              exact ⟨ret_b (by simp [fitsTwoB, *]), below_box1 _ _⟩
          · have o22b : (op == 22) = false := beq_eq_false_iff_ne.2 o22
            cases h16 : gN k
            · rw [h16] at cK
              go_enter Tryz.func65, Tryz.ntmps65
              go_wp2_with (go_at_call 71; (first | (with_reducible refine (cA _).mono ?_) | (with_reducible refine (cK _).mono ?_)); rintro e w' ⟨rfl, rfl⟩)
              go_ret
              exact ⟨ret_b (by simp [fitsTwoB, *]), below_box1 _ _⟩
            · rw [h16] at cK
              by_cases h17 : a = k
              · subst h17
                by_cases h18 : b = a
                · subst h18
                  go_enter Tryz.func65, Tryz.ntmps65
                  go_wp2_with (go_at_call 71; (first | (with_reducible refine (cA _).mono ?_) | (with_reducible refine (cK _).mono ?_)); rintro e w' ⟨rfl, rfl⟩)
                  go_ret
                  exact ⟨ret_b (by simp [fitsTwoB, *]), below_box1 _ _⟩
                · have h18b : (b == a) = false := beq_eq_false_iff_ne.2 h18
                  go_enter Tryz.func65, Tryz.ntmps65
                  go_wp2_with (go_at_call 71; (first | (with_reducible refine (cA _).mono ?_) | (with_reducible refine (cK _).mono ?_)); rintro e w' ⟨rfl, rfl⟩)
                  go_ret
                  exact ⟨ret_b (by simp [fitsTwoB, *]), below_box1 _ _⟩
              · have h17b : (a == k) = false := beq_eq_false_iff_ne.2 h17
                go_enter Tryz.func65, Tryz.ntmps65
                go_wp2_with (go_at_call 71; (first | (with_reducible refine (cA _).mono ?_) | (with_reducible refine (cK _).mono ?_)); rintro e w' ⟨rfl, rfl⟩)
                go_ret
                exact ⟨ret_b (by simp [fitsTwoB, *]), below_box1 _ _⟩
set_option maxHeartbeats 1600000 in
theorem fitsOne_any (op k n xa xb a : Int) (w : World) : Calls Tryz.prog 68 #[.agg #[.int .i64 op, .int .i64 k, .int .i64 n, .int .i64 xa, .int .i64 xb], .int .i64 a] w fun e w' => e = .returned (.bool (fitsOneB ⟨op, k, n, xa, xb⟩ a)) ∧ Below w.heap.size w w' := by
  have cA := fun w => gNums_any a w
  have cK := fun w => gNums_any k w
  have sA := fun w => gScal_any a w
  have sK := fun w => gScal_any k w
  by_cases o3 : op = 3
  · subst o3
    cases h19 : gS k
    · rw [h19] at sK
      go_enter Tryz.func68, Tryz.ntmps68
      go_wp2_with (first | (go_at_call 71; (first | (with_reducible refine (cA _).mono ?_) | (with_reducible refine (cK _).mono ?_)); rintro e w' ⟨rfl, rfl⟩) | (go_at_call 70; (first | (with_reducible refine (sA _).mono ?_) | (with_reducible refine (sK _).mono ?_)); rintro e w' ⟨rfl, rfl⟩))
      go_ret
      exact ⟨ret_b (by simp [fitsOneB, *]), below_box1 _ _⟩
    · rw [h19] at sK
      by_cases h20 : a = 7
      · subst h20
        go_enter Tryz.func68, Tryz.ntmps68
        go_wp2_with (first | (go_at_call 71; (first | (with_reducible refine (cA _).mono ?_) | (with_reducible refine (cK _).mono ?_)); rintro e w' ⟨rfl, rfl⟩) | (go_at_call 70; (first | (with_reducible refine (sA _).mono ?_) | (with_reducible refine (sK _).mono ?_)); rintro e w' ⟨rfl, rfl⟩))
        go_ret
        exact ⟨ret_b (by simp [fitsOneB, *]), below_box1 _ _⟩
      · have h20b : (a == 7) = false := beq_eq_false_iff_ne.2 h20
        go_enter Tryz.func68, Tryz.ntmps68
        go_wp2_with (first | (go_at_call 71; (first | (with_reducible refine (cA _).mono ?_) | (with_reducible refine (cK _).mono ?_)); rintro e w' ⟨rfl, rfl⟩) | (go_at_call 70; (first | (with_reducible refine (sA _).mono ?_) | (with_reducible refine (sK _).mono ?_)); rintro e w' ⟨rfl, rfl⟩))
        go_ret
        exact ⟨ret_b (by simp [fitsOneB, *]), below_box1 _ _⟩
  · have o3b : (op == 3) = false := beq_eq_false_iff_ne.2 o3
    by_cases o4 : op = 4
    · subst o4
      cases h21 : gN k
      · rw [h21] at cK
        go_enter Tryz.func68, Tryz.ntmps68
        go_wp2_with (first | (go_at_call 71; (first | (with_reducible refine (cA _).mono ?_) | (with_reducible refine (cK _).mono ?_)); rintro e w' ⟨rfl, rfl⟩) | (go_at_call 70; (first | (with_reducible refine (sA _).mono ?_) | (with_reducible refine (sK _).mono ?_)); rintro e w' ⟨rfl, rfl⟩))
        go_ret
        exact ⟨ret_b (by simp [fitsOneB, *]), below_box1 _ _⟩
      · rw [h21] at cK
        cases h22 : gN a
        · rw [h22] at cA
          go_enter Tryz.func68, Tryz.ntmps68
          go_wp2_with (first | (go_at_call 71; (first | (with_reducible refine (cA _).mono ?_) | (with_reducible refine (cK _).mono ?_)); rintro e w' ⟨rfl, rfl⟩) | (go_at_call 70; (first | (with_reducible refine (sA _).mono ?_) | (with_reducible refine (sK _).mono ?_)); rintro e w' ⟨rfl, rfl⟩))
          go_ret
          exact ⟨ret_b (by simp [fitsOneB, *]), below_box1 _ _⟩
        · rw [h22] at cA
          go_enter Tryz.func68, Tryz.ntmps68
          go_wp2_with (first | (go_at_call 71; (first | (with_reducible refine (cA _).mono ?_) | (with_reducible refine (cK _).mono ?_)); rintro e w' ⟨rfl, rfl⟩) | (go_at_call 70; (first | (with_reducible refine (sA _).mono ?_) | (with_reducible refine (sK _).mono ?_)); rintro e w' ⟨rfl, rfl⟩))
          go_ret
          exact ⟨ret_b (by simp [fitsOneB, *]), below_box1 _ _⟩
    · have o4b : (op == 4) = false := beq_eq_false_iff_ne.2 o4
      by_cases o7 : op = 7
      · subst o7
        by_cases h23 : k = 6
        · subst h23
          cases h24 : gS a
          · rw [h24] at sA
            go_enter Tryz.func68, Tryz.ntmps68
            go_wp2_with (first | (go_at_call 71; (first | (with_reducible refine (cA _).mono ?_) | (with_reducible refine (cK _).mono ?_)); rintro e w' ⟨rfl, rfl⟩) | (go_at_call 70; (first | (with_reducible refine (sA _).mono ?_) | (with_reducible refine (sK _).mono ?_)); rintro e w' ⟨rfl, rfl⟩))
            go_ret
            exact ⟨ret_b (by simp [fitsOneB, *]), below_box1 _ _⟩
          · rw [h24] at sA
            go_enter Tryz.func68, Tryz.ntmps68
            go_wp2_with (first | (go_at_call 71; (first | (with_reducible refine (cA _).mono ?_) | (with_reducible refine (cK _).mono ?_)); rintro e w' ⟨rfl, rfl⟩) | (go_at_call 70; (first | (with_reducible refine (sA _).mono ?_) | (with_reducible refine (sK _).mono ?_)); rintro e w' ⟨rfl, rfl⟩))
            go_ret
            exact ⟨ret_b (by simp [fitsOneB, *]), below_box1 _ _⟩
        · have h23b : (k == 6) = false := beq_eq_false_iff_ne.2 h23
          go_enter Tryz.func68, Tryz.ntmps68
          go_wp2_with (first | (go_at_call 71; (first | (with_reducible refine (cA _).mono ?_) | (with_reducible refine (cK _).mono ?_)); rintro e w' ⟨rfl, rfl⟩) | (go_at_call 70; (first | (with_reducible refine (sA _).mono ?_) | (with_reducible refine (sK _).mono ?_)); rintro e w' ⟨rfl, rfl⟩))
          go_ret
          exact ⟨ret_b (by simp [fitsOneB, *]), below_box1 _ _⟩
      · have o7b : (op == 7) = false := beq_eq_false_iff_ne.2 o7
        cases h25 : gN k
        · rw [h25] at cK
          go_enter Tryz.func68, Tryz.ntmps68
          go_wp2_with (first | (go_at_call 71; (first | (with_reducible refine (cA _).mono ?_) | (with_reducible refine (cK _).mono ?_)); rintro e w' ⟨rfl, rfl⟩) | (go_at_call 70; (first | (with_reducible refine (sA _).mono ?_) | (with_reducible refine (sK _).mono ?_)); rintro e w' ⟨rfl, rfl⟩))
          go_ret
          exact ⟨ret_b (by simp [fitsOneB, *]), below_box1 _ _⟩
        · rw [h25] at cK
          by_cases h26 : a = k
          · subst h26
            go_enter Tryz.func68, Tryz.ntmps68
            go_wp2_with (first | (go_at_call 71; (first | (with_reducible refine (cA _).mono ?_) | (with_reducible refine (cK _).mono ?_)); rintro e w' ⟨rfl, rfl⟩) | (go_at_call 70; (first | (with_reducible refine (sA _).mono ?_) | (with_reducible refine (sK _).mono ?_)); rintro e w' ⟨rfl, rfl⟩))
            go_ret
            exact ⟨ret_b (by simp [fitsOneB, *]), below_box1 _ _⟩
          · have h26b : (a == k) = false := beq_eq_false_iff_ne.2 h26
            go_enter Tryz.func68, Tryz.ntmps68
            go_wp2_with (first | (go_at_call 71; (first | (with_reducible refine (cA _).mono ?_) | (with_reducible refine (cK _).mono ?_)); rintro e w' ⟨rfl, rfl⟩) | (go_at_call 70; (first | (with_reducible refine (sA _).mono ?_) | (with_reducible refine (sK _).mono ?_)); rintro e w' ⟨rfl, rfl⟩))
            go_ret
            exact ⟨ret_b (by simp [fitsOneB, *]), below_box1 _ _⟩
set_option maxHeartbeats 1600000 in
theorem fitsNone_any (pb : Nat) (P : PX) (op k n xa xb : Int) (w : World) (h : QP w pb 0 P) : Calls Tryz.prog 69 #[.pointer (some ⟨pb, 0, none⟩), .agg #[.int .i64 op, .int .i64 k, .int .i64 n, .int .i64 xa, .int .i64 xb]] w fun e w' => e = .returned (.bool (fitsNoneB P ⟨op, k, n, xa, xb⟩)) ∧ Below w.heap.size w w' := by
  have h1 := fun w2 (hb : Below w.heap.size w w2) => gVar_any pb P n w2 (QP.below _ _ _ _ _ hb h)
  have cV := h1 _ (below_box1 w (.cells #[.int .i64 op, .int .i64 k, .int .i64 n, .int .i64 xa, .int .i64 xb] 50))
  have cC := fun w => Check_any k ⟨k == 7, n, 0, 0⟩ w
  unfold scV at cC
  dsimp only at cC
  have e0 : fitsNoneB P ⟨op, k, n, xa, xb⟩ = (if op = 1 then mayS k ⟨k == 7, n, 0, 0⟩ else if op = 2 then (k == 7) && isVarB P n else false) := rfl
  rw [e0]
  generalize mayS k ⟨k == 7, n, 0, 0⟩ = mb at *
  generalize isVarB P n = vb at *
  clear e0 h1 h
  by_cases o1 : op = 1
  · subst o1
    cases mb
    · skip
      go_enter Tryz.func69, Tryz.ntmps69
      go_wp2_with (first | (go_at_call 81; refine (cC _).mono ?_; rintro e w' ⟨rfl, hbc⟩) | (go_at_call 82; refine cV.mono ?_; rintro e w' ⟨rfl, rfl⟩))
      go_ret
      exact ⟨ret_b (by simp), (below_box1 _ _).trans (hbc.mono (by simp))⟩
    · skip
      go_enter Tryz.func69, Tryz.ntmps69
      go_wp2_with (first | (go_at_call 81; refine (cC _).mono ?_; rintro e w' ⟨rfl, hbc⟩) | (go_at_call 82; refine cV.mono ?_; rintro e w' ⟨rfl, rfl⟩))
      go_ret
      exact ⟨ret_b (by simp), (below_box1 _ _).trans (hbc.mono (by simp))⟩
  · have o1b : (op == 1) = false := beq_eq_false_iff_ne.2 o1
    by_cases o2 : op = 2
    · subst o2
      by_cases h27 : k = 7
      · subst h27
        go_enter Tryz.func69, Tryz.ntmps69
        go_wp2_with (first | (go_at_call 81; refine (cC _).mono ?_; rintro e w' ⟨rfl, hbc⟩) | (go_at_call 82; refine cV.mono ?_; rintro e w' ⟨rfl, rfl⟩))
        go_ret
        exact ⟨ret_b (by simp [*]), below_box1 _ _⟩
      · have h27b : (k == 7) = false := beq_eq_false_iff_ne.2 h27
        go_enter Tryz.func69, Tryz.ntmps69
        go_wp2_with (first | (go_at_call 81; refine (cC _).mono ?_; rintro e w' ⟨rfl, hbc⟩) | (go_at_call 82; refine cV.mono ?_; rintro e w' ⟨rfl, rfl⟩))
        go_ret
        exact ⟨ret_b (by simp [*]), below_box1 _ _⟩
    · have o2b : (op == 2) = false := beq_eq_false_iff_ne.2 o2
      go_enter Tryz.func69, Tryz.ntmps69
      go_wp2_with (first | (go_at_call 81; refine (cC _).mono ?_; rintro e w' ⟨rfl, hbc⟩) | (go_at_call 82; refine cV.mono ?_; rintro e w' ⟨rfl, rfl⟩))
      go_ret
      exact ⟨ret_b (by simp [*]), below_box1 _ _⟩
end Go.Proofs.YtncdbjflfhfddaaGreat
