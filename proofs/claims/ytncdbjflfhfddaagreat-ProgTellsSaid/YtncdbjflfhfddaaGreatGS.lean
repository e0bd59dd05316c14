/- Package prog: whether a statement may be, wherever it stands. -/
import Derived.Test.YtncdbjflfhfddaaGreatGX
namespace Go.Proofs.YtncdbjflfhfddaaGreat
open Go.ChangeShapes Go.WideShapes Go.ChangeAt Go.RowKit Go.Joins Go.Deep
set_option linter.unusedVariables false
set_option linter.unusedSimpArgs false


def stmtC (op tt k e n : Int) (nb ne : Nat) (kt ke : Int) (nw : Bool) : Bool :=
  if (op ≠ 5 ∧ 0 < ne) ∨ (op ≠ 5 ∧ op ≠ 6 ∧ 0 < nb) then false
  else if op = 1 then (n == 0) && (kt == 7) && gS k && (ke == k)
  else if op = 2 then (e == 0) && (n == 0) && (kt == 7) && gN k
  else if op = 3 then (k == 0) && (e == 0) && (kt == 7) && nw
  else if op = 4 then (tt == 0) && (k == 0) && (n == 0) && (ke == 7)
  else if op = 5 ∨ op = 6 then (tt == 0) && (k == 0) && (n == 0) && (ke == 6)
  else if op = 7 then (tt == 0) && (k == 0) && (e == 0) && (n == 0)
  else false
theorem stmtC_eq (P : PX) (s : SX) : isStmtB P s = stmtC s.op s.to s.kind s.e s.n s.body.length s.els.length (kindI P s.to P.exs.length) (kindI P s.e P.exs.length) (isNewB P s.n) := rfl
set_option maxRecDepth 100000 in
set_option maxHeartbeats 12800000 in
theorem isStmtC_any (pb : Nat) (P : PX) (op tt k e n : Int) (qb qe : Option Addr) (nb cb ne ce : Nat) (hV : P.vars.length ≤ 4) (hN : P.news.length ≤ 2) (hb3 : nb ≤ maxLen) (he3 : ne ≤ maxLen) (w : World) (h : QP w pb 0 P) : Calls Tryz.prog 58 #[.pointer (some ⟨pb, 0, none⟩), .agg #[.int .i64 op, .int .i64 tt, .int .i64 k, .int .i64 e, .int .i64 n, .slice qb nb cb, .slice qe ne ce]] w fun e' w' => e' = .returned (.bool (stmtC op tt k e n nb ne (kindI P tt P.exs.length) (kindI P e P.exs.length) (isNewB P n))) ∧ Below w.heap.size w w' := by
  have hb0 := below_box1 w (.cells #[.int .i64 op, .int .i64 tt, .int .i64 k, .int .i64 e, .int .i64 n, .slice qb nb cb, .slice qe ne ce] 53)
  have hA := At.new w #[.int .i64 op, .int .i64 tt, .int .i64 k, .int .i64 e, .int .i64 n, .slice qb nb cb, .slice qe ne ce] 53
  obtain ⟨w1, hw1⟩ : ∃ w1, w.alloc (.cells #[.int .i64 op, .int .i64 tt, .int .i64 k, .int .i64 e, .int .i64 n, .slice qb nb cb, .slice qe ne ce] 53) = w1 := ⟨_, rfl⟩
  rw [hw1] at hb0 hA
  have hP := QP.below _ _ _ _ _ hb0 h
  obtain ⟨v1, v2, v3, v4, v5, h0, h1, h2, h3, h4, h5, h6, h7⟩ := hP.cells
  obtain ⟨q, cap, rfl, hl, hcap, hc⟩ := h7.2.2.1
  have kA := fun p : BelowBy w1 => gKind_any pb P tt P.exs.length (Int.le_refl _) p.world (QP.below _ _ _ _ _ p.below hP)
  have kB := fun p : BelowBy w1 => gKind_any pb P e P.exs.length (Int.le_refl _) p.world (QP.below _ _ _ _ _ p.below hP)
  have nW := fun w2 (hb2 : Below w1.heap.size w1 w2) => gNew_any pb P n hV hN w2 (QP.below _ _ _ _ _ hb2 hP)
  have cK := fun w => gNums_any k w
  have sK := fun w => gScal_any k w
  generalize kindI P tt P.exs.length = kt at *
  generalize kindI P e P.exs.length = ke at *
  generalize isNewB P n = nw at *
  generalize P.exs.length = nx at *
  have p8 := fun p : BelowBy w1 => p.cell h4
  unfold maxLen at hb3 he3
  have hq0 := hA.cell 0 rfl
  have hq1 := hA.cell 1 rfl
  have hq2 := hA.cell 2 rfl
  have hq3 := hA.cell 3 rfl
  have hq4 := hA.cell 4 rfl
  have hq5 := hA.cell 5 rfl
  have hq6 := hA.cell 6 rfl
  have p1 := fun p : BelowBy w1 => p.cell hq1
  have p3 := fun p : BelowBy w1 => p.cell hq3
  clear h h0 h1 h2 h3 h5 h6 h7 hP hc hV hN hq0 hq1 hq2 hq3 hq4 hq5 hq6
  go_enter Tryz.func58, Tryz.ntmps58
  go_upto_region 1 with (fail)
  clear hw1
  refine wp_region_quiet_below (by kernel_rfl) (by kernel_rfl) ?_
  repeat (go_big_quiet_step ((go_at_call 66; (first | (with_reducible exact Calls.below_same (kA _)) | (with_reducible exact Calls.below_same (kB _))))))
  refine wpQuiet_nil ?_
  intro w2 hw'
  have hb2 : Below w1.heap.size w1 w2 := by (obtain ⟨⟨_, h⟩, h2⟩ := hw'; rw [h2]; exact h)
  clear hw'
  have hA2 := At.below' hb2 hA
  replace nW := nW w2 hb2
  have HB := Lib.hid (hb0.trans (hb2.mono hb0.size))
  have d0 : w2.cell? ⟨w.heap.size, 0, none⟩ = some (.int .i64 op) := hA2.cell 0 rfl
  have d1 : w2.cell? ⟨w.heap.size, 1, none⟩ = some (.int .i64 tt) := hA2.cell 1 rfl
  have d2 : w2.cell? ⟨w.heap.size, 2, none⟩ = some (.int .i64 k) := hA2.cell 2 rfl
  have d3 : w2.cell? ⟨w.heap.size, 3, none⟩ = some (.int .i64 e) := hA2.cell 3 rfl
  have d4 : w2.cell? ⟨w.heap.size, 4, none⟩ = some (.int .i64 n) := hA2.cell 4 rfl
  have d5 : w2.cell? ⟨w.heap.size, 5, none⟩ = some (.slice qb nb cb) := hA2.cell 5 rfl
  have d6 : w2.cell? ⟨w.heap.size, 6, none⟩ = some (.slice qe ne ce) := hA2.cell 6 rfl
  clear hA hA2 hb0 hb2 kA kB p8 p1 p3 h4
  by_cases o1 : op = 1
  · subst o1
    by_cases hne : ne = 0
    · subst hne
      by_cases hnb : nb = 0
      · subst hnb
        by_cases h1 : n = 0
        · subst h1
          by_cases h2 : kt = 7
          · subst h2
            cases h3 : gS k
            · rw [h3] at sK
              go_wp2_with (first | (go_at_call 71; refine (cK _).mono ?_; rintro e w' ⟨rfl, rfl⟩) | (go_at_call 70; refine (sK _).mono ?_; rintro e w' ⟨rfl, rfl⟩))
              go_ret
              exact ⟨ret_b (by simp [stmtC, *]), HB.out⟩
            · rw [h3] at sK
              by_cases h4 : ke = k
              · subst h4
                go_wp2_with (first | (go_at_call 71; refine (cK _).mono ?_; rintro e w' ⟨rfl, rfl⟩) | (go_at_call 70; refine (sK _).mono ?_; rintro e w' ⟨rfl, rfl⟩))
                go_ret
                exact ⟨ret_b (by simp [stmtC, *]), HB.out⟩
              · have h4b : (ke == k) = false := beq_eq_false_iff_ne.2 h4
                go_wp2_with (first | (go_at_call 71; refine (cK _).mono ?_; rintro e w' ⟨rfl, rfl⟩) | (go_at_call 70; refine (sK _).mono ?_; rintro e w' ⟨rfl, rfl⟩))
                go_ret
                exact ⟨ret_b (by simp [stmtC, *]), HB.out⟩
          · have h2b : (kt == 7) = false := beq_eq_false_iff_ne.2 h2
            go_wp2_with (first | (go_at_call 71; refine (cK _).mono ?_; rintro e w' ⟨rfl, rfl⟩) | (go_at_call 70; refine (sK _).mono ?_; rintro e w' ⟨rfl, rfl⟩))
            go_ret
            exact ⟨ret_b (by simp [stmtC, *]), HB.out⟩
        · have h1b : (n == 0) = false := beq_eq_false_iff_ne.2 h1
          go_wp2_with (first | (go_at_call 71; refine (cK _).mono ?_; rintro e w' ⟨rfl, rfl⟩) | (go_at_call 70; refine (sK _).mono ?_; rintro e w' ⟨rfl, rfl⟩))
          go_ret
          exact ⟨ret_b (by simp [stmtC, *]), HB.out⟩
      · have hnb2 : (0 : Int) < (nb : Int) := by omega
        have hnb3 : 0 < nb := by omega
        go_wp2_with (fail)
        go_ret
        exact ⟨ret_b (by simp [stmtC, *]), HB.out⟩
    · have hne2 : (0 : Int) < (ne : Int) := by omega
      have hne3 : 0 < ne := by omega
      go_wp2_with (fail)
      go_ret
      exact ⟨ret_b (by simp [stmtC, *]), HB.out⟩
  · have o1b : (op == 1) = false := beq_eq_false_iff_ne.2 o1
    by_cases o2 : op = 2
    · subst o2
      by_cases hne : ne = 0
      · subst hne
        by_cases hnb : nb = 0
        · subst hnb
          by_cases h5 : e = 0
          · subst h5
            by_cases h6 : n = 0
            · subst h6
              by_cases h7 : kt = 7
              · subst h7
                cases h8 : gN k
                · rw [h8] at cK
                  go_wp2_with (first | (go_at_call 71; refine (cK _).mono ?_; rintro e w' ⟨rfl, rfl⟩) | (go_at_call 70; refine (sK _).mono ?_; rintro e w' ⟨rfl, rfl⟩))
                  go_ret
                  exact ⟨ret_b (by simp [stmtC, *]), HB.out⟩
                · rw [h8] at cK
                  go_wp2_with (first | (go_at_call 71; refine (cK _).mono ?_; rintro e w' ⟨rfl, rfl⟩) | (go_at_call 70; refine (sK _).mono ?_; rintro e w' ⟨rfl, rfl⟩))
                  go_ret
                  exact ⟨ret_b (by simp [stmtC, *]), HB.out⟩
              · have h7b : (kt == 7) = false := beq_eq_false_iff_ne.2 h7
                go_wp2_with (first | (go_at_call 71; refine (cK _).mono ?_; rintro e w' ⟨rfl, rfl⟩) | (go_at_call 70; refine (sK _).mono ?_; rintro e w' ⟨rfl, rfl⟩))
                go_ret
                exact ⟨ret_b (by simp [stmtC, *]), HB.out⟩
            · have h6b : (n == 0) = false := beq_eq_false_iff_ne.2 h6
              go_wp2_with (first | (go_at_call 71; refine (cK _).mono ?_; rintro e w' ⟨rfl, rfl⟩) | (go_at_call 70; refine (sK _).mono ?_; rintro e w' ⟨rfl, rfl⟩))
              go_ret
              exact ⟨ret_b (by simp [stmtC, *]), HB.out⟩
          · have h5b : (e == 0) = false := beq_eq_false_iff_ne.2 h5
            go_wp2_with (first | (go_at_call 71; refine (cK _).mono ?_; rintro e w' ⟨rfl, rfl⟩) | (go_at_call 70; refine (sK _).mono ?_; rintro e w' ⟨rfl, rfl⟩))
            go_ret
            exact ⟨ret_b (by simp [stmtC, *]), HB.out⟩
        · have hnb2 : (0 : Int) < (nb : Int) := by omega
          have hnb3 : 0 < nb := by omega
          go_wp2_with (fail)
          go_ret
          exact ⟨ret_b (by simp [stmtC, *]), HB.out⟩
      · have hne2 : (0 : Int) < (ne : Int) := by omega
        have hne3 : 0 < ne := by omega
        go_wp2_with (fail)
        go_ret
        exact ⟨ret_b (by simp [stmtC, *]), HB.out⟩
    · have o2b : (op == 2) = false := beq_eq_false_iff_ne.2 o2
      by_cases o3 : op = 3
      · subst o3
        by_cases hne : ne = 0
        · subst hne
          by_cases hnb : nb = 0
          · subst hnb
            by_cases h9 : k = 0
            · subst h9
              by_cases h10 : e = 0
              · subst h10
                by_cases h11 : kt = 7
                · subst h11
                  go_wp2_with (first | (go_at_call 72; refine nW.mono ?_; rintro e w' ⟨rfl, hbn⟩))
                  go_ret
                  exact ⟨ret_b (by simp [stmtC, *]), HB.out.trans (hbn.mono HB.out.size)⟩
                · have h11b : (kt == 7) = false := beq_eq_false_iff_ne.2 h11
                  go_wp2_with (first | (go_at_call 71; refine (cK _).mono ?_; rintro e w' ⟨rfl, rfl⟩) | (go_at_call 70; refine (sK _).mono ?_; rintro e w' ⟨rfl, rfl⟩))
                  go_ret
                  exact ⟨ret_b (by simp [stmtC, *]), HB.out⟩
              · have h10b : (e == 0) = false := beq_eq_false_iff_ne.2 h10
                go_wp2_with (first | (go_at_call 71; refine (cK _).mono ?_; rintro e w' ⟨rfl, rfl⟩) | (go_at_call 70; refine (sK _).mono ?_; rintro e w' ⟨rfl, rfl⟩))
                go_ret
                exact ⟨ret_b (by simp [stmtC, *]), HB.out⟩
            · have h9b : (k == 0) = false := beq_eq_false_iff_ne.2 h9
              go_wp2_with (first | (go_at_call 71; refine (cK _).mono ?_; rintro e w' ⟨rfl, rfl⟩) | (go_at_call 70; refine (sK _).mono ?_; rintro e w' ⟨rfl, rfl⟩))
              go_ret
              exact ⟨ret_b (by simp [stmtC, *]), HB.out⟩
          · have hnb2 : (0 : Int) < (nb : Int) := by omega
            have hnb3 : 0 < nb := by omega
            go_wp2_with (fail)
            go_ret
            exact ⟨ret_b (by simp [stmtC, *]), HB.out⟩
        · have hne2 : (0 : Int) < (ne : Int) := by omega
          have hne3 : 0 < ne := by omega
          go_wp2_with (fail)
          go_ret
          exact ⟨ret_b (by simp [stmtC, *]), HB.out⟩
      · have o3b : (op == 3) = false := beq_eq_false_iff_ne.2 o3
        by_cases o4 : op = 4
        · subst o4
          by_cases hne : ne = 0
          · subst hne
            by_cases hnb : nb = 0
            · subst hnb
              by_cases h12 : tt = 0
              · subst h12
                by_cases h13 : k = 0
                · subst h13
                  by_cases h14 : n = 0
                  · subst h14
                    by_cases h15 : ke = 7
                    · subst h15
                      go_wp2_with (first | (go_at_call 71; refine (cK _).mono ?_; rintro e w' ⟨rfl, rfl⟩) | (go_at_call 70; refine (sK _).mono ?_; rintro e w' ⟨rfl, rfl⟩))
                      go_ret
                      exact ⟨ret_b (by simp [stmtC, *]), HB.out⟩
                    · have h15b : (ke == 7) = false := beq_eq_false_iff_ne.2 h15
                      go_wp2_with (first | (go_at_call 71; refine (cK _).mono ?_; rintro e w' ⟨rfl, rfl⟩) | (go_at_call 70; refine (sK _).mono ?_; rintro e w' ⟨rfl, rfl⟩))
                      go_ret
                      exact ⟨ret_b (by simp [stmtC, *]), HB.out⟩
                  · have h14b : (n == 0) = false := beq_eq_false_iff_ne.2 h14
                    go_wp2_with (first | (go_at_call 71; refine (cK _).mono ?_; rintro e w' ⟨rfl, rfl⟩) | (go_at_call 70; refine (sK _).mono ?_; rintro e w' ⟨rfl, rfl⟩))
                    go_ret
                    exact ⟨ret_b (by simp [stmtC, *]), HB.out⟩
                · have h13b : (k == 0) = false := beq_eq_false_iff_ne.2 h13
                  go_wp2_with (first | (go_at_call 71; refine (cK _).mono ?_; rintro e w' ⟨rfl, rfl⟩) | (go_at_call 70; refine (sK _).mono ?_; rintro e w' ⟨rfl, rfl⟩))
                  go_ret
                  exact ⟨ret_b (by simp [stmtC, *]), HB.out⟩
              · have h12b : (tt == 0) = false := beq_eq_false_iff_ne.2 h12
                go_wp2_with (first | (go_at_call 71; refine (cK _).mono ?_; rintro e w' ⟨rfl, rfl⟩) | (go_at_call 70; refine (sK _).mono ?_; rintro e w' ⟨rfl, rfl⟩))
                go_ret
                exact ⟨ret_b (by simp [stmtC, *]), HB.out⟩
            · have hnb2 : (0 : Int) < (nb : Int) := by omega
              have hnb3 : 0 < nb := by omega
              go_wp2_with (fail)
              go_ret
              exact ⟨ret_b (by simp [stmtC, *]), HB.out⟩
          · have hne2 : (0 : Int) < (ne : Int) := by omega
            have hne3 : 0 < ne := by omega
            go_wp2_with (fail)
            go_ret
            exact ⟨ret_b (by simp [stmtC, *]), HB.out⟩
        · have o4b : (op == 4) = false := beq_eq_false_iff_ne.2 o4
          by_cases o5 : op = 5
          · subst o5
            by_cases h16 : tt = 0
            · subst h16
              by_cases h17 : k = 0
              · subst h17
                by_cases h18 : n = 0
                · subst h18
                  by_cases h19 : ke = 6
                  · subst h19
                    go_wp2_with (first | (go_at_call 71; refine (cK _).mono ?_; rintro e w' ⟨rfl, rfl⟩) | (go_at_call 70; refine (sK _).mono ?_; rintro e w' ⟨rfl, rfl⟩))
                    go_ret
                    exact ⟨ret_b (by simp [stmtC, *]), HB.out⟩
                  · have h19b : (ke == 6) = false := beq_eq_false_iff_ne.2 h19
                    go_wp2_with (first | (go_at_call 71; refine (cK _).mono ?_; rintro e w' ⟨rfl, rfl⟩) | (go_at_call 70; refine (sK _).mono ?_; rintro e w' ⟨rfl, rfl⟩))
                    go_ret
                    exact ⟨ret_b (by simp [stmtC, *]), HB.out⟩
                · have h18b : (n == 0) = false := beq_eq_false_iff_ne.2 h18
                  go_wp2_with (first | (go_at_call 71; refine (cK _).mono ?_; rintro e w' ⟨rfl, rfl⟩) | (go_at_call 70; refine (sK _).mono ?_; rintro e w' ⟨rfl, rfl⟩))
                  go_ret
                  exact ⟨ret_b (by simp [stmtC, *]), HB.out⟩
              · have h17b : (k == 0) = false := beq_eq_false_iff_ne.2 h17
                go_wp2_with (first | (go_at_call 71; refine (cK _).mono ?_; rintro e w' ⟨rfl, rfl⟩) | (go_at_call 70; refine (sK _).mono ?_; rintro e w' ⟨rfl, rfl⟩))
                go_ret
                exact ⟨ret_b (by simp [stmtC, *]), HB.out⟩
            · have h16b : (tt == 0) = false := beq_eq_false_iff_ne.2 h16
              go_wp2_with (first | (go_at_call 71; refine (cK _).mono ?_; rintro e w' ⟨rfl, rfl⟩) | (go_at_call 70; refine (sK _).mono ?_; rintro e w' ⟨rfl, rfl⟩))
              go_ret
              exact ⟨ret_b (by simp [stmtC, *]), HB.out⟩
          · have o5b : (op == 5) = false := beq_eq_false_iff_ne.2 o5
            by_cases o6 : op = 6
            · subst o6
              by_cases hne : ne = 0
              · subst hne
                by_cases h20 : tt = 0
                · subst h20
                  by_cases h21 : k = 0
                  · subst h21
                    by_cases h22 : n = 0
                    · subst h22
                      by_cases h23 : ke = 6
                      · subst h23
                        go_wp2_with (first | (go_at_call 71; refine (cK _).mono ?_; rintro e w' ⟨rfl, rfl⟩) | (go_at_call 70; refine (sK _).mono ?_; rintro e w' ⟨rfl, rfl⟩))
                        go_ret
                        exact ⟨ret_b (by simp [stmtC, *]), HB.out⟩
                      · have h23b : (ke == 6) = false := beq_eq_false_iff_ne.2 h23
                        go_wp2_with (first | (go_at_call 71; refine (cK _).mono ?_; rintro e w' ⟨rfl, rfl⟩) | (go_at_call 70; refine (sK _).mono ?_; rintro e w' ⟨rfl, rfl⟩))
                        go_ret
                        exact ⟨ret_b (by simp [stmtC, *]), HB.out⟩
                    · have h22b : (n == 0) = false := beq_eq_false_iff_ne.2 h22
                      go_wp2_with (first | (go_at_call 71; refine (cK _).mono ?_; rintro e w' ⟨rfl, rfl⟩) | (go_at_call 70; refine (sK _).mono ?_; rintro e w' ⟨rfl, rfl⟩))
                      go_ret
                      exact ⟨ret_b (by simp [stmtC, *]), HB.out⟩
                  · have h21b : (k == 0) = false := beq_eq_false_iff_ne.2 h21
                    go_wp2_with (first | (go_at_call 71; refine (cK _).mono ?_; rintro e w' ⟨rfl, rfl⟩) | (go_at_call 70; refine (sK _).mono ?_; rintro e w' ⟨rfl, rfl⟩))
                    go_ret
                    exact ⟨ret_b (by simp [stmtC, *]), HB.out⟩
                · have h20b : (tt == 0) = false := beq_eq_false_iff_ne.2 h20
                  go_wp2_with (first | (go_at_call 71; refine (cK _).mono ?_; rintro e w' ⟨rfl, rfl⟩) | (go_at_call 70; refine (sK _).mono ?_; rintro e w' ⟨rfl, rfl⟩))
                  go_ret
                  exact ⟨ret_b (by simp [stmtC, *]), HB.out⟩
              · have hne2 : (0 : Int) < (ne : Int) := by omega
                have hne3 : 0 < ne := by omega
                go_wp2_with (fail)
                go_ret
                exact ⟨ret_b (by simp [stmtC, *]), HB.out⟩
            · have o6b : (op == 6) = false := beq_eq_false_iff_ne.2 o6
              by_cases o7 : op = 7
              · subst o7
                by_cases hne : ne = 0
                · subst hne
                  by_cases hnb : nb = 0
                  · subst hnb
                    by_cases h24 : tt = 0
                    · subst h24
                      by_cases h25 : k = 0
                      · subst h25
                        by_cases h26 : e = 0
                        · subst h26
                          by_cases h27 : n = 0
                          · subst h27
                            go_wp2_with (first | (go_at_call 71; refine (cK _).mono ?_; rintro e w' ⟨rfl, rfl⟩) | (go_at_call 70; refine (sK _).mono ?_; rintro e w' ⟨rfl, rfl⟩))
                            go_ret
                            exact ⟨ret_b (by simp [stmtC, *]), HB.out⟩
                          · have h27b : (n == 0) = false := beq_eq_false_iff_ne.2 h27
                            go_wp2_with (first | (go_at_call 71; refine (cK _).mono ?_; rintro e w' ⟨rfl, rfl⟩) | (go_at_call 70; refine (sK _).mono ?_; rintro e w' ⟨rfl, rfl⟩))
                            go_ret
                            exact ⟨ret_b (by simp [stmtC, *]), HB.out⟩
                        · have h26b : (e == 0) = false := beq_eq_false_iff_ne.2 h26
                          go_wp2_with (first | (go_at_call 71; refine (cK _).mono ?_; rintro e w' ⟨rfl, rfl⟩) | (go_at_call 70; refine (sK _).mono ?_; rintro e w' ⟨rfl, rfl⟩))
                          go_ret
                          exact ⟨ret_b (by simp [stmtC, *]), HB.out⟩
                      · have h25b : (k == 0) = false := beq_eq_false_iff_ne.2 h25
                        go_wp2_with (first | (go_at_call 71; refine (cK _).mono ?_; rintro e w' ⟨rfl, rfl⟩) | (go_at_call 70; refine (sK _).mono ?_; rintro e w' ⟨rfl, rfl⟩))
                        go_ret
                        exact ⟨ret_b (by simp [stmtC, *]), HB.out⟩
                    · have h24b : (tt == 0) = false := beq_eq_false_iff_ne.2 h24
                      go_wp2_with (first | (go_at_call 71; refine (cK _).mono ?_; rintro e w' ⟨rfl, rfl⟩) | (go_at_call 70; refine (sK _).mono ?_; rintro e w' ⟨rfl, rfl⟩))
                      go_ret
                      exact ⟨ret_b (by simp [stmtC, *]), HB.out⟩
                  · have hnb2 : (0 : Int) < (nb : Int) := by omega
                    have hnb3 : 0 < nb := by omega
                    go_wp2_with (fail)
                    go_ret
                    exact ⟨ret_b (by simp [stmtC, *]), HB.out⟩
                · have hne2 : (0 : Int) < (ne : Int) := by omega
                  have hne3 : 0 < ne := by omega
                  go_wp2_with (fail)
                  go_ret
                  exact ⟨ret_b (by simp [stmtC, *]), HB.out⟩
              · have o7b : (op == 7) = false := beq_eq_false_iff_ne.2 o7
                have o5n : (op != 5) = true := bne_iff_ne.2 o5
                have o6n : (op != 6) = true := bne_iff_ne.2 o6
                by_cases hne : ne = 0
                · subst hne
                  by_cases hnb : nb = 0
                  · subst hnb
                    go_wp2_with (fail)
                    go_ret
                    exact ⟨ret_b (by simp [stmtC, *]), HB.out⟩
                  · have hnb2 : (0 : Int) < (nb : Int) := by omega
                    have hnb3 : 0 < nb := by omega
                    go_wp2_with (fail)
                    go_ret
                    exact ⟨ret_b (by simp [stmtC, *]), HB.out⟩
                · have hne2 : (0 : Int) < (ne : Int) := by omega
                  have hne3 : 0 < ne := by omega
                  go_wp2_with (fail)
                  go_ret
                  exact ⟨ret_b (by simp [stmtC, *]), HB.out⟩
theorem isStmt_any (pb : Nat) (P : PX) (s : SX) (vb ve : Value) (hV : P.vars.length ≤ 4) (hN : P.news.length ≤ 2) (w : World) (h : QP w pb 0 P) (h1 : IsIs w vb s.body) (h2 : IsIs w ve s.els) : Calls Tryz.prog 58 #[.pointer (some ⟨pb, 0, none⟩), .agg #[.int .i64 s.op, .int .i64 s.to, .int .i64 s.kind, .int .i64 s.e, .int .i64 s.n, vb, ve]] w fun e' w' => e' = .returned (.bool (isStmtB P s)) ∧ Below w.heap.size w w' := by
  obtain ⟨qb, cb, rfl, hb3, _⟩ := h1
  obtain ⟨qe, ce, rfl, he3, _⟩ := h2
  rw [stmtC_eq]
  exact isStmtC_any pb P s.op s.to s.kind s.e s.n qb qe s.body.length cb s.els.length ce hV hN hb3 he3 w h
end Go.Proofs.YtncdbjflfhfddaaGreat
