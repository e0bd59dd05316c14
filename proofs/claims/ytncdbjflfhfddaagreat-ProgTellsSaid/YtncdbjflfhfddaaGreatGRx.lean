/- The document on programs: expr. -/
import Derived.Test.YtncdbjflfhfddaaGreatGRe
namespace Go.Proofs.YtncdbjflfhfddaaGreat
open Go.ChangeShapes Go.WideShapes Go.ChangeAt Go.RowKit Go.Joins Go.Deep
set_option linter.unusedVariables false
set_option linter.unusedSimpArgs false


set_option maxRecDepth 100000 in
set_option maxHeartbeats 12800000 in
theorem rExpr_any (P : PX) (v1 v2 v3 v4 v5 : Value) (i : Nat) (x : EX) (hxi : P.exs[i]? = some x) (w : World) (h : IsPr w v1 v2 v3 v4 v5 P) : Calls Tryz.prog 30 #[.agg #[.bool P.big, .int .i64 P.ptr, v1, v2, v3, v4, v5], .int .i64 (i : Nat)] w fun e w' => e = .returned (.bool (rExprB P x (i : Nat))) ∧ Below w.heap.size w w' := by
  obtain ⟨q1, k1, rfl, _⟩ := id h.1
  obtain ⟨q2, k2, rfl, _⟩ := id h.2.1
  obtain ⟨q3, k3, rfl, hl3, hk3, hc3⟩ := id h.2.2.1
  obtain ⟨q4, k4, rfl, _⟩ := id h.2.2.2.1
  obtain ⟨q5, k5, rfl, _⟩ := id h.2.2.2.2
  have hil : i < P.exs.length := (List.getElem?_eq_some_iff.1 hxi).1
  obtain ⟨eb, eo, rfl, heb, hec⟩ := hc3 (by omega)
  obtain ⟨c0, c1, c2, c3, c4⟩ := (hec i x hxi).cells
  have hKA : ∀ a : Nat, a < P.exs.length → w.cell? ⟨eb, eo + a * 5 + 1, none⟩ = some (.int .i64 (exAt P (a : Nat)).kind) := fun a ha => by
    obtain ⟨y, hy⟩ : ∃ y, P.exs[a]? = some y := ⟨_, List.getElem?_eq_getElem ha⟩
    have : exAt P (a : Nat) = y := by simp [exAt, List.getD_eq_getElem?_getD, hy]
    rw [this]
    exact (hec a y hy).cells.2.1
  obtain ⟨op, k, n, xa, xb⟩ := x
  dsimp only at c0 c1 c2 c3 c4
  have e0 : rExprB P ⟨op, k, n, xa, xb⟩ (i : Nat) = (if upTo op 1 22 = false then false else if manyN op = 0 then (if xa ≠ 0 then false else if xb ≠ 0 then false else if op = 1 then rNumB k n else (k == 7) && upTo n 1 P.vars.length) else if manyN op = 1 then (if upTo xa 0 ((i : Int) - 1) = false then false else if xb ≠ 0 then false else if n ≠ 0 then false else fitsOneB ⟨op, k, n, xa, xb⟩ (exAt P xa).kind) else (if upTo xa 0 ((i : Int) - 1) = false then false else if upTo xb 0 ((i : Int) - 1) = false then false else if n ≠ 0 then false else fitsTwoB ⟨op, k, n, xa, xb⟩ (exAt P xa).kind (exAt P xb).kind)) := rfl
  obtain ⟨R, hR⟩ : ∃ R, R = rExprB P ⟨op, k, n, xa, xb⟩ (i : Nat) := ⟨_, rfl⟩
  rw [← hR]
  rw [e0] at hR
  clear e0
  generalize P.vars.length = nv at *
  generalize P.news.length = nn at *
  obtain ⟨nx, hnx⟩ : ∃ nx, nx = P.exs.length := ⟨_, rfl⟩
  rw [← hnx] at hl3 hk3 hil hKA ⊢
  generalize P.sts.length = ns at *
  generalize P.main.length = nm at *
  generalize P.big = big at *
  generalize P.ptr = ptr at *
  have HK := Lib.hid hKA
  unfold maxLen at hl3
  clear hec hc3 h hxi hnx hKA
  have hs1 : (w.alloc (.cells #[.bool big, .int .i64 ptr, .slice q1 nv k1, .slice q2 nn k2, .slice (some ⟨eb, eo, none⟩) nx k3, .slice q4 ns k4, .slice q5 nm k5] 33)).heap.size = w.heap.size + 1 := World.size_alloc _ _
  have hA1 := At.new w #[.bool big, .int .i64 ptr, .slice q1 nv k1, .slice q2 nn k2, .slice (some ⟨eb, eo, none⟩) nx k3, .slice q4 ns k4, .slice q5 nm k5] 33
  have hb1 := below_box1 w (.cells #[.bool big, .int .i64 ptr, .slice q1 nv k1, .slice q2 nn k2, .slice (some ⟨eb, eo, none⟩) nx k3, .slice q4 ns k4, .slice q5 nm k5] 33)
  obtain ⟨w1, hw1⟩ : ∃ w1, w.alloc (.cells #[.bool big, .int .i64 ptr, .slice q1 nv k1, .slice q2 nn k2, .slice (some ⟨eb, eo, none⟩) nx k3, .slice q4 ns k4, .slice q5 nm k5] 33) = w1 := ⟨_, rfl⟩
  rw [hw1] at hs1 hA1 hb1
  have hA2 := At.new w1 #[.int .i64 op, .int .i64 k, .int .i64 n, .int .i64 xa, .int .i64 xb] 50
  have hb2 := below_box1 w1 (.cells #[.int .i64 op, .int .i64 k, .int .i64 n, .int .i64 xa, .int .i64 xb] 50)
  obtain ⟨w2, hw2⟩ : ∃ w2, w1.alloc (.cells #[.int .i64 op, .int .i64 k, .int .i64 n, .int .i64 xa, .int .i64 xb] 50) = w2 := ⟨_, rfl⟩
  rw [hw2] at hA2 hb2

  have HB := Lib.hid (hb1.trans (hb2.mono hb1.size))
  have hA1' := At.below' hb2 hA1
  have a2 : w2.cell? ⟨w.heap.size, 2, none⟩ = some (.slice q1 nv k1) := hA1'.cell 2 rfl
  have a4 : w2.cell? ⟨w.heap.size, 4, none⟩ = some (.slice (some ⟨eb, eo, none⟩) nx k3) := hA1'.cell 4 rfl
  have x0 : w2.cell? ⟨w1.heap.size, 0, none⟩ = some (.int .i64 op) := hA2.cell 0 rfl
  have x1 : w2.cell? ⟨w1.heap.size, 1, none⟩ = some (.int .i64 k) := hA2.cell 1 rfl
  have x2 : w2.cell? ⟨w1.heap.size, 2, none⟩ = some (.int .i64 n) := hA2.cell 2 rfl
  have x3 : w2.cell? ⟨w1.heap.size, 3, none⟩ = some (.int .i64 xa) := hA2.cell 3 rfl
  have x4 : w2.cell? ⟨w1.heap.size, 4, none⟩ = some (.int .i64 xb) := hA2.cell 4 rfl
  have HKA : Hid (∀ a : Nat, a < nx → w2.cell? ⟨eb, eo + a * 5 + 1, none⟩ = some (.int .i64 (exAt P (a : Nat)).kind)) := Lib.hid fun a ha => cell_below (HK.out a ha) HB.out
  have d0 := cell_below c0 hb1
  have d1 := cell_below c1 hb1
  have d2 := cell_below c2 hb1
  have d3 := cell_below c3 hb1
  have d4 := cell_below c4 hb1
  have b4 : w1.cell? ⟨w.heap.size, 4, none⟩ = some (.slice (some ⟨eb, eo, none⟩) nx k3) := hA1.cell 4 rfl
  have hi3 : (i : Int) < (nx : Int) := by omega
  have ei : IntKind.i64.wrap ((i : Int) - 1) = (i : Int) - 1 := by rw [IntKind.wrap_i64]; omega
  have cB := fun w => Between_any op 1 22 w
  have cM := fun w => many_any op w
  have cN := fun m w => Num_any m ((i : Int) - 1) w
  have cG := fun m w => rNums_any m w
  have cK := fun m w => Kind_any m w
  have gK : ∀ m, upTo m 1 7 = gS m := fun m => (gS_eq m).symm
  simp only [gK] at cK
  clear c0 c1 c2 c3 c4 hA1 hA2 hA1' hb1 hb2 hs1 gK
  go_enter Tryz.func30, Tryz.ntmps30
  go_upto_region 2 with (fail)
  clear hw1 hw2 d0 d1 d2 d3 d4 b4
  cases hr : upTo op 1 22
  · rw [hr] at cB hR
    go_wp2_with (first | (go_at_call 43; (with_reducible refine (cB _).mono ?_); rintro e w' ⟨rfl, rfl⟩))
    go_ret
    exact ⟨ret_b (by rw [hR]; simp [hr, *]), HB.out⟩
  rw [hr] at cB hR
  have hrr : 1 ≤ op ∧ op ≤ 22 := by simpa [upTo] using hr
  simp only [Bool.true_eq_false, if_false] at hR
  by_cases h0 : op = 1 ∨ op = 2
  · have m0 : manyN op = 0 := by unfold manyN; rw [if_pos h0]
    rw [m0] at cM
    rw [if_pos m0] at hR
    clear m0 hr
    by_cases ha : xa = 0
    rotate_left
    · have hab : (xa != 0) = true := bne_iff_ne.2 ha
      go_wp2_with (first | (go_at_call 43; (with_reducible refine (cB _).mono ?_); rintro e w' ⟨rfl, rfl⟩) | (go_at_call 44; refine (cM _).mono ?_; rintro e w' ⟨rfl, rfl⟩))
      go_ret
      exact ⟨ret_b (by rw [hR]; simp [ha, *]), HB.out⟩
    subst ha
    by_cases hb : xb = 0
    rotate_left
    · have hbb : (xb != 0) = true := bne_iff_ne.2 hb
      go_wp2_with (first | (go_at_call 43; (with_reducible refine (cB _).mono ?_); rintro e w' ⟨rfl, rfl⟩) | (go_at_call 44; refine (cM _).mono ?_; rintro e w' ⟨rfl, rfl⟩))
      go_ret
      exact ⟨ret_b (by rw [hR]; simp [hb, *]), HB.out⟩
    subst hb
    simp only [ne_eq, not_true_eq_false, if_false] at hR
    rcases h0 with rfl | rfl
    · rw [if_pos rfl] at hR
      have cGk := fun w => cG k w
      have cW := fun w => rWidth_any k w
      have p1 := fun p : BelowBy w2 => p.cell x1
      have p2 := fun p : BelowBy w2 => p.cell x2
      have cGq := fun p : BelowBy w2 => cGk p.world
      have cWq := fun p : BelowBy w2 => cW p.world
      cases hg : gN k
      · rw [hg] at cGq
        have cNq := cGq
        by_cases h7 : k = 7
        · subst h7
          by_cases hn : n = 0
          · subst hn
            go_wp2_with (first | (go_at_call 43; (with_reducible refine (cB _).mono ?_); rintro e w' ⟨rfl, rfl⟩) | (go_at_call 44; refine (cM _).mono ?_; rintro e w' ⟨rfl, rfl⟩))
            refine wp_region_quiet_below (by kernel_rfl) (by kernel_rfl) ?_
            repeat (go_big_quiet_step (first | (go_at_call 46; (with_reducible exact Calls.below_same (cGq _))) | (go_at_call 48; (with_reducible exact Calls.below_same (cWq _))) | (go_at_call 47; (with_reducible exact Calls.below_same (cNq _)))))
            refine wpQuiet_nil ?_
            intro w3 hw'
            have hb3 : Below w2.heap.size w2 w3 := by (obtain ⟨⟨_, h⟩, h2⟩ := hw'; rw [h2]; exact h)
            clear hw'
            go_wp2
            go_ret
            exact ⟨ret_b (by rw [hR]; simp [rNumB, *]), HB.out.trans (hb3.mono HB.out.size)⟩
          · have hnb : (n == 0) = false := beq_eq_false_iff_ne.2 hn
            go_wp2_with (first | (go_at_call 43; (with_reducible refine (cB _).mono ?_); rintro e w' ⟨rfl, rfl⟩) | (go_at_call 44; refine (cM _).mono ?_; rintro e w' ⟨rfl, rfl⟩))
            refine wp_region_quiet_below (by kernel_rfl) (by kernel_rfl) ?_
            repeat (go_big_quiet_step (first | (go_at_call 46; (with_reducible exact Calls.below_same (cGq _))) | (go_at_call 48; (with_reducible exact Calls.below_same (cWq _))) | (go_at_call 47; (with_reducible exact Calls.below_same (cNq _)))))
            refine wpQuiet_nil ?_
            intro w3 hw'
            have hb3 : Below w2.heap.size w2 w3 := by (obtain ⟨⟨_, h⟩, h2⟩ := hw'; rw [h2]; exact h)
            clear hw'
            go_wp2
            go_ret
            exact ⟨ret_b (by rw [hR]; simp [rNumB, *]), HB.out.trans (hb3.mono HB.out.size)⟩
        · have h7b : (k == 7) = false := beq_eq_false_iff_ne.2 h7
          go_wp2_with (first | (go_at_call 43; (with_reducible refine (cB _).mono ?_); rintro e w' ⟨rfl, rfl⟩) | (go_at_call 44; refine (cM _).mono ?_; rintro e w' ⟨rfl, rfl⟩))
          refine wp_region_quiet_below (by kernel_rfl) (by kernel_rfl) ?_
          repeat (go_big_quiet_step (first | (go_at_call 46; (with_reducible exact Calls.below_same (cGq _))) | (go_at_call 48; (with_reducible exact Calls.below_same (cWq _))) | (go_at_call 47; (with_reducible exact Calls.below_same (cNq _)))))
          refine wpQuiet_nil ?_
          intro w3 hw'
          have hb3 : Below w2.heap.size w2 w3 := by (obtain ⟨⟨_, h⟩, h2⟩ := hw'; rw [h2]; exact h)
          clear hw'
          go_wp2
          go_ret
          exact ⟨ret_b (by rw [hR]; simp [rNumB, *]), HB.out.trans (hb3.mono HB.out.size)⟩
      · rw [hg] at cGq
        have hk6 : 1 ≤ k ∧ k ≤ 6 := by rw [gN_eq] at hg; exact of_decide_eq_true hg
        have h7b : (k == 7) = false := by rw [beq_eq_false_iff_ne]; omega
        by_cases hnn : isN n (widthI k)
        · have cNq := fun p : BelowBy w2 => rNumber_yes n (widthI k) (width_isW hk6) hnn p.world
          have hfin : rNumB k n = true := by unfold rNumB; rw [hg]; simpa [isN] using hnn
          generalize widthI k = W at *
          clear hnn hk6
          go_wp2_with (first | (go_at_call 43; (with_reducible refine (cB _).mono ?_); rintro e w' ⟨rfl, rfl⟩) | (go_at_call 44; refine (cM _).mono ?_; rintro e w' ⟨rfl, rfl⟩))
          refine wp_region_quiet_below (by kernel_rfl) (by kernel_rfl) ?_
          repeat (go_big_quiet_step (first | (go_at_call 46; (with_reducible exact Calls.below_same (cGq _))) | (go_at_call 48; (with_reducible exact Calls.below_same (cWq _))) | (go_at_call 47; (with_reducible exact Calls.below_same (cNq _)))))
          refine wpQuiet_nil ?_
          intro w3 hw'
          have hb3 : Below w2.heap.size w2 w3 := by (obtain ⟨⟨_, h⟩, h2⟩ := hw'; rw [h2]; exact h)
          clear hw'
          go_wp2
          go_ret
          exact ⟨ret_b (by rw [hR]; simp [hfin, *]), HB.out.trans (hb3.mono HB.out.size)⟩
        · have cNq := fun p : BelowBy w2 => rNumber_no n (widthI k) (width_isW hk6) hnn p.world
          have hfin : rNumB k n = false := by unfold rNumB; rw [hg, if_pos rfl]; simp only [isN] at hnn; by_cases h1 : 0 ≤ n <;> by_cases h2 : n < 2 ^ (widthI k).toNat <;> simp_all
          generalize widthI k = W at *
          clear hnn hk6
          go_wp2_with (first | (go_at_call 43; (with_reducible refine (cB _).mono ?_); rintro e w' ⟨rfl, rfl⟩) | (go_at_call 44; refine (cM _).mono ?_; rintro e w' ⟨rfl, rfl⟩))
          refine wp_region_quiet_below (by kernel_rfl) (by kernel_rfl) ?_
          repeat (go_big_quiet_step (first | (go_at_call 46; (with_reducible exact Calls.below_same (cGq _))) | (go_at_call 48; (with_reducible exact Calls.below_same (cWq _))) | (go_at_call 47; (with_reducible exact Calls.below_same (cNq _)))))
          refine wpQuiet_nil ?_
          intro w3 hw'
          have hb3 : Below w2.heap.size w2 w3 := by (obtain ⟨⟨_, h⟩, h2⟩ := hw'; rw [h2]; exact h)
          clear hw'
          go_wp2
          go_ret
          exact ⟨ret_b (by rw [hR]; simp [hfin, *]), HB.out.trans (hb3.mono HB.out.size)⟩
    · rw [if_neg (by decide)] at hR
      have cV := fun w => Between_any n 1 nv w
      by_cases h7 : k = 7
      · subst h7
        go_wp2_with (first | (go_at_call 43; (first | (with_reducible refine (cB _).mono ?_) | (with_reducible refine (cV _).mono ?_)); rintro e w' ⟨rfl, rfl⟩) | (go_at_call 44; refine (cM _).mono ?_; rintro e w' ⟨rfl, rfl⟩))
        go_ret
        exact ⟨ret_b (by rw [hR]; simp [hrr, *]), HB.out⟩
      · have h7b : (k == 7) = false := beq_eq_false_iff_ne.2 h7
        go_wp2_with (first | (go_at_call 43; (first | (with_reducible refine (cB _).mono ?_) | (with_reducible refine (cV _).mono ?_)); rintro e w' ⟨rfl, rfl⟩) | (go_at_call 44; refine (cM _).mono ?_; rintro e w' ⟨rfl, rfl⟩))
        go_ret
        exact ⟨ret_b (by rw [hR]; simp [h7b, *]), HB.out⟩
  have o1b : (op == 1) = false := by rw [beq_eq_false_iff_ne]; omega
  have o2b : (op == 2) = false := by rw [beq_eq_false_iff_ne]; omega
  by_cases h1 : 3 ≤ op ∧ op ≤ 7
  · have m1 : manyN op = 1 := by unfold manyN; rw [if_neg h0, if_pos (by simp [upTo, h1])]
    rw [m1] at cM
    rw [if_neg (show ¬ manyN op = 0 by rw [m1]; decide), if_pos m1] at hR
    clear m1 hr h0
    have cNa := fun w => cN xa w
    cases huxa : upTo xa 0 ((i : Int) - 1)
    · rw [huxa] at cNa hR
      have cNb := cNa
      go_wp2_with (first | (go_at_call 43; (with_reducible refine (cB _).mono ?_); rintro e w' ⟨rfl, rfl⟩) | (go_at_call 44; refine (cM _).mono ?_; rintro e w' ⟨rfl, rfl⟩) | (go_at_call 45; (first | (with_reducible refine (cNa _).mono ?_) | (with_reducible refine (cNb _).mono ?_)); rintro e w' ⟨rfl, rfl⟩))
      go_ret
      exact ⟨ret_b (by rw [hR]; simp [huxa, *]), HB.out⟩
    rw [huxa] at cNa hR
    have hhxa : 0 ≤ xa ∧ xa ≤ (i : Int) - 1 := by simpa [upTo] using huxa
    obtain ⟨ia, rfl⟩ : ∃ ia : Nat, xa = (ia : Int) := ⟨xa.toNat, by omega⟩
    have ka1 := HKA.out ia (by omega)
    have ka1l : (ia : Int) < (nx : Int) := by omega
    simp only [Bool.true_eq_false, if_false] at hR
    generalize (exAt P (ia : Nat)).kind = ka at *
    clear huxa hhxa
    by_cases hb : xb = 0
    rotate_left
    · have hbb : (xb != 0) = true := bne_iff_ne.2 hb
      go_wp2_with (first | (go_at_call 43; (with_reducible refine (cB _).mono ?_); rintro e w' ⟨rfl, rfl⟩) | (go_at_call 44; refine (cM _).mono ?_; rintro e w' ⟨rfl, rfl⟩) | (go_at_call 45; (with_reducible refine (cNa _).mono ?_); rintro e w' ⟨rfl, rfl⟩))
      go_ret
      exact ⟨ret_b (by rw [hR]; simp [hb, *]), HB.out⟩
    subst hb
    by_cases hn : n = 0
    rotate_left
    · have hnb : (n != 0) = true := bne_iff_ne.2 hn
      go_wp2_with (first | (go_at_call 43; (with_reducible refine (cB _).mono ?_); rintro e w' ⟨rfl, rfl⟩) | (go_at_call 44; refine (cM _).mono ?_; rintro e w' ⟨rfl, rfl⟩) | (go_at_call 45; (with_reducible refine (cNa _).mono ?_); rintro e w' ⟨rfl, rfl⟩))
      go_ret
      exact ⟨ret_b (by rw [hR]; simp [hn, *]), HB.out⟩
    subst hn
    simp only [ne_eq, not_true_eq_false, if_false] at hR
    go_upto_region 24 with (first | (go_at_call 43; (with_reducible refine (cB _).mono ?_); rintro e w' ⟨rfl, rfl⟩) | (go_at_call 44; refine (cM _).mono ?_; rintro e w' ⟨rfl, rfl⟩) | (go_at_call 45; (with_reducible refine (cNa _).mono ?_); rintro e w' ⟨rfl, rfl⟩))
    have cGk := fun w => cG k w
    have cGa := fun w => cG ka w
    have cKk := fun w => cK k w
    have cKa := fun w => cK ka w
    clear cG cK cB cM cN cNa HK HKA
    by_cases o3 : op = 3
    · subst o3
      cases h1 : gS k
      · rw [h1] at cKk
        go_wp2_with (first | (go_at_call 46; (first | (with_reducible refine (cGk _).mono ?_) | (with_reducible refine (cGa _).mono ?_)); rintro e w' ⟨rfl, rfl⟩) | (go_at_call 49; (first | (with_reducible refine (cKk _).mono ?_) | (with_reducible refine (cKa _).mono ?_)); rintro e w' ⟨rfl, rfl⟩))
        go_ret
        exact ⟨ret_b (by rw [hR]; simp [fitsOneB, *]), HB.out⟩
      · rw [h1] at cKk
        by_cases h2 : ka = 7
        · subst h2
          go_wp2_with (first | (go_at_call 46; (first | (with_reducible refine (cGk _).mono ?_) | (with_reducible refine (cGa _).mono ?_)); rintro e w' ⟨rfl, rfl⟩) | (go_at_call 49; (first | (with_reducible refine (cKk _).mono ?_) | (with_reducible refine (cKa _).mono ?_)); rintro e w' ⟨rfl, rfl⟩))
          go_ret
          exact ⟨ret_b (by rw [hR]; simp [fitsOneB, *]), HB.out⟩
        · have h2b : (ka == 7) = false := beq_eq_false_iff_ne.2 h2
          go_wp2_with (first | (go_at_call 46; (first | (with_reducible refine (cGk _).mono ?_) | (with_reducible refine (cGa _).mono ?_)); rintro e w' ⟨rfl, rfl⟩) | (go_at_call 49; (first | (with_reducible refine (cKk _).mono ?_) | (with_reducible refine (cKa _).mono ?_)); rintro e w' ⟨rfl, rfl⟩))
          go_ret
          exact ⟨ret_b (by rw [hR]; simp [fitsOneB, *]), HB.out⟩
    · have o3b : (op == 3) = false := beq_eq_false_iff_ne.2 o3
      by_cases o4 : op = 4
      · subst o4
        cases h3 : gN k
        · rw [h3] at cGk
          go_wp2_with (first | (go_at_call 46; (first | (with_reducible refine (cGk _).mono ?_) | (with_reducible refine (cGa _).mono ?_)); rintro e w' ⟨rfl, rfl⟩) | (go_at_call 49; (first | (with_reducible refine (cKk _).mono ?_) | (with_reducible refine (cKa _).mono ?_)); rintro e w' ⟨rfl, rfl⟩))
          go_ret
          exact ⟨ret_b (by rw [hR]; simp [fitsOneB, *]), HB.out⟩
        · rw [h3] at cGk
          cases h4 : gN ka
          · rw [h4] at cGa
            go_wp2_with (first | (go_at_call 46; (first | (with_reducible refine (cGk _).mono ?_) | (with_reducible refine (cGa _).mono ?_)); rintro e w' ⟨rfl, rfl⟩) | (go_at_call 49; (first | (with_reducible refine (cKk _).mono ?_) | (with_reducible refine (cKa _).mono ?_)); rintro e w' ⟨rfl, rfl⟩))
            go_ret
            exact ⟨ret_b (by rw [hR]; simp [fitsOneB, *]), HB.out⟩
          · rw [h4] at cGa
            go_wp2_with (first | (go_at_call 46; (first | (with_reducible refine (cGk _).mono ?_) | (with_reducible refine (cGa _).mono ?_)); rintro e w' ⟨rfl, rfl⟩) | (go_at_call 49; (first | (with_reducible refine (cKk _).mono ?_) | (with_reducible refine (cKa _).mono ?_)); rintro e w' ⟨rfl, rfl⟩))
            go_ret
            exact ⟨ret_b (by rw [hR]; simp [fitsOneB, *]), HB.out⟩
      · have o4b : (op == 4) = false := beq_eq_false_iff_ne.2 o4
        by_cases o5 : op = 5
        · subst o5
          cases h5 : gN k
          · rw [h5] at cGk
            go_wp2_with (first | (go_at_call 46; (first | (with_reducible refine (cGk _).mono ?_) | (with_reducible refine (cGa _).mono ?_)); rintro e w' ⟨rfl, rfl⟩) | (go_at_call 49; (first | (with_reducible refine (cKk _).mono ?_) | (with_reducible refine (cKa _).mono ?_)); rintro e w' ⟨rfl, rfl⟩))
            go_ret
            exact ⟨ret_b (by rw [hR]; simp [fitsOneB, *]), HB.out⟩
          · rw [h5] at cGk
            by_cases h6 : ka = k
            · subst h6
              go_wp2_with (first | (go_at_call 46; (first | (with_reducible refine (cGk _).mono ?_) | (with_reducible refine (cGa _).mono ?_)); rintro e w' ⟨rfl, rfl⟩) | (go_at_call 49; (first | (with_reducible refine (cKk _).mono ?_) | (with_reducible refine (cKa _).mono ?_)); rintro e w' ⟨rfl, rfl⟩))
              go_ret
              exact ⟨ret_b (by rw [hR]; simp [fitsOneB, *]), HB.out⟩
            · have h6b : (ka == k) = false := beq_eq_false_iff_ne.2 h6
              go_wp2_with (first | (go_at_call 46; (first | (with_reducible refine (cGk _).mono ?_) | (with_reducible refine (cGa _).mono ?_)); rintro e w' ⟨rfl, rfl⟩) | (go_at_call 49; (first | (with_reducible refine (cKk _).mono ?_) | (with_reducible refine (cKa _).mono ?_)); rintro e w' ⟨rfl, rfl⟩))
              go_ret
              exact ⟨ret_b (by rw [hR]; simp [fitsOneB, *]), HB.out⟩
        · have o5b : (op == 5) = false := beq_eq_false_iff_ne.2 o5
          by_cases o6 : op = 6
          · subst o6
            cases h7 : gN k
            · rw [h7] at cGk
              go_wp2_with (first | (go_at_call 46; (first | (with_reducible refine (cGk _).mono ?_) | (with_reducible refine (cGa _).mono ?_)); rintro e w' ⟨rfl, rfl⟩) | (go_at_call 49; (first | (with_reducible refine (cKk _).mono ?_) | (with_reducible refine (cKa _).mono ?_)); rintro e w' ⟨rfl, rfl⟩))
              go_ret
              exact ⟨ret_b (by rw [hR]; simp [fitsOneB, *]), HB.out⟩
            · rw [h7] at cGk
              by_cases h8 : ka = k
              · subst h8
                go_wp2_with (first | (go_at_call 46; (first | (with_reducible refine (cGk _).mono ?_) | (with_reducible refine (cGa _).mono ?_)); rintro e w' ⟨rfl, rfl⟩) | (go_at_call 49; (first | (with_reducible refine (cKk _).mono ?_) | (with_reducible refine (cKa _).mono ?_)); rintro e w' ⟨rfl, rfl⟩))
                go_ret
                exact ⟨ret_b (by rw [hR]; simp [fitsOneB, *]), HB.out⟩
              · have h8b : (ka == k) = false := beq_eq_false_iff_ne.2 h8
                go_wp2_with (first | (go_at_call 46; (first | (with_reducible refine (cGk _).mono ?_) | (with_reducible refine (cGa _).mono ?_)); rintro e w' ⟨rfl, rfl⟩) | (go_at_call 49; (first | (with_reducible refine (cKk _).mono ?_) | (with_reducible refine (cKa _).mono ?_)); rintro e w' ⟨rfl, rfl⟩))
                go_ret
                exact ⟨ret_b (by rw [hR]; simp [fitsOneB, *]), HB.out⟩
          · have o6b : (op == 6) = false := beq_eq_false_iff_ne.2 o6
            obtain rfl : op = 7 := by omega
            by_cases h9 : k = 6
            · subst h9
              cases h10 : gS ka
              · rw [h10] at cKa
                go_wp2_with (first | (go_at_call 46; (first | (with_reducible refine (cGk _).mono ?_) | (with_reducible refine (cGa _).mono ?_)); rintro e w' ⟨rfl, rfl⟩) | (go_at_call 49; (first | (with_reducible refine (cKk _).mono ?_) | (with_reducible refine (cKa _).mono ?_)); rintro e w' ⟨rfl, rfl⟩))
                go_ret
                exact ⟨ret_b (by rw [hR]; simp [fitsOneB, *]), HB.out⟩
              · rw [h10] at cKa
                go_wp2_with (first | (go_at_call 46; (first | (with_reducible refine (cGk _).mono ?_) | (with_reducible refine (cGa _).mono ?_)); rintro e w' ⟨rfl, rfl⟩) | (go_at_call 49; (first | (with_reducible refine (cKk _).mono ?_) | (with_reducible refine (cKa _).mono ?_)); rintro e w' ⟨rfl, rfl⟩))
                go_ret
                exact ⟨ret_b (by rw [hR]; simp [fitsOneB, *]), HB.out⟩
            · have h9b : (k == 6) = false := beq_eq_false_iff_ne.2 h9
              go_wp2_with (first | (go_at_call 46; (first | (with_reducible refine (cGk _).mono ?_) | (with_reducible refine (cGa _).mono ?_)); rintro e w' ⟨rfl, rfl⟩) | (go_at_call 49; (first | (with_reducible refine (cKk _).mono ?_) | (with_reducible refine (cKa _).mono ?_)); rintro e w' ⟨rfl, rfl⟩))
              go_ret
              exact ⟨ret_b (by rw [hR]; simp [fitsOneB, *]), HB.out⟩
  have m2 : manyN op = 2 := by unfold manyN; rw [if_neg h0, if_neg (by simp [upTo]; omega)]
  rw [m2] at cM
  rw [if_neg (show ¬ manyN op = 0 by rw [m2]; decide), if_neg (show ¬ manyN op = 1 by rw [m2]; decide)] at hR
  clear m2 hr h0
  have cNa := fun w => cN xa w
  cases huxa : upTo xa 0 ((i : Int) - 1)
  · rw [huxa] at cNa hR
    have cNb := cNa
    go_wp2_with (first | (go_at_call 43; (with_reducible refine (cB _).mono ?_); rintro e w' ⟨rfl, rfl⟩) | (go_at_call 44; refine (cM _).mono ?_; rintro e w' ⟨rfl, rfl⟩) | (go_at_call 45; (first | (with_reducible refine (cNa _).mono ?_) | (with_reducible refine (cNb _).mono ?_)); rintro e w' ⟨rfl, rfl⟩))
    go_ret
    exact ⟨ret_b (by rw [hR]; simp [huxa, *]), HB.out⟩
  rw [huxa] at cNa hR
  have hhxa : 0 ≤ xa ∧ xa ≤ (i : Int) - 1 := by simpa [upTo] using huxa
  obtain ⟨ia, rfl⟩ : ∃ ia : Nat, xa = (ia : Int) := ⟨xa.toNat, by omega⟩
  have ka1 := HKA.out ia (by omega)
  have ka1l : (ia : Int) < (nx : Int) := by omega
  simp only [Bool.true_eq_false, if_false] at hR
  have cNb := fun w => cN xb w
  cases huxb : upTo xb 0 ((i : Int) - 1)
  · rw [huxb] at cNb hR
    skip
    go_wp2_with (first | (go_at_call 43; (with_reducible refine (cB _).mono ?_); rintro e w' ⟨rfl, rfl⟩) | (go_at_call 44; refine (cM _).mono ?_; rintro e w' ⟨rfl, rfl⟩) | (go_at_call 45; (first | (with_reducible refine (cNa _).mono ?_) | (with_reducible refine (cNb _).mono ?_)); rintro e w' ⟨rfl, rfl⟩))
    go_ret
    exact ⟨ret_b (by rw [hR]; simp [huxb, *]), HB.out⟩
  rw [huxb] at cNb hR
  have hhxb : 0 ≤ xb ∧ xb ≤ (i : Int) - 1 := by simpa [upTo] using huxb
  obtain ⟨ib, rfl⟩ : ∃ ib : Nat, xb = (ib : Int) := ⟨xb.toNat, by omega⟩
  have kb1 := HKA.out ib (by omega)
  have kb1l : (ib : Int) < (nx : Int) := by omega
  simp only [Bool.true_eq_false, if_false] at hR
  generalize (exAt P (ia : Nat)).kind = ka at *
  generalize (exAt P (ib : Nat)).kind = kb at *
  clear huxa hhxa huxb hhxb
  by_cases hn : n = 0
  rotate_left
  · have hnb : (n != 0) = true := bne_iff_ne.2 hn
    go_wp2_with (first | (go_at_call 43; (with_reducible refine (cB _).mono ?_); rintro e w' ⟨rfl, rfl⟩) | (go_at_call 44; refine (cM _).mono ?_; rintro e w' ⟨rfl, rfl⟩) | (go_at_call 45; (first | (with_reducible refine (cNa _).mono ?_) | (with_reducible refine (cNb _).mono ?_)); rintro e w' ⟨rfl, rfl⟩))
    go_ret
    exact ⟨ret_b (by rw [hR]; simp [hn, *]), HB.out⟩
  subst hn
  simp only [ne_eq, not_true_eq_false, if_false] at hR
  go_upto_region 24 with (first | (go_at_call 43; (with_reducible refine (cB _).mono ?_); rintro e w' ⟨rfl, rfl⟩) | (go_at_call 44; refine (cM _).mono ?_; rintro e w' ⟨rfl, rfl⟩) | (go_at_call 45; (first | (with_reducible refine (cNa _).mono ?_) | (with_reducible refine (cNb _).mono ?_)); rintro e w' ⟨rfl, rfl⟩))
  have cGk := fun w => cG k w
  have cGa := fun w => cG ka w
  have cKk := fun w => cK k w
  have cKa := fun w => cK ka w
  clear cG cK cB cM cN cNa cNb HK HKA
  have o3b : (op == 3) = false := by rw [beq_eq_false_iff_ne]; omega
  have o4b : (op == 4) = false := by rw [beq_eq_false_iff_ne]; omega
  have o5b : (op == 5) = false := by rw [beq_eq_false_iff_ne]; omega
  have o6b : (op == 6) = false := by rw [beq_eq_false_iff_ne]; omega
  have o7b : (op == 7) = false := by rw [beq_eq_false_iff_ne]; omega
  by_cases o18 : op = 18
  · subst o18
    by_cases h11 : k = 6
    · subst h11
      cases h12 : gN ka
      · rw [h12] at cGa
        go_wp2_with (first | (go_at_call 46; (first | (with_reducible refine (cGk _).mono ?_) | (with_reducible refine (cGa _).mono ?_)); rintro e w' ⟨rfl, rfl⟩) | (go_at_call 49; (first | (with_reducible refine (cKk _).mono ?_) | (with_reducible refine (cKa _).mono ?_)); rintro e w' ⟨rfl, rfl⟩))
        go_ret
        exact ⟨ret_b (by rw [hR]; simp [fitsTwoB, *]), HB.out⟩
      · rw [h12] at cGa
        by_cases h13 : ka = kb
        · subst h13
          go_wp2_with (first | (go_at_call 46; (first | (with_reducible refine (cGk _).mono ?_) | (with_reducible refine (cGa _).mono ?_)); rintro e w' ⟨rfl, rfl⟩) | (go_at_call 49; (first | (with_reducible refine (cKk _).mono ?_) | (with_reducible refine (cKa _).mono ?_)); rintro e w' ⟨rfl, rfl⟩))
          go_ret
          exact ⟨ret_b (by rw [hR]; simp [fitsTwoB, *]), HB.out⟩
        · have h13b : (ka == kb) = false := beq_eq_false_iff_ne.2 h13
          go_wp2_with (first | (go_at_call 46; (first | (with_reducible refine (cGk _).mono ?_) | (with_reducible refine (cGa _).mono ?_)); rintro e w' ⟨rfl, rfl⟩) | (go_at_call 49; (first | (with_reducible refine (cKk _).mono ?_) | (with_reducible refine (cKa _).mono ?_)); rintro e w' ⟨rfl, rfl⟩))
          go_ret
          exact ⟨ret_b (by rw [hR]; simp [fitsTwoB, *]), HB.out⟩
    · have h11b : (k == 6) = false := beq_eq_false_iff_ne.2 h11
      go_wp2_with (first | (go_at_call 46; (first | (with_reducible refine (cGk _).mono ?_) | (with_reducible refine (cGa _).mono ?_)); rintro e w' ⟨rfl, rfl⟩) | (go_at_call 49; (first | (with_reducible refine (cKk _).mono ?_) | (with_reducible refine (cKa _).mono ?_)); rintro e w' ⟨rfl, rfl⟩))
      go_ret
      exact ⟨ret_b (by rw [hR]; simp [fitsTwoB, *]), HB.out⟩
  · have o18b : (op == 18) = false := beq_eq_false_iff_ne.2 o18
    by_cases o19 : op = 19
    · subst o19
      by_cases h14 : k = 6
      · subst h14
        cases h15 : gN ka
        · rw [h15] at cGa
          go_wp2_with (first | (go_at_call 46; (first | (with_reducible refine (cGk _).mono ?_) | (with_reducible refine (cGa _).mono ?_)); rintro e w' ⟨rfl, rfl⟩) | (go_at_call 49; (first | (with_reducible refine (cKk _).mono ?_) | (with_reducible refine (cKa _).mono ?_)); rintro e w' ⟨rfl, rfl⟩))
          go_ret
          exact ⟨ret_b (by rw [hR]; simp [fitsTwoB, *]), HB.out⟩
        · rw [h15] at cGa
          by_cases h16 : ka = kb
          · subst h16
            go_wp2_with (first | (go_at_call 46; (first | (with_reducible refine (cGk _).mono ?_) | (with_reducible refine (cGa _).mono ?_)); rintro e w' ⟨rfl, rfl⟩) | (go_at_call 49; (first | (with_reducible refine (cKk _).mono ?_) | (with_reducible refine (cKa _).mono ?_)); rintro e w' ⟨rfl, rfl⟩))
            go_ret
            exact ⟨ret_b (by rw [hR]; simp [fitsTwoB, *]), HB.out⟩
          · have h16b : (ka == kb) = false := beq_eq_false_iff_ne.2 h16
            go_wp2_with (first | (go_at_call 46; (first | (with_reducible refine (cGk _).mono ?_) | (with_reducible refine (cGa _).mono ?_)); rintro e w' ⟨rfl, rfl⟩) | (go_at_call 49; (first | (with_reducible refine (cKk _).mono ?_) | (with_reducible refine (cKa _).mono ?_)); rintro e w' ⟨rfl, rfl⟩))
            go_ret
            exact ⟨ret_b (by rw [hR]; simp [fitsTwoB, *]), HB.out⟩
      · have h14b : (k == 6) = false := beq_eq_false_iff_ne.2 h14
        go_wp2_with (first | (go_at_call 46; (first | (with_reducible refine (cGk _).mono ?_) | (with_reducible refine (cGa _).mono ?_)); rintro e w' ⟨rfl, rfl⟩) | (go_at_call 49; (first | (with_reducible refine (cKk _).mono ?_) | (with_reducible refine (cKa _).mono ?_)); rintro e w' ⟨rfl, rfl⟩))
        go_ret
        exact ⟨ret_b (by rw [hR]; simp [fitsTwoB, *]), HB.out⟩
    · have o19b : (op == 19) = false := beq_eq_false_iff_ne.2 o19
      by_cases o20 : op = 20
      · subst o20
        by_cases h17 : k = 7
        · subst h17
          by_cases h18 : ka = 7
          · subst h18
            by_cases h19 : kb = 6
            · subst h19
              go_wp2_with (first | (go_at_call 46; (first | (with_reducible refine (cGk _).mono ?_) | (with_reducible refine (cGa _).mono ?_)); rintro e w' ⟨rfl, rfl⟩) | (go_at_call 49; (first | (with_reducible refine (cKk _).mono ?_) | (with_reducible refine (cKa _).mono ?_)); rintro e w' ⟨rfl, rfl⟩))
              go_ret
              exact ⟨ret_b (by rw [hR]; simp [fitsTwoB, *]), HB.out⟩
            · have h19b : (kb == 6) = false := beq_eq_false_iff_ne.2 h19
              go_wp2_with (first | (go_at_call 46; (first | (with_reducible refine (cGk _).mono ?_) | (with_reducible refine (cGa _).mono ?_)); rintro e w' ⟨rfl, rfl⟩) | (go_at_call 49; (first | (with_reducible refine (cKk _).mono ?_) | (with_reducible refine (cKa _).mono ?_)); rintro e w' ⟨rfl, rfl⟩))
              go_ret
              exact ⟨ret_b (by rw [hR]; simp [fitsTwoB, *]), HB.out⟩
          · have h18b : (ka == 7) = false := beq_eq_false_iff_ne.2 h18
            go_wp2_with (first | (go_at_call 46; (first | (with_reducible refine (cGk _).mono ?_) | (with_reducible refine (cGa _).mono ?_)); rintro e w' ⟨rfl, rfl⟩) | (go_at_call 49; (first | (with_reducible refine (cKk _).mono ?_) | (with_reducible refine (cKa _).mono ?_)); rintro e w' ⟨rfl, rfl⟩))
            go_ret
            exact ⟨ret_b (by rw [hR]; simp [fitsTwoB, *]), HB.out⟩
        · have h17b : (k == 7) = false := beq_eq_false_iff_ne.2 h17
          go_wp2_with (first | (go_at_call 46; (first | (with_reducible refine (cGk _).mono ?_) | (with_reducible refine (cGa _).mono ?_)); rintro e w' ⟨rfl, rfl⟩) | (go_at_call 49; (first | (with_reducible refine (cKk _).mono ?_) | (with_reducible refine (cKa _).mono ?_)); rintro e w' ⟨rfl, rfl⟩))
          go_ret
          exact ⟨ret_b (by rw [hR]; simp [fitsTwoB, *]), HB.out⟩
      · have o20b : (op == 20) = false := beq_eq_false_iff_ne.2 o20
        by_cases o21 : op = 21
        · subst o21
          by_cases h20 : k = 6
          · subst h20
            by_cases h21 : ka = 7
            · subst h21
              by_cases h22 : kb = 7
              · subst h22
                go_wp2_with (first | (go_at_call 46; (first | (with_reducible refine (cGk _).mono ?_) | (with_reducible refine (cGa _).mono ?_)); rintro e w' ⟨rfl, rfl⟩) | (go_at_call 49; (first | (with_reducible refine (cKk _).mono ?_) | (with_reducible refine (cKa _).mono ?_)); rintro e w' ⟨rfl, rfl⟩))
                go_ret
                exact ⟨ret_b (by rw [hR]; simp [fitsTwoB, *]), HB.out⟩
              · have h22b : (kb == 7) = false := beq_eq_false_iff_ne.2 h22
                go_wp2_with (first | (go_at_call 46; (first | (with_reducible refine (cGk _).mono ?_) | (with_reducible refine (cGa _).mono ?_)); rintro e w' ⟨rfl, rfl⟩) | (go_at_call 49; (first | (with_reducible refine (cKk _).mono ?_) | (with_reducible refine (cKa _).mono ?_)); rintro e w' ⟨rfl, rfl⟩))
                go_ret
                exact ⟨ret_b (by rw [hR]; simp [fitsTwoB, *]), HB.out⟩
            · have h21b : (ka == 7) = false := beq_eq_false_iff_ne.2 h21
              go_wp2_with (first | (go_at_call 46; (first | (with_reducible refine (cGk _).mono ?_) | (with_reducible refine (cGa _).mono ?_)); rintro e w' ⟨rfl, rfl⟩) | (go_at_call 49; (first | (with_reducible refine (cKk _).mono ?_) | (with_reducible refine (cKa _).mono ?_)); rintro e w' ⟨rfl, rfl⟩))
              go_ret
              exact ⟨ret_b (by rw [hR]; simp [fitsTwoB, *]), HB.out⟩
          · have h20b : (k == 6) = false := beq_eq_false_iff_ne.2 h20
            go_wp2_with (first | (go_at_call 46; (first | (with_reducible refine (cGk _).mono ?_) | (with_reducible refine (cGa _).mono ?_)); rintro e w' ⟨rfl, rfl⟩) | (go_at_call 49; (first | (with_reducible refine (cKk _).mono ?_) | (with_reducible refine (cKa _).mono ?_)); rintro e w' ⟨rfl, rfl⟩))
            go_ret
            exact ⟨ret_b (by rw [hR]; simp [fitsTwoB, *]), HB.out⟩
        · have o21b : (op == 21) = false := beq_eq_false_iff_ne.2 o21
          by_cases o22 : op = 22
          · subst o22
            by_cases h23 : k = 6
            · subst h23
              by_cases h24 : ka = 7
              · subst h24
                by_cases h25 : kb = 7
                · subst h25
                  go_wp2_with (first | (go_at_call 46; (first | (with_reducible refine (cGk _).mono ?_) | (with_reducible refine (cGa _).mono ?_)); rintro e w' ⟨rfl, rfl⟩) | (go_at_call 49; (first | (with_reducible refine (cKk _).mono ?_) | (with_reducible refine (cKa _).mono ?_)); rintro e w' ⟨rfl, rfl⟩))
                  go_ret
                  exact ⟨ret_b (by rw [hR]; simp [fitsTwoB, *]), HB.out⟩
                · have h25b : (kb == 7) = false := beq_eq_false_iff_ne.2 h25
                  go_wp2_with (first | (go_at_call 46; (first | (with_reducible refine (cGk _).mono ?_) | (with_reducible refine (cGa _).mono ?_)); rintro e w' ⟨rfl, rfl⟩) | (go_at_call 49; (first | (with_reducible refine (cKk _).mono ?_) | (with_reducible refine (cKa _).mono ?_)); rintro e w' ⟨rfl, rfl⟩))
                  go_ret
                  exact ⟨ret_b (by rw [hR]; simp [fitsTwoB, *]), HB.out⟩
              · have h24b : (ka == 7) = false := beq_eq_false_iff_ne.2 h24
                go_wp2_with (first | (go_at_call 46; (first | (with_reducible refine (cGk _).mono ?_) | (with_reducible refine (cGa _).mono ?_)); rintro e w' ⟨rfl, rfl⟩) | (go_at_call 49; (first | (with_reducible refine (cKk _).mono ?_) | (with_reducible refine (cKa _).mono ?_)); rintro e w' ⟨rfl, rfl⟩))
                go_ret
                exact ⟨ret_b (by rw [hR]; simp [fitsTwoB, *]), HB.out⟩
            · have h23b : (k == 6) = false := beq_eq_false_iff_ne.2 h23
              go_wp2_with (first | (go_at_call 46; (first | (with_reducible refine (cGk _).mono ?_) | (with_reducible refine (cGa _).mono ?_)); rintro e w' ⟨rfl, rfl⟩) | (go_at_call 49; (first | (with_reducible refine (cKk _).mono ?_) | (with_reducible refine (cKa _).mono ?_)); rintro e w' ⟨rfl, rfl⟩))
              go_ret
              exact ⟨ret_b (by rw [hR]; simp [fitsTwoB, *]), HB.out⟩
          · have o22b : (op == 22) = false := beq_eq_false_iff_ne.2 o22
            cases h26 : gN k
            · rw [h26] at cGk
              go_wp2_with (first | (go_at_call 46; (first | (with_reducible refine (cGk _).mono ?_) | (with_reducible refine (cGa _).mono ?_)); rintro e w' ⟨rfl, rfl⟩) | (go_at_call 49; (first | (with_reducible refine (cKk _).mono ?_) | (with_reducible refine (cKa _).mono ?_)); rintro e w' ⟨rfl, rfl⟩))
              go_ret
              exact ⟨ret_b (by rw [hR]; simp [fitsTwoB, *]), HB.out⟩
            · rw [h26] at cGk
              by_cases h27 : ka = k
              · subst h27
                by_cases h28 : kb = ka
                · subst h28
                  go_wp2_with (first | (go_at_call 46; (first | (with_reducible refine (cGk _).mono ?_) | (with_reducible refine (cGa _).mono ?_)); rintro e w' ⟨rfl, rfl⟩) | (go_at_call 49; (first | (with_reducible refine (cKk _).mono ?_) | (with_reducible refine (cKa _).mono ?_)); rintro e w' ⟨rfl, rfl⟩))
                  go_ret
                  exact ⟨ret_b (by rw [hR]; simp [fitsTwoB, *]), HB.out⟩
                · have h28b : (kb == ka) = false := beq_eq_false_iff_ne.2 h28
                  go_wp2_with (first | (go_at_call 46; (first | (with_reducible refine (cGk _).mono ?_) | (with_reducible refine (cGa _).mono ?_)); rintro e w' ⟨rfl, rfl⟩) | (go_at_call 49; (first | (with_reducible refine (cKk _).mono ?_) | (with_reducible refine (cKa _).mono ?_)); rintro e w' ⟨rfl, rfl⟩))
                  go_ret
                  exact ⟨ret_b (by rw [hR]; simp [fitsTwoB, *]), HB.out⟩
              · have h27b : (ka == k) = false := beq_eq_false_iff_ne.2 h27
                go_wp2_with (first | (go_at_call 46; (first | (with_reducible refine (cGk _).mono ?_) | (with_reducible refine (cGa _).mono ?_)); rintro e w' ⟨rfl, rfl⟩) | (go_at_call 49; (first | (with_reducible refine (cKk _).mono ?_) | (with_reducible refine (cKa _).mono ?_)); rintro e w' ⟨rfl, rfl⟩))
                go_ret
                exact ⟨ret_b (by rw [hR]; simp [fitsTwoB, *]), HB.out⟩
end Go.Proofs.YtncdbjflfhfddaaGreat
