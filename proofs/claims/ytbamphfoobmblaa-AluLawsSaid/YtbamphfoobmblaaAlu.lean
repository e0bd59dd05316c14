/- Package alu: what each operator tells. -/
import Derived.Test.YtbamphfoobmblaaMeth
namespace Go.Proofs.Ytbamphfoobmblaa
open Go.ChangeShapes Go.WideShapes Go.ChangeAt Go.RowKit Go.Joins Go.Deep
set_option linter.unusedVariables false

theorem compare_18 (b : Nat) (W : Int) (sg : Bool) (a c : Int) (hW : isW W) (ha : isN a W) (hc : isN c W) (w : World) (h : NumAt w b W sg a c 0 0 0 0 0) :
    Calls Try.prog 65 #[.pointer (some ⟨b, 0, none⟩), .int .i64 18] w (OneIn b W sg a c 1 0 (viewOf sg a W) (viewOf sg c W) 0 (truthI (decide ((viewOf sg a W) = (viewOf sg c W)))) w) := by
  go_enter Try.func65, Try.ntmps65
  go_wp2_with (first | (go_at_call 41; refine (views_any b W sg a c 0 hW ha hc _ h).mono ?_; rintro e w1 ⟨rfl, m1, m2⟩) | (go_at_call 68; refine (atruth_any _ _).mono ?_; rintro e w' ⟨rfl, rfl⟩))
  go_ret
  exact ⟨rfl, m1, m2⟩
theorem compare_19 (b : Nat) (W : Int) (sg : Bool) (a c : Int) (hW : isW W) (ha : isN a W) (hc : isN c W) (w : World) (h : NumAt w b W sg a c 0 0 0 0 0) :
    Calls Try.prog 65 #[.pointer (some ⟨b, 0, none⟩), .int .i64 19] w (OneIn b W sg a c 1 0 (viewOf sg a W) (viewOf sg c W) 0 (truthI (decide ((viewOf sg a W) < (viewOf sg c W)))) w) := by
  go_enter Try.func65, Try.ntmps65
  go_wp2_with (first | (go_at_call 41; refine (views_any b W sg a c 0 hW ha hc _ h).mono ?_; rintro e w1 ⟨rfl, m1, m2⟩) | (go_at_call 68; refine (atruth_any _ _).mono ?_; rintro e w' ⟨rfl, rfl⟩))
  go_ret
  exact ⟨rfl, m1, m2⟩
theorem mix_13 (b : Nat) (W : Int) (sg : Bool) (a c : Int) (w : World) (h : NumAt w b W sg a c 0 0 0 0 0) :
    Calls Try.prog 66 #[.pointer (some ⟨b, 0, none⟩), .int .i64 13] w (OneIn b W sg a c 0 0 0 0 0 (bits .and .i64 a c) w) := by
  have c2 := h.c2
  have c3 := h.c3
  go_enter Try.func66, Try.ntmps66
  go_wp2
  go_quiet (fail)
  go_wp2
  go_ret
  exact ⟨rfl, h, Joins.below_draws _ _ _⟩
theorem mix_14 (b : Nat) (W : Int) (sg : Bool) (a c : Int) (w : World) (h : NumAt w b W sg a c 0 0 0 0 0) :
    Calls Try.prog 66 #[.pointer (some ⟨b, 0, none⟩), .int .i64 14] w (OneIn b W sg a c 0 0 0 0 0 (bits .or .i64 a c) w) := by
  have c2 := h.c2
  have c3 := h.c3
  go_enter Try.func66, Try.ntmps66
  go_wp2
  go_quiet (fail)
  go_wp2
  go_ret
  exact ⟨rfl, h, Joins.below_draws _ _ _⟩
theorem mix_15 (b : Nat) (W : Int) (sg : Bool) (a c : Int) (w : World) (h : NumAt w b W sg a c 0 0 0 0 0) :
    Calls Try.prog 66 #[.pointer (some ⟨b, 0, none⟩), .int .i64 15] w (OneIn b W sg a c 0 0 0 0 0 (bits .xor .i64 a c) w) := by
  have c2 := h.c2
  have c3 := h.c3
  go_enter Try.func66, Try.ntmps66
  go_wp2
  go_quiet (fail)
  go_wp2
  go_ret
  exact ⟨rfl, h, Joins.below_draws _ _ _⟩
theorem shift_16_y (b : Nat) (W : Int) (sg : Bool) (a c : Int) (hW : isW W) (ha : isN a W) (hc : isN c W) (w : World) (h : NumAt w b W sg a c 0 0 0 0 0) (hv : 0 ≤ (viewOf sg c W) ∧ (viewOf sg c W) < W) :
    Calls Try.prog 64 #[.pointer (some ⟨b, 0, none⟩), .int .i64 16] w (OneIn b W sg a c 1 0 (viewOf sg a W) (viewOf sg c W) 0 (wrapI (wrap64 (a * 2 ^ ((viewOf sg c W)).toNat)) W) w) := by
  obtain ⟨hv1, hv2⟩ := hv
  have hw32 : W ≤ 32 := by rcases hW with h | h | h <;> omega
  have g1 : decide ((viewOf sg c W) < 0) = false := by simp; omega
  have g2 : decide (W ≤ (viewOf sg c W)) = false := by simp; omega
  go_enter Try.func64, Try.ntmps64
  go_wp2_with (first | (go_at_call 41; refine (views_any b W sg a c 0 hW ha hc _ h).mono ?_; rintro e w1 ⟨rfl, m1, m2⟩; have d0 := m1.c0; have d2 := m1.c2) | (go_at_call 67; refine (wrap_any b W sg a c 1 0 _ _ 0 _ hW _ m1).mono ?_; rintro e w' ⟨rfl, rfl⟩))
  go_ret
  exact ⟨rfl, m1, m2⟩
theorem shift_16_n (b : Nat) (W : Int) (sg : Bool) (a c : Int) (hW : isW W) (ha : isN a W) (hc : isN c W) (w : World) (h : NumAt w b W sg a c 0 0 0 0 0) (hv : ¬ (0 ≤ (viewOf sg c W) ∧ (viewOf sg c W) < W)) :
    Calls Try.prog 64 #[.pointer (some ⟨b, 0, none⟩), .int .i64 16] w (OneIn b W sg a c 1 0 (viewOf sg a W) (viewOf sg c W) 5 0 w) := by
  have hw32 : W ≤ 32 := by rcases hW with h | h | h <;> omega
  by_cases h0 : (viewOf sg c W) < 0
  · go_enter Try.func64, Try.ntmps64
    go_wp2_with (first | (go_at_call 41; refine (views_any b W sg a c 0 hW ha hc _ h).mono ?_; rintro e w1 ⟨rfl, m1, m2⟩; have d0 := m1.c0; have d2 := m1.c2) | (go_at_call 75; refine (goesWrong_any b W sg a c 1 0 _ _ 5 _ m1).mono ?_; rintro e w2 ⟨rfl, n1, n2⟩))
    go_ret
    exact ⟨rfl, n1, m2.trans n2⟩
  · have g1 : decide ((viewOf sg c W) < 0) = false := by simp; omega
    have g2 : decide (W ≤ (viewOf sg c W)) = true := by simp; omega
    go_enter Try.func64, Try.ntmps64
    go_wp2_with (first | (go_at_call 41; refine (views_any b W sg a c 0 hW ha hc _ h).mono ?_; rintro e w1 ⟨rfl, m1, m2⟩; have d0 := m1.c0; have d2 := m1.c2) | (go_at_call 75; refine (goesWrong_any b W sg a c 1 0 _ _ 5 _ m1).mono ?_; rintro e w2 ⟨rfl, n1, n2⟩))
    go_ret
    exact ⟨rfl, n1, m2.trans n2⟩
theorem shift_17_y (b : Nat) (W : Int) (sg : Bool) (a c : Int) (hW : isW W) (ha : isN a W) (hc : isN c W) (w : World) (h : NumAt w b W sg a c 0 0 0 0 0) (hv : 0 ≤ (viewOf sg c W) ∧ (viewOf sg c W) < W) :
    Calls Try.prog 64 #[.pointer (some ⟨b, 0, none⟩), .int .i64 17] w (OneIn b W sg a c 1 0 (viewOf sg a W) (viewOf sg c W) 0 (wrapI ((viewOf sg a W) / 2 ^ ((viewOf sg c W)).toNat) W) w) := by
  obtain ⟨hv1, hv2⟩ := hv
  have hw32 : W ≤ 32 := by rcases hW with h | h | h <;> omega
  have g1 : decide ((viewOf sg c W) < 0) = false := by simp; omega
  have g2 : decide (W ≤ (viewOf sg c W)) = false := by simp; omega
  go_enter Try.func64, Try.ntmps64
  go_wp2_with (first | (go_at_call 41; refine (views_any b W sg a c 0 hW ha hc _ h).mono ?_; rintro e w1 ⟨rfl, m1, m2⟩; have d0 := m1.c0; have d2 := m1.c2) | (go_at_call 67; refine (wrap_any b W sg a c 1 0 _ _ 0 _ hW _ m1).mono ?_; rintro e w' ⟨rfl, rfl⟩))
  go_ret
  exact ⟨rfl, m1, m2⟩
theorem shift_17_n (b : Nat) (W : Int) (sg : Bool) (a c : Int) (hW : isW W) (ha : isN a W) (hc : isN c W) (w : World) (h : NumAt w b W sg a c 0 0 0 0 0) (hv : ¬ (0 ≤ (viewOf sg c W) ∧ (viewOf sg c W) < W)) :
    Calls Try.prog 64 #[.pointer (some ⟨b, 0, none⟩), .int .i64 17] w (OneIn b W sg a c 1 0 (viewOf sg a W) (viewOf sg c W) 5 0 w) := by
  have hw32 : W ≤ 32 := by rcases hW with h | h | h <;> omega
  by_cases h0 : (viewOf sg c W) < 0
  · go_enter Try.func64, Try.ntmps64
    go_wp2_with (first | (go_at_call 41; refine (views_any b W sg a c 0 hW ha hc _ h).mono ?_; rintro e w1 ⟨rfl, m1, m2⟩; have d0 := m1.c0; have d2 := m1.c2) | (go_at_call 75; refine (goesWrong_any b W sg a c 1 0 _ _ 5 _ m1).mono ?_; rintro e w2 ⟨rfl, n1, n2⟩))
    go_ret
    exact ⟨rfl, n1, m2.trans n2⟩
  · have g1 : decide ((viewOf sg c W) < 0) = false := by simp; omega
    have g2 : decide (W ≤ (viewOf sg c W)) = true := by simp; omega
    go_enter Try.func64, Try.ntmps64
    go_wp2_with (first | (go_at_call 41; refine (views_any b W sg a c 0 hW ha hc _ h).mono ?_; rintro e w1 ⟨rfl, m1, m2⟩; have d0 := m1.c0; have d2 := m1.c2) | (go_at_call 75; refine (goesWrong_any b W sg a c 1 0 _ _ 5 _ m1).mono ?_; rintro e w2 ⟨rfl, n1, n2⟩))
    go_ret
    exact ⟨rfl, n1, m2.trans n2⟩
theorem divide_11_z (b : Nat) (W : Int) (sg : Bool) (a c : Int) (hW : isW W) (ha : isN a W) (hc : isN c W) (w : World) (h : NumAt w b W sg a c 0 0 0 0 0) (hv : (viewOf sg c W) = 0) :
    Calls Try.prog 63 #[.pointer (some ⟨b, 0, none⟩), .int .i64 11] w (OneIn b W sg a c 1 0 (viewOf sg a W) (viewOf sg c W) 6 0 w) := by
  obtain ⟨u0, u1⟩ := viewOf_bd sg hW ha
  obtain ⟨v0, v1⟩ := viewOf_bd sg hW hc
  have cv := views_any b W sg a c 0 hW ha hc _ h
  unfold ViewsPost at cv
  generalize viewOf sg a W = u at *
  generalize viewOf sg c W = v at *
  subst hv
  have hW' := hW
  rcases hW' with rfl | rfl | rfl
  all_goals
    cases sg
    all_goals
      clear ha hc
      go_enter Try.func63, Try.ntmps63
      go_wp2_with (first | (go_at_call 41; refine cv.mono ?_; rintro e w1 ⟨rfl, m1, m2⟩; have d0 := m1.c0; have d1 := m1.c1) | (go_at_call 75; refine (goesWrong_any _ _ _ _ _ 1 0 _ _ 6 _ m1).mono ?_; rintro e w2 ⟨rfl, n1, n2⟩; have d0' := n1.c0; have d1' := n1.c1) | (go_at_call 60; refine (wentWrong_yes _ _ _ _ _ 1 0 _ _ 6 (by decide) _ n1).mono ?_; rintro e w' ⟨rfl, rfl⟩))
      all_goals (go_ret; exact ⟨rfl, n1, m2.trans n2⟩)
theorem divide_11_u (b : Nat) (W : Int) (sg : Bool) (a c : Int) (hW : isW W) (ha : isN a W) (hc : isN c W) (w : World) (h : NumAt w b W sg a c 0 0 0 0 0) (hv : ¬ (viewOf sg c W) = 0) (hs : sg = false) :
    Calls Try.prog 63 #[.pointer (some ⟨b, 0, none⟩), .int .i64 11] w (OneIn b W sg a c 1 0 (viewOf sg a W) (viewOf sg c W) 0 (wrapI (wrap64 ((viewOf sg a W).tdiv (viewOf sg c W))) W) w) := by
  obtain ⟨u0, u1⟩ := viewOf_bd sg hW ha
  obtain ⟨v0, v1⟩ := viewOf_bd sg hW hc
  have cv := views_any b W sg a c 0 hW ha hc _ h
  unfold ViewsPost at cv
  generalize viewOf sg a W = u at *
  generalize viewOf sg c W = v at *
  have g3 : (v == 0) = false := by simp; omega
  subst hs
  clear ha hc
  go_enter Try.func63, Try.ntmps63
  go_wp2_with (first | (go_at_call 41; refine cv.mono ?_; rintro e w1 ⟨rfl, m1, m2⟩; have d0 := m1.c0; have d1 := m1.c1) | (go_at_call 60; refine (wentWrong_no _ _ _ _ _ 1 0 _ _ _ m1).mono ?_; rintro e w' ⟨rfl, rfl⟩) | (go_at_call 67; refine (wrap_any _ _ _ _ _ 1 0 _ _ 0 _ hW _ m1).mono ?_; rintro e w' ⟨rfl, rfl⟩))
  all_goals (go_ret; exact ⟨rfl, m1, m2⟩)
theorem divide_11_a (b : Nat) (W : Int) (sg : Bool) (a c : Int) (hW : isW W) (ha : isN a W) (hc : isN c W) (w : World) (h : NumAt w b W sg a c 0 0 0 0 0) (hv : ¬ (viewOf sg c W) = 0) (hs : sg = true) (hu : ¬ (viewOf sg a W) = -(2 ^ (W.toNat - 1))) :
    Calls Try.prog 63 #[.pointer (some ⟨b, 0, none⟩), .int .i64 11] w (OneIn b W sg a c 1 0 (viewOf sg a W) (viewOf sg c W) 0 (wrapI (wrap64 ((viewOf sg a W).tdiv (viewOf sg c W))) W) w) := by
  obtain ⟨u0, u1⟩ := viewOf_bd sg hW ha
  obtain ⟨v0, v1⟩ := viewOf_bd sg hW hc
  have cv := views_any b W sg a c 0 hW ha hc _ h
  unfold ViewsPost at cv
  generalize viewOf sg a W = u at *
  generalize viewOf sg c W = v at *
  have g3 : (v == 0) = false := by simp; omega
  subst hs
  have hW' := hW
  rcases hW' with rfl | rfl | rfl
  all_goals
    simp only [Int.reduceToNat, Nat.reduceSub, Int.reducePow] at hu
    first | (have g1 : (u == -128) = false := by simp; omega) | skip
    first | (have g4 : (u == -32768) = false := by simp; omega) | skip
    first | (have g5 : (u == -2147483648) = false := by simp; omega) | skip
    clear ha hc
    go_enter Try.func63, Try.ntmps63
    go_wp2_with (first | (go_at_call 41; refine cv.mono ?_; rintro e w1 ⟨rfl, m1, m2⟩; have d0 := m1.c0; have d1 := m1.c1) | (go_at_call 60; refine (wentWrong_no _ _ _ _ _ 1 0 _ _ _ m1).mono ?_; rintro e w' ⟨rfl, rfl⟩) | (go_at_call 67; refine (wrap_any _ _ _ _ _ 1 0 _ _ 0 _ hW _ m1).mono ?_; rintro e w' ⟨rfl, rfl⟩))
    all_goals (go_ret; exact ⟨rfl, m1, m2⟩)
theorem divide_11_b (b : Nat) (W : Int) (sg : Bool) (a c : Int) (hW : isW W) (ha : isN a W) (hc : isN c W) (w : World) (h : NumAt w b W sg a c 0 0 0 0 0) (hv : ¬ (viewOf sg c W) = 0) (hs : sg = true) (hu : (viewOf sg a W) = -(2 ^ (W.toNat - 1))) (hm : ¬ (viewOf sg c W) = -1) :
    Calls Try.prog 63 #[.pointer (some ⟨b, 0, none⟩), .int .i64 11] w (OneIn b W sg a c 1 0 (viewOf sg a W) (viewOf sg c W) 0 (wrapI (wrap64 ((viewOf sg a W).tdiv (viewOf sg c W))) W) w) := by
  obtain ⟨u0, u1⟩ := viewOf_bd sg hW ha
  obtain ⟨v0, v1⟩ := viewOf_bd sg hW hc
  have cv := views_any b W sg a c 0 hW ha hc _ h
  unfold ViewsPost at cv
  generalize viewOf sg a W = u at *
  generalize viewOf sg c W = v at *
  have g3 : (v == 0) = false := by simp; omega
  subst hs
  have hW' := hW
  rcases hW' with rfl | rfl | rfl
  all_goals
    simp only [Int.reduceToNat, Nat.reduceSub, Int.reducePow] at hu
    first | (have g1 : (u == -128) = true := by simp; omega) | skip
    first | (have g4 : (u == -32768) = true := by simp; omega) | skip
    first | (have g5 : (u == -2147483648) = true := by simp; omega) | skip
    clear hu
    have g2 : (v == -1) = false := by simp; omega
    clear hm
    clear ha hc
    go_enter Try.func63, Try.ntmps63
    go_wp2_with (first | (go_at_call 41; refine cv.mono ?_; rintro e w1 ⟨rfl, m1, m2⟩; have d0 := m1.c0; have d1 := m1.c1) | (go_at_call 60; refine (wentWrong_no _ _ _ _ _ 1 0 _ _ _ m1).mono ?_; rintro e w' ⟨rfl, rfl⟩) | (go_at_call 67; refine (wrap_any _ _ _ _ _ 1 0 _ _ 0 _ hW _ m1).mono ?_; rintro e w' ⟨rfl, rfl⟩))
    all_goals (go_ret; exact ⟨rfl, m1, m2⟩)
theorem divide_11_o (b : Nat) (W : Int) (sg : Bool) (a c : Int) (hW : isW W) (ha : isN a W) (hc : isN c W) (w : World) (h : NumAt w b W sg a c 0 0 0 0 0) (hv : ¬ (viewOf sg c W) = 0) (hs : sg = true) (hu : (viewOf sg a W) = -(2 ^ (W.toNat - 1))) (hm : (viewOf sg c W) = -1) :
    Calls Try.prog 63 #[.pointer (some ⟨b, 0, none⟩), .int .i64 11] w (OneIn b W sg a c 1 0 (viewOf sg a W) (viewOf sg c W) 4 0 w) := by
  obtain ⟨u0, u1⟩ := viewOf_bd sg hW ha
  obtain ⟨v0, v1⟩ := viewOf_bd sg hW hc
  have cv := views_any b W sg a c 0 hW ha hc _ h
  unfold ViewsPost at cv
  generalize viewOf sg a W = u at *
  generalize viewOf sg c W = v at *
  have g3 : (v == 0) = false := by simp; omega
  subst hs
  have hW' := hW
  rcases hW' with rfl | rfl | rfl
  all_goals
    simp only [Int.reduceToNat, Nat.reduceSub, Int.reducePow] at hu
    first | (have g1 : (u == -128) = true := by simp; omega) | skip
    first | (have g4 : (u == -32768) = true := by simp; omega) | skip
    first | (have g5 : (u == -2147483648) = true := by simp; omega) | skip
    clear hu
    have g2 : (v == -1) = true := by simp; omega
    clear hm
    clear ha hc
    go_enter Try.func63, Try.ntmps63
    go_wp2_with (first | (go_at_call 41; refine cv.mono ?_; rintro e w1 ⟨rfl, m1, m2⟩; have d0 := m1.c0; have d1 := m1.c1) | (go_at_call 75; refine (goesWrong_any _ _ _ _ _ 1 0 _ _ 4 _ m1).mono ?_; rintro e w2 ⟨rfl, n1, n2⟩) | (go_at_call 60; refine (wentWrong_yes _ _ _ _ _ 1 0 _ _ 4 (by decide) _ n1).mono ?_; rintro e w' ⟨rfl, rfl⟩))
    all_goals (go_ret; exact ⟨rfl, n1, m2.trans n2⟩)
theorem divide_12_z (b : Nat) (W : Int) (sg : Bool) (a c : Int) (hW : isW W) (ha : isN a W) (hc : isN c W) (w : World) (h : NumAt w b W sg a c 0 0 0 0 0) (hv : (viewOf sg c W) = 0) :
    Calls Try.prog 63 #[.pointer (some ⟨b, 0, none⟩), .int .i64 12] w (OneIn b W sg a c 1 0 (viewOf sg a W) (viewOf sg c W) 6 0 w) := by
  obtain ⟨u0, u1⟩ := viewOf_bd sg hW ha
  obtain ⟨v0, v1⟩ := viewOf_bd sg hW hc
  have cv := views_any b W sg a c 0 hW ha hc _ h
  unfold ViewsPost at cv
  generalize viewOf sg a W = u at *
  generalize viewOf sg c W = v at *
  subst hv
  have hW' := hW
  rcases hW' with rfl | rfl | rfl
  all_goals
    cases sg
    all_goals
      clear ha hc
      go_enter Try.func63, Try.ntmps63
      go_wp2_with (first | (go_at_call 41; refine cv.mono ?_; rintro e w1 ⟨rfl, m1, m2⟩; have d0 := m1.c0; have d1 := m1.c1) | (go_at_call 75; refine (goesWrong_any _ _ _ _ _ 1 0 _ _ 6 _ m1).mono ?_; rintro e w2 ⟨rfl, n1, n2⟩; have d0' := n1.c0; have d1' := n1.c1) | (go_at_call 60; refine (wentWrong_yes _ _ _ _ _ 1 0 _ _ 6 (by decide) _ n1).mono ?_; rintro e w' ⟨rfl, rfl⟩))
      all_goals (go_ret; exact ⟨rfl, n1, m2.trans n2⟩)
theorem divide_12_u (b : Nat) (W : Int) (sg : Bool) (a c : Int) (hW : isW W) (ha : isN a W) (hc : isN c W) (w : World) (h : NumAt w b W sg a c 0 0 0 0 0) (hv : ¬ (viewOf sg c W) = 0) (hs : sg = false) :
    Calls Try.prog 63 #[.pointer (some ⟨b, 0, none⟩), .int .i64 12] w (OneIn b W sg a c 1 0 (viewOf sg a W) (viewOf sg c W) 0 (wrapI ((viewOf sg a W).tmod (viewOf sg c W)) W) w) := by
  obtain ⟨u0, u1⟩ := viewOf_bd sg hW ha
  obtain ⟨v0, v1⟩ := viewOf_bd sg hW hc
  have cv := views_any b W sg a c 0 hW ha hc _ h
  unfold ViewsPost at cv
  generalize viewOf sg a W = u at *
  generalize viewOf sg c W = v at *
  have g3 : (v == 0) = false := by simp; omega
  subst hs
  clear ha hc
  go_enter Try.func63, Try.ntmps63
  go_wp2_with (first | (go_at_call 41; refine cv.mono ?_; rintro e w1 ⟨rfl, m1, m2⟩; have d0 := m1.c0; have d1 := m1.c1) | (go_at_call 60; refine (wentWrong_no _ _ _ _ _ 1 0 _ _ _ m1).mono ?_; rintro e w' ⟨rfl, rfl⟩) | (go_at_call 67; refine (wrap_any _ _ _ _ _ 1 0 _ _ 0 _ hW _ m1).mono ?_; rintro e w' ⟨rfl, rfl⟩))
  all_goals (go_ret; exact ⟨rfl, m1, m2⟩)
theorem divide_12_a (b : Nat) (W : Int) (sg : Bool) (a c : Int) (hW : isW W) (ha : isN a W) (hc : isN c W) (w : World) (h : NumAt w b W sg a c 0 0 0 0 0) (hv : ¬ (viewOf sg c W) = 0) (hs : sg = true) (hu : ¬ (viewOf sg a W) = -(2 ^ (W.toNat - 1))) :
    Calls Try.prog 63 #[.pointer (some ⟨b, 0, none⟩), .int .i64 12] w (OneIn b W sg a c 1 0 (viewOf sg a W) (viewOf sg c W) 0 (wrapI ((viewOf sg a W).tmod (viewOf sg c W)) W) w) := by
  obtain ⟨u0, u1⟩ := viewOf_bd sg hW ha
  obtain ⟨v0, v1⟩ := viewOf_bd sg hW hc
  have cv := views_any b W sg a c 0 hW ha hc _ h
  unfold ViewsPost at cv
  generalize viewOf sg a W = u at *
  generalize viewOf sg c W = v at *
  have g3 : (v == 0) = false := by simp; omega
  subst hs
  have hW' := hW
  rcases hW' with rfl | rfl | rfl
  all_goals
    simp only [Int.reduceToNat, Nat.reduceSub, Int.reducePow] at hu
    first | (have g1 : (u == -128) = false := by simp; omega) | skip
    first | (have g4 : (u == -32768) = false := by simp; omega) | skip
    first | (have g5 : (u == -2147483648) = false := by simp; omega) | skip
    clear ha hc
    go_enter Try.func63, Try.ntmps63
    go_wp2_with (first | (go_at_call 41; refine cv.mono ?_; rintro e w1 ⟨rfl, m1, m2⟩; have d0 := m1.c0; have d1 := m1.c1) | (go_at_call 60; refine (wentWrong_no _ _ _ _ _ 1 0 _ _ _ m1).mono ?_; rintro e w' ⟨rfl, rfl⟩) | (go_at_call 67; refine (wrap_any _ _ _ _ _ 1 0 _ _ 0 _ hW _ m1).mono ?_; rintro e w' ⟨rfl, rfl⟩))
    all_goals (go_ret; exact ⟨rfl, m1, m2⟩)
theorem divide_12_b (b : Nat) (W : Int) (sg : Bool) (a c : Int) (hW : isW W) (ha : isN a W) (hc : isN c W) (w : World) (h : NumAt w b W sg a c 0 0 0 0 0) (hv : ¬ (viewOf sg c W) = 0) (hs : sg = true) (hu : (viewOf sg a W) = -(2 ^ (W.toNat - 1))) (hm : ¬ (viewOf sg c W) = -1) :
    Calls Try.prog 63 #[.pointer (some ⟨b, 0, none⟩), .int .i64 12] w (OneIn b W sg a c 1 0 (viewOf sg a W) (viewOf sg c W) 0 (wrapI ((viewOf sg a W).tmod (viewOf sg c W)) W) w) := by
  obtain ⟨u0, u1⟩ := viewOf_bd sg hW ha
  obtain ⟨v0, v1⟩ := viewOf_bd sg hW hc
  have cv := views_any b W sg a c 0 hW ha hc _ h
  unfold ViewsPost at cv
  generalize viewOf sg a W = u at *
  generalize viewOf sg c W = v at *
  have g3 : (v == 0) = false := by simp; omega
  subst hs
  have hW' := hW
  rcases hW' with rfl | rfl | rfl
  all_goals
    simp only [Int.reduceToNat, Nat.reduceSub, Int.reducePow] at hu
    first | (have g1 : (u == -128) = true := by simp; omega) | skip
    first | (have g4 : (u == -32768) = true := by simp; omega) | skip
    first | (have g5 : (u == -2147483648) = true := by simp; omega) | skip
    clear hu
    have g2 : (v == -1) = false := by simp; omega
    clear hm
    clear ha hc
    go_enter Try.func63, Try.ntmps63
    go_wp2_with (first | (go_at_call 41; refine cv.mono ?_; rintro e w1 ⟨rfl, m1, m2⟩; have d0 := m1.c0; have d1 := m1.c1) | (go_at_call 60; refine (wentWrong_no _ _ _ _ _ 1 0 _ _ _ m1).mono ?_; rintro e w' ⟨rfl, rfl⟩) | (go_at_call 67; refine (wrap_any _ _ _ _ _ 1 0 _ _ 0 _ hW _ m1).mono ?_; rintro e w' ⟨rfl, rfl⟩))
    all_goals (go_ret; exact ⟨rfl, m1, m2⟩)
theorem divide_12_o (b : Nat) (W : Int) (sg : Bool) (a c : Int) (hW : isW W) (ha : isN a W) (hc : isN c W) (w : World) (h : NumAt w b W sg a c 0 0 0 0 0) (hv : ¬ (viewOf sg c W) = 0) (hs : sg = true) (hu : (viewOf sg a W) = -(2 ^ (W.toNat - 1))) (hm : (viewOf sg c W) = -1) :
    Calls Try.prog 63 #[.pointer (some ⟨b, 0, none⟩), .int .i64 12] w (OneIn b W sg a c 1 0 (viewOf sg a W) (viewOf sg c W) 4 0 w) := by
  obtain ⟨u0, u1⟩ := viewOf_bd sg hW ha
  obtain ⟨v0, v1⟩ := viewOf_bd sg hW hc
  have cv := views_any b W sg a c 0 hW ha hc _ h
  unfold ViewsPost at cv
  generalize viewOf sg a W = u at *
  generalize viewOf sg c W = v at *
  have g3 : (v == 0) = false := by simp; omega
  subst hs
  have hW' := hW
  rcases hW' with rfl | rfl | rfl
  all_goals
    simp only [Int.reduceToNat, Nat.reduceSub, Int.reducePow] at hu
    first | (have g1 : (u == -128) = true := by simp; omega) | skip
    first | (have g4 : (u == -32768) = true := by simp; omega) | skip
    first | (have g5 : (u == -2147483648) = true := by simp; omega) | skip
    clear hu
    have g2 : (v == -1) = true := by simp; omega
    clear hm
    clear ha hc
    go_enter Try.func63, Try.ntmps63
    go_wp2_with (first | (go_at_call 41; refine cv.mono ?_; rintro e w1 ⟨rfl, m1, m2⟩; have d0 := m1.c0; have d1 := m1.c1) | (go_at_call 75; refine (goesWrong_any _ _ _ _ _ 1 0 _ _ 4 _ m1).mono ?_; rintro e w2 ⟨rfl, n1, n2⟩) | (go_at_call 60; refine (wentWrong_yes _ _ _ _ _ 1 0 _ _ 4 (by decide) _ n1).mono ?_; rintro e w' ⟨rfl, rfl⟩))
    all_goals (go_ret; exact ⟨rfl, n1, m2.trans n2⟩)
end Go.Proofs.Ytbamphfoobmblaa
