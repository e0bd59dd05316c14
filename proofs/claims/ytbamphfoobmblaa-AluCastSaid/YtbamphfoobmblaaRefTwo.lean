/- The document's own operators: what they answer. -/
import Derived.Test.YtbamphfoobmblaaRef
import Derived.Test.YtbamphfoobmblaaArith
namespace Go.Proofs.Ytbamphfoobmblaa
open Go.ChangeShapes Go.WideShapes Go.ChangeAt Go.RowKit Go.Joins Go.Deep
set_option linter.unusedVariables false

theorem rFit_any (k v : Int) (h : 1 ≤ k ∧ k ≤ 6) (w : World) : Calls Try.prog 49 #[.int .i64 k, .int .i64 v] w fun e w' => e = .returned (.tuple #[.int .i64 (fitI k v).1, .int .i64 (fitI k v).2]) ∧ Draws w w' := by
  rcases num_cases h with rfl | rfl | rfl | rfl | rfl | rfl
  · exact rFit_1 v w
  · exact rFit_2 v w
  · exact rFit_3 v w
  · exact rFit_4 v w
  · exact rFit_5 v w
  · exact rFit_6 v w
def TwoPost (n b : Int) (w : World) (e : Ending) (w' : World) : Prop := e = .returned (.tuple #[.int .i64 n, .int .i64 b]) ∧ Draws w w'
theorem draws_refl (w : World) : Draws w w := ⟨0, rfl⟩

theorem rTwo_8 (k a b : Int) (hk : 1 ≤ k ∧ k ≤ 6) (ha : isN a (widthI k)) (hb : isN b (widthI k)) (w : World) : Calls Try.prog 34 #[.int .i64 8, .int .i64 k, .int .i64 a, .int .i64 b] w (TwoPost (twoI 8 k a b).1 (twoI 8 k a b).2 w) := by
  obtain ⟨u0, u1⟩ := see_bd hk ha
  obtain ⟨v0, v1⟩ := see_bd hk hb
  go_enter Try.func34, Try.ntmps34
  go_wp2_with (first | (go_at_call 26; refine (rWidth_any _ _).mono ?_; rintro e w' ⟨rfl, rfl⟩) | (go_at_call 44; refine (rsee_any _ _ hk (by assumption) _).mono ?_; rintro e w' ⟨rfl, rfl⟩) | (go_at_call 49; refine (rFit_any _ _ hk _).mono ?_; rintro e w' ⟨rfl, ⟨n, rfl⟩⟩))
  go_ret2
  exact ⟨rfl, ⟨_, rfl⟩⟩
theorem rTwo_9 (k a b : Int) (hk : 1 ≤ k ∧ k ≤ 6) (ha : isN a (widthI k)) (hb : isN b (widthI k)) (w : World) : Calls Try.prog 34 #[.int .i64 9, .int .i64 k, .int .i64 a, .int .i64 b] w (TwoPost (twoI 9 k a b).1 (twoI 9 k a b).2 w) := by
  obtain ⟨u0, u1⟩ := see_bd hk ha
  obtain ⟨v0, v1⟩ := see_bd hk hb
  go_enter Try.func34, Try.ntmps34
  go_wp2_with (first | (go_at_call 26; refine (rWidth_any _ _).mono ?_; rintro e w' ⟨rfl, rfl⟩) | (go_at_call 44; refine (rsee_any _ _ hk (by assumption) _).mono ?_; rintro e w' ⟨rfl, rfl⟩) | (go_at_call 49; refine (rFit_any _ _ hk _).mono ?_; rintro e w' ⟨rfl, ⟨n, rfl⟩⟩))
  go_ret2
  exact ⟨rfl, ⟨_, rfl⟩⟩
theorem rTwo_13 (k a b : Int) (hk : 1 ≤ k ∧ k ≤ 6) (ha : isN a (widthI k)) (hb : isN b (widthI k)) (w : World) : Calls Try.prog 34 #[.int .i64 13, .int .i64 k, .int .i64 a, .int .i64 b] w (TwoPost (twoI 13 k a b).1 (twoI 13 k a b).2 w) := by
  obtain ⟨u0, u1⟩ := see_bd hk ha
  obtain ⟨v0, v1⟩ := see_bd hk hb
  go_enter Try.func34, Try.ntmps34
  go_wp2_with (first | (go_at_call 26; refine (rWidth_any _ _).mono ?_; rintro e w' ⟨rfl, rfl⟩) | (go_at_call 44; refine (rsee_any _ _ hk (by assumption) _).mono ?_; rintro e w' ⟨rfl, rfl⟩))
  go_ret2
  exact ⟨rfl, draws_refl _⟩
theorem rTwo_14 (k a b : Int) (hk : 1 ≤ k ∧ k ≤ 6) (ha : isN a (widthI k)) (hb : isN b (widthI k)) (w : World) : Calls Try.prog 34 #[.int .i64 14, .int .i64 k, .int .i64 a, .int .i64 b] w (TwoPost (twoI 14 k a b).1 (twoI 14 k a b).2 w) := by
  obtain ⟨u0, u1⟩ := see_bd hk ha
  obtain ⟨v0, v1⟩ := see_bd hk hb
  go_enter Try.func34, Try.ntmps34
  go_wp2_with (first | (go_at_call 26; refine (rWidth_any _ _).mono ?_; rintro e w' ⟨rfl, rfl⟩) | (go_at_call 44; refine (rsee_any _ _ hk (by assumption) _).mono ?_; rintro e w' ⟨rfl, rfl⟩))
  go_ret2
  exact ⟨rfl, draws_refl _⟩
theorem rTwo_15 (k a b : Int) (hk : 1 ≤ k ∧ k ≤ 6) (ha : isN a (widthI k)) (hb : isN b (widthI k)) (w : World) : Calls Try.prog 34 #[.int .i64 15, .int .i64 k, .int .i64 a, .int .i64 b] w (TwoPost (twoI 15 k a b).1 (twoI 15 k a b).2 w) := by
  obtain ⟨u0, u1⟩ := see_bd hk ha
  obtain ⟨v0, v1⟩ := see_bd hk hb
  go_enter Try.func34, Try.ntmps34
  go_wp2_with (first | (go_at_call 26; refine (rWidth_any _ _).mono ?_; rintro e w' ⟨rfl, rfl⟩) | (go_at_call 44; refine (rsee_any _ _ hk (by assumption) _).mono ?_; rintro e w' ⟨rfl, rfl⟩))
  go_ret2
  exact ⟨rfl, draws_refl _⟩
theorem rTwo_18 (k a b : Int) (hk : 1 ≤ k ∧ k ≤ 6) (ha : isN a (widthI k)) (hb : isN b (widthI k)) (w : World) : Calls Try.prog 34 #[.int .i64 18, .int .i64 k, .int .i64 a, .int .i64 b] w (TwoPost (twoI 18 k a b).1 (twoI 18 k a b).2 w) := by
  obtain ⟨u0, u1⟩ := see_bd hk ha
  obtain ⟨v0, v1⟩ := see_bd hk hb
  have he : (a == b) = decide (seeI k a = seeI k b) := by rw [Bool.eq_iff_iff]; simp; exact (see_inj hk ha hb).symm
  have HE := Lib.hid he
  clear he
  go_enter Try.func34, Try.ntmps34
  go_wp2_with (first | (go_at_call 26; refine (rWidth_any _ _).mono ?_; rintro e w' ⟨rfl, rfl⟩) | (go_at_call 44; refine (rsee_any _ _ hk (by assumption) _).mono ?_; rintro e w' ⟨rfl, rfl⟩) | (go_at_call 51; refine (rtruth_any _ _).mono ?_; rintro e w' ⟨rfl, rfl⟩))
  go_ret2
  exact ⟨ret_2 (by rw [HE.out]; rfl) rfl, draws_refl _⟩
theorem rTwo_19 (k a b : Int) (hk : 1 ≤ k ∧ k ≤ 6) (ha : isN a (widthI k)) (hb : isN b (widthI k)) (w : World) : Calls Try.prog 34 #[.int .i64 19, .int .i64 k, .int .i64 a, .int .i64 b] w (TwoPost (twoI 19 k a b).1 (twoI 19 k a b).2 w) := by
  obtain ⟨u0, u1⟩ := see_bd hk ha
  obtain ⟨v0, v1⟩ := see_bd hk hb
  go_enter Try.func34, Try.ntmps34
  go_wp2_with (first | (go_at_call 26; refine (rWidth_any _ _).mono ?_; rintro e w' ⟨rfl, rfl⟩) | (go_at_call 44; refine (rsee_any _ _ hk (by assumption) _).mono ?_; rintro e w' ⟨rfl, rfl⟩) | (go_at_call 51; refine (rtruth_any _ _).mono ?_; rintro e w' ⟨rfl, rfl⟩))
  go_ret2
  exact ⟨rfl, draws_refl _⟩
theorem rTwo_10_s (k a b : Int) (hk : 1 ≤ k ∧ k ≤ 6) (ha : isN a (widthI k)) (hb : isN b (widthI k)) (hs : signedB k = true) (w : World) : Calls Try.prog 34 #[.int .i64 10, .int .i64 k, .int .i64 a, .int .i64 b] w (TwoPost (twoI 10 k a b).1 (twoI 10 k a b).2 w) := by
  obtain ⟨u0, u1⟩ := see_bd hk ha
  obtain ⟨v0, v1⟩ := see_bd hk hb
  have cS := fun w => rSigned_any k w
  rw [hs] at cS
  clear hs
  go_enter Try.func34, Try.ntmps34
  go_wp2_with (first | (go_at_call 26; refine (rWidth_any _ _).mono ?_; rintro e w' ⟨rfl, rfl⟩) | (go_at_call 44; refine (rsee_any _ _ hk (by assumption) _).mono ?_; rintro e w' ⟨rfl, rfl⟩) | (go_at_call 50; refine (cS _).mono ?_; rintro e w' ⟨rfl, rfl⟩) | (go_at_call 49; refine (rFit_any _ _ hk _).mono ?_; rintro e w' ⟨rfl, ⟨n, rfl⟩⟩))
  go_ret2
  exact ⟨rfl, ⟨_, rfl⟩⟩
theorem rTwo_10_u (k a b : Int) (hk : 1 ≤ k ∧ k ≤ 6) (ha : isN a (widthI k)) (hb : isN b (widthI k)) (hs : signedB k = false) (w : World) : Calls Try.prog 34 #[.int .i64 10, .int .i64 k, .int .i64 a, .int .i64 b] w (TwoPost (twoI 10 k a b).1 (twoI 10 k a b).2 w) := by
  obtain ⟨u0, u1⟩ := see_bd hk ha
  obtain ⟨v0, v1⟩ := see_bd hk hb
  have cS := fun w => rSigned_any k w
  rw [hs] at cS
  have e1 : twoI 10 k a b = (wrapI (wrap64 (seeI k a * seeI k b)) (widthI k), 0) := fit_yes (fits_u hs)
  rw [e1]
  clear hs e1
  rcases width_isW hk with hw | hw | hw
  all_goals
    have cW := fun w => rWidth_any k w
    rw [hw] at cW ⊢
    have HW := Lib.hid hw
    clear hw
    go_enter Try.func34, Try.ntmps34
    go_wp2_with (first | (go_at_call 26; refine (cW _).mono ?_; rintro e w' ⟨rfl, rfl⟩) | (go_at_call 44; refine (rsee_any _ _ hk (by assumption) _).mono ?_; rintro e w' ⟨rfl, rfl⟩) | (go_at_call 50; refine (cS _).mono ?_; rintro e w' ⟨rfl, rfl⟩))
    go_ret2
    refine ⟨ret_2 ?_ rfl, draws_refl _⟩
    first | (with_reducible exact mul_mask_8 _ _) | (with_reducible exact mul_mask_16 _ _) | (with_reducible exact mul_mask_32 _ _)
theorem rTwo_16_y (k a b : Int) (hk : 1 ≤ k ∧ k ≤ 6) (ha : isN a (widthI k)) (hb : isN b (widthI k)) (hv : 0 ≤ seeI k b ∧ seeI k b < widthI k) (w : World) : Calls Try.prog 34 #[.int .i64 16, .int .i64 k, .int .i64 a, .int .i64 b] w (TwoPost (twoI 16 k a b).1 (twoI 16 k a b).2 w) := by
  obtain ⟨u0, u1⟩ := see_bd hk ha
  obtain ⟨v0, v1⟩ := see_bd hk hb
  have e1 : twoI 16 k a b = (wrapI (wrap64 (a * 2 ^ (seeI k b).toNat)) (widthI k), 0) := if_pos hv
  rw [e1]
  clear e1
  obtain ⟨hv1, hv2⟩ := hv
  have hw32 : widthI k ≤ 32 := by rcases width_isW hk with h | h | h <;> omega
  go_enter Try.func34, Try.ntmps34
  go_wp2_with (first | (go_at_call 26; refine (rWidth_any _ _).mono ?_; rintro e w' ⟨rfl, rfl⟩) | (go_at_call 44; refine (rsee_any _ _ hk (by assumption) _).mono ?_; rintro e w' ⟨rfl, rfl⟩) | (go_at_call 43; refine (rNum_yes _ _ hv1 (by omega) _).mono ?_; rintro e w' ⟨rfl, rfl⟩) | (go_at_call 38; refine (rWrap_any _ _ (width_isW hk) _).mono ?_; rintro e w' ⟨rfl, rfl⟩))
  go_ret2
  exact ⟨rfl, draws_refl _⟩
theorem rTwo_16_n (k a b : Int) (hk : 1 ≤ k ∧ k ≤ 6) (ha : isN a (widthI k)) (hb : isN b (widthI k)) (hv : ¬ (0 ≤ seeI k b ∧ seeI k b < widthI k)) (w : World) : Calls Try.prog 34 #[.int .i64 16, .int .i64 k, .int .i64 a, .int .i64 b] w (TwoPost (twoI 16 k a b).1 (twoI 16 k a b).2 w) := by
  obtain ⟨u0, u1⟩ := see_bd hk ha
  obtain ⟨v0, v1⟩ := see_bd hk hb
  have e1 : twoI 16 k a b = (0, 5) := if_neg hv
  rw [e1]
  clear e1
  have hw32 : 8 ≤ widthI k ∧ widthI k ≤ 32 := by rcases width_isW hk with h | h | h <;> omega
  go_enter Try.func34, Try.ntmps34
  go_wp2_with (first | (go_at_call 26; refine (rWidth_any _ _).mono ?_; rintro e w' ⟨rfl, rfl⟩) | (go_at_call 44; refine (rsee_any _ _ hk (by assumption) _).mono ?_; rintro e w' ⟨rfl, rfl⟩) | (go_at_call 43; refine (rNum_no _ _ (by omega) _).mono ?_; rintro e w' ⟨rfl, rfl⟩))
  go_ret2
  exact ⟨rfl, draws_refl _⟩
theorem rTwo_17_y (k a b : Int) (hk : 1 ≤ k ∧ k ≤ 6) (ha : isN a (widthI k)) (hb : isN b (widthI k)) (hv : 0 ≤ seeI k b ∧ seeI k b < widthI k) (w : World) : Calls Try.prog 34 #[.int .i64 17, .int .i64 k, .int .i64 a, .int .i64 b] w (TwoPost (twoI 17 k a b).1 (twoI 17 k a b).2 w) := by
  obtain ⟨u0, u1⟩ := see_bd hk ha
  obtain ⟨v0, v1⟩ := see_bd hk hb
  have e1 : twoI 17 k a b = (wrapI (seeI k a / 2 ^ (seeI k b).toNat) (widthI k), 0) := if_pos hv
  rw [e1]
  clear e1
  obtain ⟨hv1, hv2⟩ := hv
  have hw32 : widthI k ≤ 32 := by rcases width_isW hk with h | h | h <;> omega
  go_enter Try.func34, Try.ntmps34
  go_wp2_with (first | (go_at_call 26; refine (rWidth_any _ _).mono ?_; rintro e w' ⟨rfl, rfl⟩) | (go_at_call 44; refine (rsee_any _ _ hk (by assumption) _).mono ?_; rintro e w' ⟨rfl, rfl⟩) | (go_at_call 43; refine (rNum_yes _ _ hv1 (by omega) _).mono ?_; rintro e w' ⟨rfl, rfl⟩) | (go_at_call 38; refine (rWrap_any _ _ (width_isW hk) _).mono ?_; rintro e w' ⟨rfl, rfl⟩))
  go_ret2
  exact ⟨rfl, draws_refl _⟩
theorem rTwo_17_n (k a b : Int) (hk : 1 ≤ k ∧ k ≤ 6) (ha : isN a (widthI k)) (hb : isN b (widthI k)) (hv : ¬ (0 ≤ seeI k b ∧ seeI k b < widthI k)) (w : World) : Calls Try.prog 34 #[.int .i64 17, .int .i64 k, .int .i64 a, .int .i64 b] w (TwoPost (twoI 17 k a b).1 (twoI 17 k a b).2 w) := by
  obtain ⟨u0, u1⟩ := see_bd hk ha
  obtain ⟨v0, v1⟩ := see_bd hk hb
  have e1 : twoI 17 k a b = (0, 5) := if_neg hv
  rw [e1]
  clear e1
  have hw32 : 8 ≤ widthI k ∧ widthI k ≤ 32 := by rcases width_isW hk with h | h | h <;> omega
  go_enter Try.func34, Try.ntmps34
  go_wp2_with (first | (go_at_call 26; refine (rWidth_any _ _).mono ?_; rintro e w' ⟨rfl, rfl⟩) | (go_at_call 44; refine (rsee_any _ _ hk (by assumption) _).mono ?_; rintro e w' ⟨rfl, rfl⟩) | (go_at_call 43; refine (rNum_no _ _ (by omega) _).mono ?_; rintro e w' ⟨rfl, rfl⟩))
  go_ret2
  exact ⟨rfl, draws_refl _⟩
theorem rTwo_11_z (k a b : Int) (hk : 1 ≤ k ∧ k ≤ 6) (ha : isN a (widthI k)) (hb : isN b (widthI k)) (hv : seeI k b = 0) (w : World) : Calls Try.prog 34 #[.int .i64 11, .int .i64 k, .int .i64 a, .int .i64 b] w (TwoPost (twoI 11 k a b).1 (twoI 11 k a b).2 w) := by
  obtain ⟨u0, u1⟩ := see_bd hk ha
  obtain ⟨v0, v1⟩ := see_bd hk hb
  have e1 : twoI 11 k a b = (0, 6) := if_pos hv
  rw [e1]
  clear e1
  have cS := fun w => rSigned_any k w
  rcases width_isW hk with hw | hw | hw
  all_goals
    have cW := fun w => rWidth_any k w
    rw [hw] at cW
    have csa := fun w => rsee_any _ _ hk ha w
    have csb := fun w => rsee_any _ _ hk hb w
    have cR := fun n w => rWrap_any n _ (width_isW hk) w
    rw [hw] at cR
    try rw [hw]
    clear hw ha hb
    generalize seeI k a = u at *
    generalize seeI k b = v at *
    subst hv
    go_enter Try.func34, Try.ntmps34
    go_wp2_with (first | (go_at_call 26; refine (cW _).mono ?_; rintro e w' ⟨rfl, rfl⟩) | (go_at_call 44; ((with_reducible refine (csa _).mono ?_); rintro e w' ⟨rfl, rfl⟩)) | (go_at_call 44; ((with_reducible refine (csb _).mono ?_); rintro e w' ⟨rfl, rfl⟩)) | (go_at_call 50; refine (cS _).mono ?_; rintro e w' ⟨rfl, rfl⟩) | (go_at_call 38; refine (cR _ _).mono ?_; rintro e w' ⟨rfl, rfl⟩))
    go_ret2
    exact ⟨rfl, draws_refl _⟩
theorem rTwo_11_u (k a b : Int) (hk : 1 ≤ k ∧ k ≤ 6) (ha : isN a (widthI k)) (hb : isN b (widthI k)) (hv : ¬ seeI k b = 0) (hs : signedB k = false) (w : World) : Calls Try.prog 34 #[.int .i64 11, .int .i64 k, .int .i64 a, .int .i64 b] w (TwoPost (twoI 11 k a b).1 (twoI 11 k a b).2 w) := by
  obtain ⟨u0, u1⟩ := see_bd hk ha
  obtain ⟨v0, v1⟩ := see_bd hk hb
  have e1 : twoI 11 k a b = (wrapI (wrap64 ((seeI k a).tdiv (seeI k b))) (widthI k), 0) := (if_neg hv).trans (if_neg (fun h => by rw [hs] at h; exact absurd h.1 (by decide)))
  rw [e1]
  clear e1
  have cS := fun w => rSigned_any k w
  rw [hs] at cS
  clear hs
  rcases width_isW hk with hw | hw | hw
  all_goals
    have cW := fun w => rWidth_any k w
    rw [hw] at cW
    have csa := fun w => rsee_any _ _ hk ha w
    have csb := fun w => rsee_any _ _ hk hb w
    have cR := fun n w => rWrap_any n _ (width_isW hk) w
    rw [hw] at cR
    try rw [hw]
    clear hw ha hb
    generalize seeI k a = u at *
    generalize seeI k b = v at *
    have g3 : (v == 0) = false := by simp; omega
    go_enter Try.func34, Try.ntmps34
    go_wp2_with (first | (go_at_call 26; refine (cW _).mono ?_; rintro e w' ⟨rfl, rfl⟩) | (go_at_call 44; ((with_reducible refine (csa _).mono ?_); rintro e w' ⟨rfl, rfl⟩)) | (go_at_call 44; ((with_reducible refine (csb _).mono ?_); rintro e w' ⟨rfl, rfl⟩)) | (go_at_call 50; refine (cS _).mono ?_; rintro e w' ⟨rfl, rfl⟩) | (go_at_call 38; refine (cR _ _).mono ?_; rintro e w' ⟨rfl, rfl⟩))
    go_ret2
    exact ⟨rfl, draws_refl _⟩
theorem rTwo_11_a (k a b : Int) (hk : 1 ≤ k ∧ k ≤ 6) (ha : isN a (widthI k)) (hb : isN b (widthI k)) (hv : ¬ seeI k b = 0) (hs : signedB k = true) (hu : ¬ seeI k a = -(halfI k)) (w : World) : Calls Try.prog 34 #[.int .i64 11, .int .i64 k, .int .i64 a, .int .i64 b] w (TwoPost (twoI 11 k a b).1 (twoI 11 k a b).2 w) := by
  obtain ⟨u0, u1⟩ := see_bd hk ha
  obtain ⟨v0, v1⟩ := see_bd hk hb
  have e1 : twoI 11 k a b = (wrapI (wrap64 ((seeI k a).tdiv (seeI k b))) (widthI k), 0) := (if_neg hv).trans (if_neg (fun h => hu h.2.1))
  rw [e1]
  clear e1
  have cS := fun w => rSigned_any k w
  rw [hs] at cS
  clear hs
  rcases width_isW hk with hw | hw | hw
  all_goals
    have cW := fun w => rWidth_any k w
    unfold halfI at hu
    simp only [hw, Int.reduceToNat, Int.reduceSub, Nat.reduceSub, Int.reducePow] at hu
    rw [hw] at cW
    have csa := fun w => rsee_any _ _ hk ha w
    have csb := fun w => rsee_any _ _ hk hb w
    have cR := fun n w => rWrap_any n _ (width_isW hk) w
    rw [hw] at cR
    try rw [hw]
    clear hw ha hb
    generalize seeI k a = u at *
    generalize seeI k b = v at *
    have g3 : (v == 0) = false := by simp; omega
    first | (have g1 : (u == -128) = false := by simp; omega) | skip
    first | (have g4 : (u == -32768) = false := by simp; omega) | skip
    first | (have g5 : (u == -2147483648) = false := by simp; omega) | skip
    go_enter Try.func34, Try.ntmps34
    go_wp2_with (first | (go_at_call 26; refine (cW _).mono ?_; rintro e w' ⟨rfl, rfl⟩) | (go_at_call 44; ((with_reducible refine (csa _).mono ?_); rintro e w' ⟨rfl, rfl⟩)) | (go_at_call 44; ((with_reducible refine (csb _).mono ?_); rintro e w' ⟨rfl, rfl⟩)) | (go_at_call 50; refine (cS _).mono ?_; rintro e w' ⟨rfl, rfl⟩) | (go_at_call 38; refine (cR _ _).mono ?_; rintro e w' ⟨rfl, rfl⟩))
    go_ret2
    exact ⟨rfl, draws_refl _⟩
theorem rTwo_11_b (k a b : Int) (hk : 1 ≤ k ∧ k ≤ 6) (ha : isN a (widthI k)) (hb : isN b (widthI k)) (hv : ¬ seeI k b = 0) (hs : signedB k = true) (hu : seeI k a = -(halfI k)) (hm : ¬ seeI k b = -1) (w : World) : Calls Try.prog 34 #[.int .i64 11, .int .i64 k, .int .i64 a, .int .i64 b] w (TwoPost (twoI 11 k a b).1 (twoI 11 k a b).2 w) := by
  obtain ⟨u0, u1⟩ := see_bd hk ha
  obtain ⟨v0, v1⟩ := see_bd hk hb
  have e1 : twoI 11 k a b = (wrapI (wrap64 ((seeI k a).tdiv (seeI k b))) (widthI k), 0) := (if_neg hv).trans (if_neg (fun h => hm h.2.2))
  rw [e1]
  clear e1
  have cS := fun w => rSigned_any k w
  rw [hs] at cS
  clear hs
  rcases width_isW hk with hw | hw | hw
  all_goals
    have cW := fun w => rWidth_any k w
    unfold halfI at hu
    simp only [hw, Int.reduceToNat, Int.reduceSub, Nat.reduceSub, Int.reducePow] at hu
    rw [hw] at cW
    have csa := fun w => rsee_any _ _ hk ha w
    have csb := fun w => rsee_any _ _ hk hb w
    have cR := fun n w => rWrap_any n _ (width_isW hk) w
    rw [hw] at cR
    try rw [hw]
    clear hw ha hb
    generalize seeI k a = u at *
    generalize seeI k b = v at *
    first | (have g1 : (u == -128) = true := by simp; omega) | skip
    first | (have g4 : (u == -32768) = true := by simp; omega) | skip
    first | (have g5 : (u == -2147483648) = true := by simp; omega) | skip
    clear hu
    have g2 : (v == -1) = false := by simp; omega
    have g3 : (v == 0) = false := by simp; omega
    go_enter Try.func34, Try.ntmps34
    go_wp2_with (first | (go_at_call 26; refine (cW _).mono ?_; rintro e w' ⟨rfl, rfl⟩) | (go_at_call 44; ((with_reducible refine (csa _).mono ?_); rintro e w' ⟨rfl, rfl⟩)) | (go_at_call 44; ((with_reducible refine (csb _).mono ?_); rintro e w' ⟨rfl, rfl⟩)) | (go_at_call 50; refine (cS _).mono ?_; rintro e w' ⟨rfl, rfl⟩) | (go_at_call 38; refine (cR _ _).mono ?_; rintro e w' ⟨rfl, rfl⟩))
    go_ret2
    exact ⟨rfl, draws_refl _⟩
theorem rTwo_11_o (k a b : Int) (hk : 1 ≤ k ∧ k ≤ 6) (ha : isN a (widthI k)) (hb : isN b (widthI k)) (hv : ¬ seeI k b = 0) (hs : signedB k = true) (hu : seeI k a = -(halfI k)) (hm : seeI k b = -1) (w : World) : Calls Try.prog 34 #[.int .i64 11, .int .i64 k, .int .i64 a, .int .i64 b] w (TwoPost (twoI 11 k a b).1 (twoI 11 k a b).2 w) := by
  obtain ⟨u0, u1⟩ := see_bd hk ha
  obtain ⟨v0, v1⟩ := see_bd hk hb
  have e1 : twoI 11 k a b = (0, 4) := (if_neg hv).trans (if_pos ⟨hs, hu, hm⟩)
  rw [e1]
  clear e1
  have cS := fun w => rSigned_any k w
  rw [hs] at cS
  clear hs
  rcases width_isW hk with hw | hw | hw
  all_goals
    have cW := fun w => rWidth_any k w
    unfold halfI at hu
    simp only [hw, Int.reduceToNat, Int.reduceSub, Nat.reduceSub, Int.reducePow] at hu
    rw [hw] at cW
    have csa := fun w => rsee_any _ _ hk ha w
    have csb := fun w => rsee_any _ _ hk hb w
    have cR := fun n w => rWrap_any n _ (width_isW hk) w
    rw [hw] at cR
    try rw [hw]
    clear hw ha hb
    generalize seeI k a = u at *
    generalize seeI k b = v at *
    subst hu
    subst hm
    go_enter Try.func34, Try.ntmps34
    go_wp2_with (first | (go_at_call 26; refine (cW _).mono ?_; rintro e w' ⟨rfl, rfl⟩) | (go_at_call 44; ((with_reducible refine (csa _).mono ?_); rintro e w' ⟨rfl, rfl⟩)) | (go_at_call 44; ((with_reducible refine (csb _).mono ?_); rintro e w' ⟨rfl, rfl⟩)) | (go_at_call 50; refine (cS _).mono ?_; rintro e w' ⟨rfl, rfl⟩) | (go_at_call 38; refine (cR _ _).mono ?_; rintro e w' ⟨rfl, rfl⟩))
    go_ret2
    exact ⟨rfl, draws_refl _⟩
theorem rTwo_12_z (k a b : Int) (hk : 1 ≤ k ∧ k ≤ 6) (ha : isN a (widthI k)) (hb : isN b (widthI k)) (hv : seeI k b = 0) (w : World) : Calls Try.prog 34 #[.int .i64 12, .int .i64 k, .int .i64 a, .int .i64 b] w (TwoPost (twoI 12 k a b).1 (twoI 12 k a b).2 w) := by
  obtain ⟨u0, u1⟩ := see_bd hk ha
  obtain ⟨v0, v1⟩ := see_bd hk hb
  have e1 : twoI 12 k a b = (0, 6) := if_pos hv
  rw [e1]
  clear e1
  have cS := fun w => rSigned_any k w
  rcases width_isW hk with hw | hw | hw
  all_goals
    have cW := fun w => rWidth_any k w
    rw [hw] at cW
    have csa := fun w => rsee_any _ _ hk ha w
    have csb := fun w => rsee_any _ _ hk hb w
    have cR := fun n w => rWrap_any n _ (width_isW hk) w
    rw [hw] at cR
    try rw [hw]
    clear hw ha hb
    generalize seeI k a = u at *
    generalize seeI k b = v at *
    subst hv
    go_enter Try.func34, Try.ntmps34
    go_wp2_with (first | (go_at_call 26; refine (cW _).mono ?_; rintro e w' ⟨rfl, rfl⟩) | (go_at_call 44; ((with_reducible refine (csa _).mono ?_); rintro e w' ⟨rfl, rfl⟩)) | (go_at_call 44; ((with_reducible refine (csb _).mono ?_); rintro e w' ⟨rfl, rfl⟩)) | (go_at_call 50; refine (cS _).mono ?_; rintro e w' ⟨rfl, rfl⟩) | (go_at_call 38; refine (cR _ _).mono ?_; rintro e w' ⟨rfl, rfl⟩))
    go_ret2
    exact ⟨rfl, draws_refl _⟩
theorem rTwo_12_u (k a b : Int) (hk : 1 ≤ k ∧ k ≤ 6) (ha : isN a (widthI k)) (hb : isN b (widthI k)) (hv : ¬ seeI k b = 0) (hs : signedB k = false) (w : World) : Calls Try.prog 34 #[.int .i64 12, .int .i64 k, .int .i64 a, .int .i64 b] w (TwoPost (twoI 12 k a b).1 (twoI 12 k a b).2 w) := by
  obtain ⟨u0, u1⟩ := see_bd hk ha
  obtain ⟨v0, v1⟩ := see_bd hk hb
  have e1 : twoI 12 k a b = (wrapI ((seeI k a).tmod (seeI k b)) (widthI k), 0) := (if_neg hv).trans (if_neg (fun h => by rw [hs] at h; exact absurd h.1 (by decide)))
  rw [e1]
  clear e1
  have cS := fun w => rSigned_any k w
  rw [hs] at cS
  clear hs
  rcases width_isW hk with hw | hw | hw
  all_goals
    have cW := fun w => rWidth_any k w
    rw [hw] at cW
    have csa := fun w => rsee_any _ _ hk ha w
    have csb := fun w => rsee_any _ _ hk hb w
    have cR := fun n w => rWrap_any n _ (width_isW hk) w
    rw [hw] at cR
    try rw [hw]
    clear hw ha hb
    generalize seeI k a = u at *
    generalize seeI k b = v at *
    have g3 : (v == 0) = false := by simp; omega
    go_enter Try.func34, Try.ntmps34
    go_wp2_with (first | (go_at_call 26; refine (cW _).mono ?_; rintro e w' ⟨rfl, rfl⟩) | (go_at_call 44; ((with_reducible refine (csa _).mono ?_); rintro e w' ⟨rfl, rfl⟩)) | (go_at_call 44; ((with_reducible refine (csb _).mono ?_); rintro e w' ⟨rfl, rfl⟩)) | (go_at_call 50; refine (cS _).mono ?_; rintro e w' ⟨rfl, rfl⟩) | (go_at_call 38; refine (cR _ _).mono ?_; rintro e w' ⟨rfl, rfl⟩))
    go_ret2
    exact ⟨rfl, draws_refl _⟩
theorem rTwo_12_a (k a b : Int) (hk : 1 ≤ k ∧ k ≤ 6) (ha : isN a (widthI k)) (hb : isN b (widthI k)) (hv : ¬ seeI k b = 0) (hs : signedB k = true) (hu : ¬ seeI k a = -(halfI k)) (w : World) : Calls Try.prog 34 #[.int .i64 12, .int .i64 k, .int .i64 a, .int .i64 b] w (TwoPost (twoI 12 k a b).1 (twoI 12 k a b).2 w) := by
  obtain ⟨u0, u1⟩ := see_bd hk ha
  obtain ⟨v0, v1⟩ := see_bd hk hb
  have e1 : twoI 12 k a b = (wrapI ((seeI k a).tmod (seeI k b)) (widthI k), 0) := (if_neg hv).trans (if_neg (fun h => hu h.2.1))
  rw [e1]
  clear e1
  have cS := fun w => rSigned_any k w
  rw [hs] at cS
  clear hs
  rcases width_isW hk with hw | hw | hw
  all_goals
    have cW := fun w => rWidth_any k w
    unfold halfI at hu
    simp only [hw, Int.reduceToNat, Int.reduceSub, Nat.reduceSub, Int.reducePow] at hu
    rw [hw] at cW
    have csa := fun w => rsee_any _ _ hk ha w
    have csb := fun w => rsee_any _ _ hk hb w
    have cR := fun n w => rWrap_any n _ (width_isW hk) w
    rw [hw] at cR
    try rw [hw]
    clear hw ha hb
    generalize seeI k a = u at *
    generalize seeI k b = v at *
    have g3 : (v == 0) = false := by simp; omega
    first | (have g1 : (u == -128) = false := by simp; omega) | skip
    first | (have g4 : (u == -32768) = false := by simp; omega) | skip
    first | (have g5 : (u == -2147483648) = false := by simp; omega) | skip
    go_enter Try.func34, Try.ntmps34
    go_wp2_with (first | (go_at_call 26; refine (cW _).mono ?_; rintro e w' ⟨rfl, rfl⟩) | (go_at_call 44; ((with_reducible refine (csa _).mono ?_); rintro e w' ⟨rfl, rfl⟩)) | (go_at_call 44; ((with_reducible refine (csb _).mono ?_); rintro e w' ⟨rfl, rfl⟩)) | (go_at_call 50; refine (cS _).mono ?_; rintro e w' ⟨rfl, rfl⟩) | (go_at_call 38; refine (cR _ _).mono ?_; rintro e w' ⟨rfl, rfl⟩))
    go_ret2
    exact ⟨rfl, draws_refl _⟩
theorem rTwo_12_b (k a b : Int) (hk : 1 ≤ k ∧ k ≤ 6) (ha : isN a (widthI k)) (hb : isN b (widthI k)) (hv : ¬ seeI k b = 0) (hs : signedB k = true) (hu : seeI k a = -(halfI k)) (hm : ¬ seeI k b = -1) (w : World) : Calls Try.prog 34 #[.int .i64 12, .int .i64 k, .int .i64 a, .int .i64 b] w (TwoPost (twoI 12 k a b).1 (twoI 12 k a b).2 w) := by
  obtain ⟨u0, u1⟩ := see_bd hk ha
  obtain ⟨v0, v1⟩ := see_bd hk hb
  have e1 : twoI 12 k a b = (wrapI ((seeI k a).tmod (seeI k b)) (widthI k), 0) := (if_neg hv).trans (if_neg (fun h => hm h.2.2))
  rw [e1]
  clear e1
  have cS := fun w => rSigned_any k w
  rw [hs] at cS
  clear hs
  rcases width_isW hk with hw | hw | hw
  all_goals
    have cW := fun w => rWidth_any k w
    unfold halfI at hu
    simp only [hw, Int.reduceToNat, Int.reduceSub, Nat.reduceSub, Int.reducePow] at hu
    rw [hw] at cW
    have csa := fun w => rsee_any _ _ hk ha w
    have csb := fun w => rsee_any _ _ hk hb w
    have cR := fun n w => rWrap_any n _ (width_isW hk) w
    rw [hw] at cR
    try rw [hw]
    clear hw ha hb
    generalize seeI k a = u at *
    generalize seeI k b = v at *
    first | (have g1 : (u == -128) = true := by simp; omega) | skip
    first | (have g4 : (u == -32768) = true := by simp; omega) | skip
    first | (have g5 : (u == -2147483648) = true := by simp; omega) | skip
    clear hu
    have g2 : (v == -1) = false := by simp; omega
    have g3 : (v == 0) = false := by simp; omega
    go_enter Try.func34, Try.ntmps34
    go_wp2_with (first | (go_at_call 26; refine (cW _).mono ?_; rintro e w' ⟨rfl, rfl⟩) | (go_at_call 44; ((with_reducible refine (csa _).mono ?_); rintro e w' ⟨rfl, rfl⟩)) | (go_at_call 44; ((with_reducible refine (csb _).mono ?_); rintro e w' ⟨rfl, rfl⟩)) | (go_at_call 50; refine (cS _).mono ?_; rintro e w' ⟨rfl, rfl⟩) | (go_at_call 38; refine (cR _ _).mono ?_; rintro e w' ⟨rfl, rfl⟩))
    go_ret2
    exact ⟨rfl, draws_refl _⟩
theorem rTwo_12_o (k a b : Int) (hk : 1 ≤ k ∧ k ≤ 6) (ha : isN a (widthI k)) (hb : isN b (widthI k)) (hv : ¬ seeI k b = 0) (hs : signedB k = true) (hu : seeI k a = -(halfI k)) (hm : seeI k b = -1) (w : World) : Calls Try.prog 34 #[.int .i64 12, .int .i64 k, .int .i64 a, .int .i64 b] w (TwoPost (twoI 12 k a b).1 (twoI 12 k a b).2 w) := by
  obtain ⟨u0, u1⟩ := see_bd hk ha
  obtain ⟨v0, v1⟩ := see_bd hk hb
  have e1 : twoI 12 k a b = (0, 4) := (if_neg hv).trans (if_pos ⟨hs, hu, hm⟩)
  rw [e1]
  clear e1
  have cS := fun w => rSigned_any k w
  rw [hs] at cS
  clear hs
  rcases width_isW hk with hw | hw | hw
  all_goals
    have cW := fun w => rWidth_any k w
    unfold halfI at hu
    simp only [hw, Int.reduceToNat, Int.reduceSub, Nat.reduceSub, Int.reducePow] at hu
    rw [hw] at cW
    have csa := fun w => rsee_any _ _ hk ha w
    have csb := fun w => rsee_any _ _ hk hb w
    have cR := fun n w => rWrap_any n _ (width_isW hk) w
    rw [hw] at cR
    try rw [hw]
    clear hw ha hb
    generalize seeI k a = u at *
    generalize seeI k b = v at *
    subst hu
    subst hm
    go_enter Try.func34, Try.ntmps34
    go_wp2_with (first | (go_at_call 26; refine (cW _).mono ?_; rintro e w' ⟨rfl, rfl⟩) | (go_at_call 44; ((with_reducible refine (csa _).mono ?_); rintro e w' ⟨rfl, rfl⟩)) | (go_at_call 44; ((with_reducible refine (csb _).mono ?_); rintro e w' ⟨rfl, rfl⟩)) | (go_at_call 50; refine (cS _).mono ?_; rintro e w' ⟨rfl, rfl⟩) | (go_at_call 38; refine (cR _ _).mono ?_; rintro e w' ⟨rfl, rfl⟩))
    go_ret2
    exact ⟨rfl, draws_refl _⟩
end Go.Proofs.Ytbamphfoobmblaa
