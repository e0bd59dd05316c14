/- The document's own operators: what they answer. -/
import Derived.Test.YtblahbmhbfcggaaGreatDoorRef
namespace Go.Proofs.YtblahbmhbfcggaaGreatDoor.Al
open Go.ChangeShapes Go.WideShapes Go.ChangeAt Go.RowKit Go.Joins Go.Deep
set_option linter.unusedVariables false

theorem rFit_any (k v : Int) (h : 1 ≤ k ∧ k ≤ 6) (w : World) : Calls Tryz.prog 47 #[.int .i64 k, .int .i64 v] w fun e w' => e = .returned (.tuple #[.int .i64 (fitI k v).1, .int .i64 (fitI k v).2]) ∧ Draws w w' := by
  rcases num_cases h with rfl | rfl | rfl | rfl | rfl | rfl
  · exact rFit_1 v w
  · exact rFit_2 v w
  · exact rFit_3 v w
  · exact rFit_4 v w
  · exact rFit_5 v w
  · exact rFit_6 v w
def TwoPost (n b : Int) (w : World) (e : Ending) (w' : World) : Prop := e = .returned (.tuple #[.int .i64 n, .int .i64 b]) ∧ Draws w w'
theorem draws_refl (w : World) : Draws w w := ⟨0, rfl⟩

theorem rTwo_8 (k a b : Int) (hk : 1 ≤ k ∧ k ≤ 6) (ha : isN a (widthI k)) (hb : isN b (widthI k)) (w : World) : Calls Tryz.prog 18 #[.int .i64 8, .int .i64 k, .int .i64 a, .int .i64 b] w (TwoPost (twoI 8 k a b).1 (twoI 8 k a b).2 w) := by
  obtain ⟨u0, u1⟩ := see_bd hk ha
  obtain ⟨v0, v1⟩ := see_bd hk hb
  go_enter Tryz.func18, Tryz.ntmps18
  go_wp2_with (first | (go_at_call 13; refine (rWidth_any _ _).mono ?_; rintro e w' ⟨rfl, rfl⟩) | (go_at_call 46; refine (rsee_any _ _ hk (by assumption) _).mono ?_; rintro e w' ⟨rfl, rfl⟩) | (go_at_call 47; refine (rFit_any _ _ hk _).mono ?_; rintro e w' ⟨rfl, ⟨n, rfl⟩⟩))
  go_ret2
  exact ⟨rfl, ⟨_, rfl⟩⟩
theorem rTwo_9 (k a b : Int) (hk : 1 ≤ k ∧ k ≤ 6) (ha : isN a (widthI k)) (hb : isN b (widthI k)) (w : World) : Calls Tryz.prog 18 #[.int .i64 9, .int .i64 k, .int .i64 a, .int .i64 b] w (TwoPost (twoI 9 k a b).1 (twoI 9 k a b).2 w) := by
  obtain ⟨u0, u1⟩ := see_bd hk ha
  obtain ⟨v0, v1⟩ := see_bd hk hb
  go_enter Tryz.func18, Tryz.ntmps18
  go_wp2_with (first | (go_at_call 13; refine (rWidth_any _ _).mono ?_; rintro e w' ⟨rfl, rfl⟩) | (go_at_call 46; refine (rsee_any _ _ hk (by assumption) _).mono ?_; rintro e w' ⟨rfl, rfl⟩) | (go_at_call 47; refine (rFit_any _ _ hk _).mono ?_; rintro e w' ⟨rfl, ⟨n, rfl⟩⟩))
  go_ret2
  exact ⟨rfl, ⟨_, rfl⟩⟩
theorem rTwo_13 (k a b : Int) (hk : 1 ≤ k ∧ k ≤ 6) (ha : isN a (widthI k)) (hb : isN b (widthI k)) (w : World) : Calls Tryz.prog 18 #[.int .i64 13, .int .i64 k, .int .i64 a, .int .i64 b] w (TwoPost (twoI 13 k a b).1 (twoI 13 k a b).2 w) := by
  obtain ⟨u0, u1⟩ := see_bd hk ha
  obtain ⟨v0, v1⟩ := see_bd hk hb
  go_enter Tryz.func18, Tryz.ntmps18
  go_wp2_with (first | (go_at_call 13; refine (rWidth_any _ _).mono ?_; rintro e w' ⟨rfl, rfl⟩) | (go_at_call 46; refine (rsee_any _ _ hk (by assumption) _).mono ?_; rintro e w' ⟨rfl, rfl⟩))
  go_ret2
  exact ⟨rfl, draws_refl _⟩
theorem rTwo_14 (k a b : Int) (hk : 1 ≤ k ∧ k ≤ 6) (ha : isN a (widthI k)) (hb : isN b (widthI k)) (w : World) : Calls Tryz.prog 18 #[.int .i64 14, .int .i64 k, .int .i64 a, .int .i64 b] w (TwoPost (twoI 14 k a b).1 (twoI 14 k a b).2 w) := by
  obtain ⟨u0, u1⟩ := see_bd hk ha
  obtain ⟨v0, v1⟩ := see_bd hk hb
  go_enter Tryz.func18, Tryz.ntmps18
  go_wp2_with (first | (go_at_call 13; refine (rWidth_any _ _).mono ?_; rintro e w' ⟨rfl, rfl⟩) | (go_at_call 46; refine (rsee_any _ _ hk (by assumption) _).mono ?_; rintro e w' ⟨rfl, rfl⟩))
  go_ret2
  exact ⟨rfl, draws_refl _⟩
theorem rTwo_15 (k a b : Int) (hk : 1 ≤ k ∧ k ≤ 6) (ha : isN a (widthI k)) (hb : isN b (widthI k)) (w : World) : Calls Tryz.prog 18 #[.int .i64 15, .int .i64 k, .int .i64 a, .int .i64 b] w (TwoPost (twoI 15 k a b).1 (twoI 15 k a b).2 w) := by
  obtain ⟨u0, u1⟩ := see_bd hk ha
  obtain ⟨v0, v1⟩ := see_bd hk hb
  go_enter Tryz.func18, Tryz.ntmps18
  go_wp2_with (first | (go_at_call 13; refine (rWidth_any _ _).mono ?_; rintro e w' ⟨rfl, rfl⟩) | (go_at_call 46; refine (rsee_any _ _ hk (by assumption) _).mono ?_; rintro e w' ⟨rfl, rfl⟩))
  go_ret2
  exact ⟨rfl, draws_refl _⟩
theorem rTwo_18 (k a b : Int) (hk : 1 ≤ k ∧ k ≤ 6) (ha : isN a (widthI k)) (hb : isN b (widthI k)) (w : World) : Calls Tryz.prog 18 #[.int .i64 18, .int .i64 k, .int .i64 a, .int .i64 b] w (TwoPost (twoI 18 k a b).1 (twoI 18 k a b).2 w) := by
  obtain ⟨u0, u1⟩ := see_bd hk ha
  obtain ⟨v0, v1⟩ := see_bd hk hb
  have he : (a == b) = decide (seeI k a = seeI k b) := by rw [Bool.eq_iff_iff]; simp; exact (see_inj hk ha hb).symm
  have HE := Lib.hid he
  clear he
  go_enter Tryz.func18, Tryz.ntmps18
  go_wp2_with (first | (go_at_call 13; refine (rWidth_any _ _).mono ?_; rintro e w' ⟨rfl, rfl⟩) | (go_at_call 46; refine (rsee_any _ _ hk (by assumption) _).mono ?_; rintro e w' ⟨rfl, rfl⟩) | (go_at_call 50; refine (rtruth_any _ _).mono ?_; rintro e w' ⟨rfl, rfl⟩))
  go_ret2
  exact ⟨ret_2 (by rw [HE.out]; rfl) rfl, draws_refl _⟩
theorem rTwo_19 (k a b : Int) (hk : 1 ≤ k ∧ k ≤ 6) (ha : isN a (widthI k)) (hb : isN b (widthI k)) (w : World) : Calls Tryz.prog 18 #[.int .i64 19, .int .i64 k, .int .i64 a, .int .i64 b] w (TwoPost (twoI 19 k a b).1 (twoI 19 k a b).2 w) := by
  obtain ⟨u0, u1⟩ := see_bd hk ha
  obtain ⟨v0, v1⟩ := see_bd hk hb
  go_enter Tryz.func18, Tryz.ntmps18
  go_wp2_with (first | (go_at_call 13; refine (rWidth_any _ _).mono ?_; rintro e w' ⟨rfl, rfl⟩) | (go_at_call 46; refine (rsee_any _ _ hk (by assumption) _).mono ?_; rintro e w' ⟨rfl, rfl⟩) | (go_at_call 50; refine (rtruth_any _ _).mono ?_; rintro e w' ⟨rfl, rfl⟩))
  go_ret2
  exact ⟨rfl, draws_refl _⟩
theorem rTwo_10_s (k a b : Int) (hk : 1 ≤ k ∧ k ≤ 6) (ha : isN a (widthI k)) (hb : isN b (widthI k)) (hs : signedB k = true) (w : World) : Calls Tryz.prog 18 #[.int .i64 10, .int .i64 k, .int .i64 a, .int .i64 b] w (TwoPost (twoI 10 k a b).1 (twoI 10 k a b).2 w) := by
  obtain ⟨u0, u1⟩ := see_bd hk ha
  obtain ⟨v0, v1⟩ := see_bd hk hb
  have cS := fun w => rSigned_any k w
  rw [hs] at cS
  clear hs
  go_enter Tryz.func18, Tryz.ntmps18
  go_wp2_with (first | (go_at_call 13; refine (rWidth_any _ _).mono ?_; rintro e w' ⟨rfl, rfl⟩) | (go_at_call 46; refine (rsee_any _ _ hk (by assumption) _).mono ?_; rintro e w' ⟨rfl, rfl⟩) | (go_at_call 48; refine (cS _).mono ?_; rintro e w' ⟨rfl, rfl⟩) | (go_at_call 47; refine (rFit_any _ _ hk _).mono ?_; rintro e w' ⟨rfl, ⟨n, rfl⟩⟩))
  go_ret2
  exact ⟨rfl, ⟨_, rfl⟩⟩
theorem rTwo_10_u (k a b : Int) (hk : 1 ≤ k ∧ k ≤ 6) (ha : isN a (widthI k)) (hb : isN b (widthI k)) (hs : signedB k = false) (w : World) : Calls Tryz.prog 18 #[.int .i64 10, .int .i64 k, .int .i64 a, .int .i64 b] w (TwoPost (twoI 10 k a b).1 (twoI 10 k a b).2 w) := by
  obtain ⟨u0, u1⟩ := see_bd hk ha
  obtain ⟨v0, v1⟩ := see_bd hk hb
  have cS := fun w => rSigned_any k w
  rw [hs] at cS
  have e1 : twoI 10 k a b = (wrapI (wrap64 (seeI k a * seeI k b)) (widthI k), 0) := fit_yes (fits_u hs)
  rw [e1]
  clear hs e1
  rcases width_isW hk with hw | hw | hw
  all_goals
    have cW := fun w => rWidth_any k w
    rw [hw] at cW ⊢
    have HW := Lib.hid hw
    clear hw
    go_enter Tryz.func18, Tryz.ntmps18
    go_wp2_with (first | (go_at_call 13; refine (cW _).mono ?_; rintro e w' ⟨rfl, rfl⟩) | (go_at_call 46; refine (rsee_any _ _ hk (by assumption) _).mono ?_; rintro e w' ⟨rfl, rfl⟩) | (go_at_call 48; refine (cS _).mono ?_; rintro e w' ⟨rfl, rfl⟩))
    go_ret2
    refine ⟨ret_2 ?_ rfl, draws_refl _⟩
    first | (with_reducible exact mul_mask_8 _ _) | (with_reducible exact mul_mask_16 _ _) | (with_reducible exact mul_mask_32 _ _)
theorem rTwo_16_y (k a b : Int) (hk : 1 ≤ k ∧ k ≤ 6) (ha : isN a (widthI k)) (hb : isN b (widthI k)) (hv : 0 ≤ seeI k b ∧ seeI k b < widthI k) (w : World) : Calls Tryz.prog 18 #[.int .i64 16, .int .i64 k, .int .i64 a, .int .i64 b] w (TwoPost (twoI 16 k a b).1 (twoI 16 k a b).2 w) := by
  obtain ⟨u0, u1⟩ := see_bd hk ha
  obtain ⟨v0, v1⟩ := see_bd hk hb
  have e1 : twoI 16 k a b = (wrapI (wrap64 (a * 2 ^ (seeI k b).toNat)) (widthI k), 0) := if_pos hv
  rw [e1]
  clear e1
  obtain ⟨hv1, hv2⟩ := hv
  have hw32 : widthI k ≤ 32 := by rcases width_isW hk with h | h | h <;> omega
  go_enter Tryz.func18, Tryz.ntmps18
  go_wp2_with (first | (go_at_call 13; refine (rWidth_any _ _).mono ?_; rintro e w' ⟨rfl, rfl⟩) | (go_at_call 46; refine (rsee_any _ _ hk (by assumption) _).mono ?_; rintro e w' ⟨rfl, rfl⟩) | (go_at_call 49; refine (rNum_yes _ _ hv1 (by omega) _).mono ?_; rintro e w' ⟨rfl, rfl⟩) | (go_at_call 29; refine (rWrap_any _ _ (width_isW hk) _).mono ?_; rintro e w' ⟨rfl, rfl⟩))
  go_ret2
  exact ⟨rfl, draws_refl _⟩
theorem rTwo_16_n (k a b : Int) (hk : 1 ≤ k ∧ k ≤ 6) (ha : isN a (widthI k)) (hb : isN b (widthI k)) (hv : ¬ (0 ≤ seeI k b ∧ seeI k b < widthI k)) (w : World) : Calls Tryz.prog 18 #[.int .i64 16, .int .i64 k, .int .i64 a, .int .i64 b] w (TwoPost (twoI 16 k a b).1 (twoI 16 k a b).2 w) := by
  obtain ⟨u0, u1⟩ := see_bd hk ha
  obtain ⟨v0, v1⟩ := see_bd hk hb
  have e1 : twoI 16 k a b = (0, 5) := if_neg hv
  rw [e1]
  clear e1
  have hw32 : 8 ≤ widthI k ∧ widthI k ≤ 32 := by rcases width_isW hk with h | h | h <;> omega
  go_enter Tryz.func18, Tryz.ntmps18
  go_wp2_with (first | (go_at_call 13; refine (rWidth_any _ _).mono ?_; rintro e w' ⟨rfl, rfl⟩) | (go_at_call 46; refine (rsee_any _ _ hk (by assumption) _).mono ?_; rintro e w' ⟨rfl, rfl⟩) | (go_at_call 49; refine (rNum_no _ _ (by omega) _).mono ?_; rintro e w' ⟨rfl, rfl⟩))
  go_ret2
  exact ⟨rfl, draws_refl _⟩
theorem rTwo_17_y (k a b : Int) (hk : 1 ≤ k ∧ k ≤ 6) (ha : isN a (widthI k)) (hb : isN b (widthI k)) (hv : 0 ≤ seeI k b ∧ seeI k b < widthI k) (w : World) : Calls Tryz.prog 18 #[.int .i64 17, .int .i64 k, .int .i64 a, .int .i64 b] w (TwoPost (twoI 17 k a b).1 (twoI 17 k a b).2 w) := by
  obtain ⟨u0, u1⟩ := see_bd hk ha
  obtain ⟨v0, v1⟩ := see_bd hk hb
  have e1 : twoI 17 k a b = (wrapI (seeI k a / 2 ^ (seeI k b).toNat) (widthI k), 0) := if_pos hv
  rw [e1]
  clear e1
  obtain ⟨hv1, hv2⟩ := hv
  have hw32 : widthI k ≤ 32 := by rcases width_isW hk with h | h | h <;> omega
  go_enter Tryz.func18, Tryz.ntmps18
  go_wp2_with (first | (go_at_call 13; refine (rWidth_any _ _).mono ?_; rintro e w' ⟨rfl, rfl⟩) | (go_at_call 46; refine (rsee_any _ _ hk (by assumption) _).mono ?_; rintro e w' ⟨rfl, rfl⟩) | (go_at_call 49; refine (rNum_yes _ _ hv1 (by omega) _).mono ?_; rintro e w' ⟨rfl, rfl⟩) | (go_at_call 29; refine (rWrap_any _ _ (width_isW hk) _).mono ?_; rintro e w' ⟨rfl, rfl⟩))
  go_ret2
  exact ⟨rfl, draws_refl _⟩
theorem rTwo_17_n (k a b : Int) (hk : 1 ≤ k ∧ k ≤ 6) (ha : isN a (widthI k)) (hb : isN b (widthI k)) (hv : ¬ (0 ≤ seeI k b ∧ seeI k b < widthI k)) (w : World) : Calls Tryz.prog 18 #[.int .i64 17, .int .i64 k, .int .i64 a, .int .i64 b] w (TwoPost (twoI 17 k a b).1 (twoI 17 k a b).2 w) := by
  obtain ⟨u0, u1⟩ := see_bd hk ha
  obtain ⟨v0, v1⟩ := see_bd hk hb
  have e1 : twoI 17 k a b = (0, 5) := if_neg hv
  rw [e1]
  clear e1
  have hw32 : 8 ≤ widthI k ∧ widthI k ≤ 32 := by rcases width_isW hk with h | h | h <;> omega
  go_enter Tryz.func18, Tryz.ntmps18
  go_wp2_with (first | (go_at_call 13; refine (rWidth_any _ _).mono ?_; rintro e w' ⟨rfl, rfl⟩) | (go_at_call 46; refine (rsee_any _ _ hk (by assumption) _).mono ?_; rintro e w' ⟨rfl, rfl⟩) | (go_at_call 49; refine (rNum_no _ _ (by omega) _).mono ?_; rintro e w' ⟨rfl, rfl⟩))
  go_ret2
  exact ⟨rfl, draws_refl _⟩
theorem rTwo_11_z (k a b : Int) (hk : 1 ≤ k ∧ k ≤ 6) (ha : isN a (widthI k)) (hb : isN b (widthI k)) (hv : seeI k b = 0) (w : World) : Calls Tryz.prog 18 #[.int .i64 11, .int .i64 k, .int .i64 a, .int .i64 b] w (TwoPost (twoI 11 k a b).1 (twoI 11 k a b).2 w) := by
  obtain ⟨u0, u1⟩ := see_bd hk ha
  obtain ⟨v0, v1⟩ := see_bd hk hb
  have e1 : twoI 11 k a b = (0, 6) := if_pos hv
  rw [e1]
  clear e1
  have cS := fun w => rSigned_any k w
  rcases width_isW hk with hw | hw | hw
  all_goals
    have cW := fun w => rWidth_any k w
    rw [hw] at cW
    have csa := fun w => rsee_any _ _ hk ha w
    have csb := fun w => rsee_any _ _ hk hb w
    have cR := fun n w => rWrap_any n _ (width_isW hk) w
    rw [hw] at cR
    try rw [hw]
    clear hw ha hb
    generalize seeI k a = u at *
    generalize seeI k b = v at *
    subst hv
    go_enter Tryz.func18, Tryz.ntmps18
    go_wp2_with (first | (go_at_call 13; refine (cW _).mono ?_; rintro e w' ⟨rfl, rfl⟩) | (go_at_call 46; ((with_reducible refine (csa _).mono ?_); rintro e w' ⟨rfl, rfl⟩)) | (go_at_call 46; ((with_reducible refine (csb _).mono ?_); rintro e w' ⟨rfl, rfl⟩)) | (go_at_call 48; refine (cS _).mono ?_; rintro e w' ⟨rfl, rfl⟩) | (go_at_call 29; refine (cR _ _).mono ?_; rintro e w' ⟨rfl, rfl⟩))
    go_ret2
    exact ⟨rfl, draws_refl _⟩
theorem rTwo_11_u (k a b : Int) (hk : 1 ≤ k ∧ k ≤ 6) (ha : isN a (widthI k)) (hb : isN b (widthI k)) (hv : ¬ seeI k b = 0) (hs : signedB k = false) (w : World) : Calls Tryz.prog 18 #[.int .i64 11, .int .i64 k, .int .i64 a, .int .i64 b] w (TwoPost (twoI 11 k a b).1 (twoI 11 k a b).2 w) := by
  obtain ⟨u0, u1⟩ := see_bd hk ha
  obtain ⟨v0, v1⟩ := see_bd hk hb
  have e1 : twoI 11 k a b = (wrapI (wrap64 ((seeI k a).tdiv (seeI k b))) (widthI k), 0) := (if_neg hv).trans (if_neg (fun h => by rw [hs] at h; exact absurd h.1 (by decide)))
  rw [e1]
  clear e1
  have cS := fun w => rSigned_any k w
  rw [hs] at cS
  clear hs
  rcases width_isW hk with hw | hw | hw
  all_goals
    have cW := fun w => rWidth_any k w
    rw [hw] at cW
    have csa := fun w => rsee_any _ _ hk ha w
    have csb := fun w => rsee_any _ _ hk hb w
    have cR := fun n w => rWrap_any n _ (width_isW hk) w
    rw [hw] at cR
    try rw [hw]
    clear hw ha hb
    generalize seeI k a = u at *
    generalize seeI k b = v at *
    have g3 : (v == 0) = false := by simp; omega
    go_enter Tryz.func18, Tryz.ntmps18
    go_wp2_with (first | (go_at_call 13; refine (cW _).mono ?_; rintro e w' ⟨rfl, rfl⟩) | (go_at_call 46; ((with_reducible refine (csa _).mono ?_); rintro e w' ⟨rfl, rfl⟩)) | (go_at_call 46; ((with_reducible refine (csb _).mono ?_); rintro e w' ⟨rfl, rfl⟩)) | (go_at_call 48; refine (cS _).mono ?_; rintro e w' ⟨rfl, rfl⟩) | (go_at_call 29; refine (cR _ _).mono ?_; rintro e w' ⟨rfl, rfl⟩))
    go_ret2
    exact ⟨rfl, draws_refl _⟩
theorem rTwo_11_a (k a b : Int) (hk : 1 ≤ k ∧ k ≤ 6) (ha : isN a (widthI k)) (hb : isN b (widthI k)) (hv : ¬ seeI k b = 0) (hs : signedB k = true) (hu : ¬ seeI k a = -(halfI k)) (w : World) : Calls Tryz.prog 18 #[.int .i64 11, .int .i64 k, .int .i64 a, .int .i64 b] w (TwoPost (twoI 11 k a b).1 (twoI 11 k a b).2 w) := by
  obtain ⟨u0, u1⟩ := see_bd hk ha
  obtain ⟨v0, v1⟩ := see_bd hk hb
  have e1 : twoI 11 k a b = (wrapI (wrap64 ((seeI k a).tdiv (seeI k b))) (widthI k), 0) := (if_neg hv).trans (if_neg (fun h => hu h.2.1))
  rw [e1]
  clear e1
  have cS := fun w => rSigned_any k w
  rw [hs] at cS
  clear hs
  rcases width_isW hk with hw | hw | hw
  all_goals
    have cW := fun w => rWidth_any k w
    unfold halfI at hu
    simp only [hw, Int.reduceToNat, Int.reduceSub, Nat.reduceSub, Int.reducePow] at hu
    rw [hw] at cW
    have csa := fun w => rsee_any _ _ hk ha w
    have csb := fun w => rsee_any _ _ hk hb w
    have cR := fun n w => rWrap_any n _ (width_isW hk) w
    rw [hw] at cR
    try rw [hw]
    clear hw ha hb
    generalize seeI k a = u at *
    generalize seeI k b = v at *
    have g3 : (v == 0) = false := by simp; omega
    first | (have g1 : (u == -128) = false := by simp; omega) | skip
    first | (have g4 : (u == -32768) = false := by simp; omega) | skip
    first | (have g5 : (u == -2147483648) = false := by simp; omega) | skip
    go_enter Tryz.func18, Tryz.ntmps18
    go_wp2_with (first | (go_at_call 13; refine (cW _).mono ?_; rintro e w' ⟨rfl, rfl⟩) | (go_at_call 46; ((with_reducible refine (csa _).mono ?_); rintro e w' ⟨rfl, rfl⟩)) | (go_at_call 46; ((with_reducible refine (csb _).mono ?_); rintro e w' ⟨rfl, rfl⟩)) | (go_at_call 48; refine (cS _).mono ?_; rintro e w' ⟨rfl, rfl⟩) | (go_at_call 29; refine (cR _ _).mono ?_; rintro e w' ⟨rfl, rfl⟩))
    go_ret2
    exact ⟨rfl, draws_refl _⟩
theorem rTwo_11_b (k a b : Int) (hk : 1 ≤ k ∧ k ≤ 6) (ha : isN a (widthI k)) (hb : isN b (widthI k)) (hv : ¬ seeI k b = 0) (hs : signedB k = true) (hu : seeI k a = -(halfI k)) (hm : ¬ seeI k b = -1) (w : World) : Calls Tryz.prog 18 #[.int .i64 11, .int .i64 k, .int .i64 a, .int .i64 b] w (TwoPost (twoI 11 k a b).1 (twoI 11 k a b).2 w) := by
  obtain ⟨u0, u1⟩ := see_bd hk ha
  obtain ⟨v0, v1⟩ := see_bd hk hb
  have e1 : twoI 11 k a b = (wrapI (wrap64 ((seeI k a).tdiv (seeI k b))) (widthI k), 0) := (if_neg hv).trans (if_neg (fun h => hm h.2.2))
  rw [e1]
  clear e1
  have cS := fun w => rSigned_any k w
  rw [hs] at cS
  clear hs
  rcases width_isW hk with hw | hw | hw
  all_goals
    have cW := fun w => rWidth_any k w
    unfold halfI at hu
    simp only [hw, Int.reduceToNat, Int.reduceSub, Nat.reduceSub, Int.reducePow] at hu
    rw [hw] at cW
    have csa := fun w => rsee_any _ _ hk ha w
    have csb := fun w => rsee_any _ _ hk hb w
    have cR := fun n w => rWrap_any n _ (width_isW hk) w
    rw [hw] at cR
    try rw [hw]
    clear hw ha hb
    generalize seeI k a = u at *
    generalize seeI k b = v at *
    first | (have g1 : (u == -128) = true := by simp; omega) | skip
    first | (have g4 : (u == -32768) = true := by simp; omega) | skip
    first | (have g5 : (u == -2147483648) = true := by simp; omega) | skip
    clear hu
    have g2 : (v == -1) = false := by simp; omega
    have g3 : (v == 0) = false := by simp; omega
    go_enter Tryz.func18, Tryz.ntmps18
    go_wp2_with (first | (go_at_call 13; refine (cW _).mono ?_; rintro e w' ⟨rfl, rfl⟩) | (go_at_call 46; ((with_reducible refine (csa _).mono ?_); rintro e w' ⟨rfl, rfl⟩)) | (go_at_call 46; ((with_reducible refine (csb _).mono ?_); rintro e w' ⟨rfl, rfl⟩)) | (go_at_call 48; refine (cS _).mono ?_; rintro e w' ⟨rfl, rfl⟩) | (go_at_call 29; refine (cR _ _).mono ?_; rintro e w' ⟨rfl, rfl⟩))
    go_ret2
    exact ⟨rfl, draws_refl _⟩
theorem rTwo_11_o (k a b : Int) (hk : 1 ≤ k ∧ k ≤ 6) (ha : isN a (widthI k)) (hb : isN b (widthI k)) (hv : ¬ seeI k b = 0) (hs : signedB k = true) (hu : seeI k a = -(halfI k)) (hm : seeI k b = -1) (w : World) : Calls Tryz.prog 18 #[.int .i64 11, .int .i64 k, .int .i64 a, .int .i64 b] w (TwoPost (twoI 11 k a b).1 (twoI 11 k a b).2 w) := by
  obtain ⟨u0, u1⟩ := see_bd hk ha
  obtain ⟨v0, v1⟩ := see_bd hk hb
  have e1 : twoI 11 k a b = (0, 4) := (if_neg hv).trans (if_pos ⟨hs, hu, hm⟩)
  rw [e1]
  clear e1
  have cS := fun w => rSigned_any k w
  rw [hs] at cS
  clear hs
  rcases width_isW hk with hw | hw | hw
  all_goals
    have cW := fun w => rWidth_any k w
    unfold halfI at hu
    simp only [hw, Int.reduceToNat, Int.reduceSub, Nat.reduceSub, Int.reducePow] at hu
    rw [hw] at cW
    have csa := fun w => rsee_any _ _ hk ha w
    have csb := fun w => rsee_any _ _ hk hb w
    have cR := fun n w => rWrap_any n _ (width_isW hk) w
    rw [hw] at cR
    try rw [hw]
    clear hw ha hb
    generalize seeI k a = u at *
    generalize seeI k b = v at *
    subst hu
    subst hm
    go_enter Tryz.func18, Tryz.ntmps18
    go_wp2_with (first | (go_at_call 13; refine (cW _).mono ?_; rintro e w' ⟨rfl, rfl⟩) | (go_at_call 46; ((with_reducible refine (csa _).mono ?_); rintro e w' ⟨rfl, rfl⟩)) | (go_at_call 46; ((with_reducible refine (csb _).mono ?_); rintro e w' ⟨rfl, rfl⟩)) | (go_at_call 48; refine (cS _).mono ?_; rintro e w' ⟨rfl, rfl⟩) | (go_at_call 29; refine (cR _ _).mono ?_; rintro e w' ⟨rfl, rfl⟩))
    go_ret2
    exact ⟨rfl, draws_refl _⟩
theorem rTwo_12_z (k a b : Int) (hk : 1 ≤ k ∧ k ≤ 6) (ha : isN a (widthI k)) (hb : isN b (widthI k)) (hv : seeI k b = 0) (w : World) : Calls Tryz.prog 18 #[.int .i64 12, .int .i64 k, .int .i64 a, .int .i64 b] w (TwoPost (twoI 12 k a b).1 (twoI 12 k a b).2 w) := by
  obtain ⟨u0, u1⟩ := see_bd hk ha
  obtain ⟨v0, v1⟩ := see_bd hk hb
  have e1 : twoI 12 k a b = (0, 6) := if_pos hv
  rw [e1]
  clear e1
  have cS := fun w => rSigned_any k w
  rcases width_isW hk with hw | hw | hw
  all_goals
    have cW := fun w => rWidth_any k w
    rw [hw] at cW
    have csa := fun w => rsee_any _ _ hk ha w
    have csb := fun w => rsee_any _ _ hk hb w
    have cR := fun n w => rWrap_any n _ (width_isW hk) w
    rw [hw] at cR
    try rw [hw]
    clear hw ha hb
    generalize seeI k a = u at *
    generalize seeI k b = v at *
    subst hv
    go_enter Tryz.func18, Tryz.ntmps18
    go_wp2_with (first | (go_at_call 13; refine (cW _).mono ?_; rintro e w' ⟨rfl, rfl⟩) | (go_at_call 46; ((with_reducible refine (csa _).mono ?_); rintro e w' ⟨rfl, rfl⟩)) | (go_at_call 46; ((with_reducible refine (csb _).mono ?_); rintro e w' ⟨rfl, rfl⟩)) | (go_at_call 48; refine (cS _).mono ?_; rintro e w' ⟨rfl, rfl⟩) | (go_at_call 29; refine (cR _ _).mono ?_; rintro e w' ⟨rfl, rfl⟩))
    go_ret2
    exact ⟨rfl, draws_refl _⟩
theorem rTwo_12_u (k a b : Int) (hk : 1 ≤ k ∧ k ≤ 6) (ha : isN a (widthI k)) (hb : isN b (widthI k)) (hv : ¬ seeI k b = 0) (hs : signedB k = false) (w : World) : Calls Tryz.prog 18 #[.int .i64 12, .int .i64 k, .int .i64 a, .int .i64 b] w (TwoPost (twoI 12 k a b).1 (twoI 12 k a b).2 w) := by
  obtain ⟨u0, u1⟩ := see_bd hk ha
  obtain ⟨v0, v1⟩ := see_bd hk hb
  have e1 : twoI 12 k a b = (wrapI ((seeI k a).tmod (seeI k b)) (widthI k), 0) := (if_neg hv).trans (if_neg (fun h => by rw [hs] at h; exact absurd h.1 (by decide)))
  rw [e1]
  clear e1
  have cS := fun w => rSigned_any k w
  rw [hs] at cS
  clear hs
  rcases width_isW hk with hw | hw | hw
  all_goals
    have cW := fun w => rWidth_any k w
    rw [hw] at cW
    have csa := fun w => rsee_any _ _ hk ha w
    have csb := fun w => rsee_any _ _ hk hb w
    have cR := fun n w => rWrap_any n _ (width_isW hk) w
    rw [hw] at cR
    try rw [hw]
    clear hw ha hb
    generalize seeI k a = u at *
    generalize seeI k b = v at *
    have g3 : (v == 0) = false := by simp; omega
    go_enter Tryz.func18, Tryz.ntmps18
    go_wp2_with (first | (go_at_call 13; refine (cW _).mono ?_; rintro e w' ⟨rfl, rfl⟩) | (go_at_call 46; ((with_reducible refine (csa _).mono ?_); rintro e w' ⟨rfl, rfl⟩)) | (go_at_call 46; ((with_reducible refine (csb _).mono ?_); rintro e w' ⟨rfl, rfl⟩)) | (go_at_call 48; refine (cS _).mono ?_; rintro e w' ⟨rfl, rfl⟩) | (go_at_call 29; refine (cR _ _).mono ?_; rintro e w' ⟨rfl, rfl⟩))
    go_ret2
    exact ⟨rfl, draws_refl _⟩
theorem rTwo_12_a (k a b : Int) (hk : 1 ≤ k ∧ k ≤ 6) (ha : isN a (widthI k)) (hb : isN b (widthI k)) (hv : ¬ seeI k b = 0) (hs : signedB k = true) (hu : ¬ seeI k a = -(halfI k)) (w : World) : Calls Tryz.prog 18 #[.int .i64 12, .int .i64 k, .int .i64 a, .int .i64 b] w (TwoPost (twoI 12 k a b).1 (twoI 12 k a b).2 w) := by
  obtain ⟨u0, u1⟩ := see_bd hk ha
  obtain ⟨v0, v1⟩ := see_bd hk hb
  have e1 : twoI 12 k a b = (wrapI ((seeI k a).tmod (seeI k b)) (widthI k), 0) := (if_neg hv).trans (if_neg (fun h => hu h.2.1))
  rw [e1]
  clear e1
  have cS := fun w => rSigned_any k w
  rw [hs] at cS
  clear hs
  rcases width_isW hk with hw | hw | hw
  all_goals
    have cW := fun w => rWidth_any k w
    unfold halfI at hu
    simp only [hw, Int.reduceToNat, Int.reduceSub, Nat.reduceSub, Int.reducePow] at hu
    rw [hw] at cW
    have csa := fun w => rsee_any _ _ hk ha w
    have csb := fun w => rsee_any _ _ hk hb w
    have cR := fun n w => rWrap_any n _ (width_isW hk) w
    rw [hw] at cR
    try rw [hw]
    clear hw ha hb
    generalize seeI k a = u at *
    generalize seeI k b = v at *
    have g3 : (v == 0) = false := by simp; omega
    first | (have g1 : (u == -128) = false := by simp; omega) | skip
    first | (have g4 : (u == -32768) = false := by simp; omega) | skip
    first | (have g5 : (u == -2147483648) = false := by simp; omega) | skip
    go_enter Tryz.func18, Tryz.ntmps18
    go_wp2_with (first | (go_at_call 13; refine (cW _).mono ?_; rintro e w' ⟨rfl, rfl⟩) | (go_at_call 46; ((with_reducible refine (csa _).mono ?_); rintro e w' ⟨rfl, rfl⟩)) | (go_at_call 46; ((with_reducible refine (csb _).mono ?_); rintro e w' ⟨rfl, rfl⟩)) | (go_at_call 48; refine (cS _).mono ?_; rintro e w' ⟨rfl, rfl⟩) | (go_at_call 29; refine (cR _ _).mono ?_; rintro e w' ⟨rfl, rfl⟩))
    go_ret2
    exact ⟨rfl, draws_refl _⟩
theorem rTwo_12_b (k a b : Int) (hk : 1 ≤ k ∧ k ≤ 6) (ha : isN a (widthI k)) (hb : isN b (widthI k)) (hv : ¬ seeI k b = 0) (hs : signedB k = true) (hu : seeI k a = -(halfI k)) (hm : ¬ seeI k b = -1) (w : World) : Calls Tryz.prog 18 #[.int .i64 12, .int .i64 k, .int .i64 a, .int .i64 b] w (TwoPost (twoI 12 k a b).1 (twoI 12 k a b).2 w) := by
  obtain ⟨u0, u1⟩ := see_bd hk ha
  obtain ⟨v0, v1⟩ := see_bd hk hb
  have e1 : twoI 12 k a b = (wrapI ((seeI k a).tmod (seeI k b)) (widthI k), 0) := (if_neg hv).trans (if_neg (fun h => hm h.2.2))
  rw [e1]
  clear e1
  have cS := fun w => rSigned_any k w
  rw [hs] at cS
  clear hs
  rcases width_isW hk with hw | hw | hw
  all_goals
    have cW := fun w => rWidth_any k w
    unfold halfI at hu
    simp only [hw, Int.reduceToNat, Int.reduceSub, Nat.reduceSub, Int.reducePow] at hu
    rw [hw] at cW
    have csa := fun w => rsee_any _ _ hk ha w
    have csb := fun w => rsee_any _ _ hk hb w
    have cR := fun n w => rWrap_any n _ (width_isW hk) w
    rw [hw] at cR
    try rw [hw]
    clear hw ha hb
    generalize seeI k a = u at *
    generalize seeI k b = v at *
    first | (have g1 : (u == -128) = true := by simp; omega) | skip
    first | (have g4 : (u == -32768) = true := by simp; omega) | skip
    first | (have g5 : (u == -2147483648) = true := by simp; omega) | skip
    clear hu
    have g2 : (v == -1) = false := by simp; omega
    have g3 : (v == 0) = false := by simp; omega
    go_enter Tryz.func18, Tryz.ntmps18
    go_wp2_with (first | (go_at_call 13; refine (cW _).mono ?_; rintro e w' ⟨rfl, rfl⟩) | (go_at_call 46; ((with_reducible refine (csa _).mono ?_); rintro e w' ⟨rfl, rfl⟩)) | (go_at_call 46; ((with_reducible refine (csb _).mono ?_); rintro e w' ⟨rfl, rfl⟩)) | (go_at_call 48; refine (cS _).mono ?_; rintro e w' ⟨rfl, rfl⟩) | (go_at_call 29; refine (cR _ _).mono ?_; rintro e w' ⟨rfl, rfl⟩))
    go_ret2
    exact ⟨rfl, draws_refl _⟩
theorem rTwo_12_o (k a b : Int) (hk : 1 ≤ k ∧ k ≤ 6) (ha : isN a (widthI k)) (hb : isN b (widthI k)) (hv : ¬ seeI k b = 0) (hs : signedB k = true) (hu : seeI k a = -(halfI k)) (hm : seeI k b = -1) (w : World) : Calls Tryz.prog 18 #[.int .i64 12, .int .i64 k, .int .i64 a, .int .i64 b] w (TwoPost (twoI 12 k a b).1 (twoI 12 k a b).2 w) := by
  obtain ⟨u0, u1⟩ := see_bd hk ha
  obtain ⟨v0, v1⟩ := see_bd hk hb
  have e1 : twoI 12 k a b = (0, 4) := (if_neg hv).trans (if_pos ⟨hs, hu, hm⟩)
  rw [e1]
  clear e1
  have cS := fun w => rSigned_any k w
  rw [hs] at cS
  clear hs
  rcases width_isW hk with hw | hw | hw
  all_goals
    have cW := fun w => rWidth_any k w
    unfold halfI at hu
    simp only [hw, Int.reduceToNat, Int.reduceSub, Nat.reduceSub, Int.reducePow] at hu
    rw [hw] at cW
    have csa := fun w => rsee_any _ _ hk ha w
    have csb := fun w => rsee_any _ _ hk hb w
    have cR := fun n w => rWrap_any n _ (width_isW hk) w
    rw [hw] at cR
    try rw [hw]
    clear hw ha hb
    generalize seeI k a = u at *
    generalize seeI k b = v at *
    subst hu
    subst hm
    go_enter Tryz.func18, Tryz.ntmps18
    go_wp2_with (first | (go_at_call 13; refine (cW _).mono ?_; rintro e w' ⟨rfl, rfl⟩) | (go_at_call 46; ((with_reducible refine (csa _).mono ?_); rintro e w' ⟨rfl, rfl⟩)) | (go_at_call 46; ((with_reducible refine (csb _).mono ?_); rintro e w' ⟨rfl, rfl⟩)) | (go_at_call 48; refine (cS _).mono ?_; rintro e w' ⟨rfl, rfl⟩) | (go_at_call 29; refine (cR _ _).mono ?_; rintro e w' ⟨rfl, rfl⟩))
    go_ret2
    exact ⟨rfl, draws_refl _⟩
end Go.Proofs.YtblahbmhbfcggaaGreatDoor.Al

/- The document's own operators, put together; what may be asked. -/
namespace Go.Proofs.YtblahbmhbfcggaaGreatDoor.Al
open Go.ChangeShapes Go.WideShapes Go.ChangeAt Go.RowKit Go.Joins Go.Deep
set_option linter.unusedVariables false

theorem rTwo_any (o k a b : Int) (ho : 8 ≤ o ∧ o ≤ 19) (hk : 1 ≤ k ∧ k ≤ 6) (ha : isN a (widthI k)) (hb : isN b (widthI k)) (w : World) : Calls Tryz.prog 18 #[.int .i64 o, .int .i64 k, .int .i64 a, .int .i64 b] w (TwoPost (twoI o k a b).1 (twoI o k a b).2 w) := by
  obtain rfl | rfl | rfl | rfl | rfl | rfl | rfl | rfl | rfl | rfl | rfl | rfl : o = 8 ∨ o = 9 ∨ o = 10 ∨ o = 11 ∨ o = 12 ∨ o = 13 ∨ o = 14 ∨ o = 15 ∨ o = 16 ∨ o = 17 ∨ o = 18 ∨ o = 19 := by omega
  · exact rTwo_8 k a b hk ha hb w
  · exact rTwo_9 k a b hk ha hb w
  · cases hs : signedB k
    · exact rTwo_10_u k a b hk ha hb hs w
    · exact rTwo_10_s k a b hk ha hb hs w
  · by_cases hv : seeI k b = 0
    · exact rTwo_11_z k a b hk ha hb hv w
    · cases hs : signedB k
      · exact rTwo_11_u k a b hk ha hb hv hs w
      · by_cases hu : seeI k a = -(halfI k)
        · by_cases hm : seeI k b = -1
          · exact rTwo_11_o k a b hk ha hb hv hs hu hm w
          · exact rTwo_11_b k a b hk ha hb hv hs hu hm w
        · exact rTwo_11_a k a b hk ha hb hv hs hu w
  · by_cases hv : seeI k b = 0
    · exact rTwo_12_z k a b hk ha hb hv w
    · cases hs : signedB k
      · exact rTwo_12_u k a b hk ha hb hv hs w
      · by_cases hu : seeI k a = -(halfI k)
        · by_cases hm : seeI k b = -1
          · exact rTwo_12_o k a b hk ha hb hv hs hu hm w
          · exact rTwo_12_b k a b hk ha hb hv hs hu hm w
        · exact rTwo_12_a k a b hk ha hb hv hs hu w
  · exact rTwo_13 k a b hk ha hb w
  · exact rTwo_14 k a b hk ha hb w
  · exact rTwo_15 k a b hk ha hb w
  · by_cases hv : 0 ≤ seeI k b ∧ seeI k b < widthI k
    · exact rTwo_16_y k a b hk ha hb hv w
    · exact rTwo_16_n k a b hk ha hb hv w
  · by_cases hv : 0 ≤ seeI k b ∧ seeI k b < widthI k
    · exact rTwo_17_y k a b hk ha hb hv w
    · exact rTwo_17_n k a b hk ha hb hv w
  · exact rTwo_18 k a b hk ha hb w
  · exact rTwo_19 k a b hk ha hb w

theorem rMayTwo_yes (o k : Int) (ho : 8 ≤ o ∧ o ≤ 19) (hk : 1 ≤ k ∧ k ≤ 6) (w : World) : Calls Tryz.prog 11 #[.int .i64 o, .int .i64 k] w fun e w' => e = .returned (.bool true) ∧ w = w' := by
  have hp := width_pos hk
  go_enter Tryz.func11, Tryz.ntmps11
  go_wp2_with (first | (go_at_call 36; refine (Between_yes _ _ _ ho.1 ho.2 _).mono ?_; rintro e w' ⟨rfl, rfl⟩) | (go_at_call 13; refine (rWidth_any _ _).mono ?_; rintro e w' ⟨rfl, rfl⟩))
  go_ret
  first | exact ⟨rfl, rfl⟩ | (refine ⟨ret_b ?_, rfl⟩; simp; omega)
theorem rMayTwo_no_o (o k : Int) (ho : ¬ (8 ≤ o ∧ o ≤ 19)) (w : World) : Calls Tryz.prog 11 #[.int .i64 o, .int .i64 k] w fun e w' => e = .returned (.bool false) ∧ w = w' := by
  go_enter Tryz.func11, Tryz.ntmps11
  go_wp2_with (first | (go_at_call 36; refine (Between_no _ _ _ ho _).mono ?_; rintro e w' ⟨rfl, rfl⟩))
  go_ret
  first | exact ⟨rfl, rfl⟩ | (refine ⟨ret_b ?_, rfl⟩; simp; omega)
theorem rMayTwo_no_k (o k : Int) (ho : 8 ≤ o ∧ o ≤ 19) (hk : ¬ (1 ≤ k ∧ k ≤ 6)) (w : World) : Calls Tryz.prog 11 #[.int .i64 o, .int .i64 k] w fun e w' => e = .returned (.bool false) ∧ w = w' := by
  have cW := fun w => rWidth_any k w
  rw [width_no hk] at cW
  go_enter Tryz.func11, Tryz.ntmps11
  go_wp2_with (first | (go_at_call 36; refine (Between_yes _ _ _ ho.1 ho.2 _).mono ?_; rintro e w' ⟨rfl, rfl⟩) | (go_at_call 13; refine (cW _).mono ?_; rintro e w' ⟨rfl, rfl⟩))
  go_ret
  first | exact ⟨rfl, rfl⟩ | (refine ⟨ret_b ?_, rfl⟩; simp; omega)

theorem rMayOne_yes (o k : Int) (ho : 5 ≤ o ∧ o ≤ 7) (hk : 1 ≤ k ∧ k ≤ 6) (w : World) : Calls Tryz.prog 24 #[.int .i64 o, .int .i64 k] w fun e w' => e = .returned (.bool true) ∧ w = w' := by
  have hp := width_pos hk
  go_enter Tryz.func24, Tryz.ntmps24
  go_wp2_with (first | (go_at_call 36; refine (Between_yes _ _ _ ho.1 ho.2 _).mono ?_; rintro e w' ⟨rfl, rfl⟩) | (go_at_call 13; refine (rWidth_any _ _).mono ?_; rintro e w' ⟨rfl, rfl⟩))
  go_ret
  first | exact ⟨rfl, rfl⟩ | (refine ⟨ret_b ?_, rfl⟩; simp; omega)
theorem rMayOne_no_o (o k : Int) (ho : ¬ (5 ≤ o ∧ o ≤ 7)) (w : World) : Calls Tryz.prog 24 #[.int .i64 o, .int .i64 k] w fun e w' => e = .returned (.bool false) ∧ w = w' := by
  go_enter Tryz.func24, Tryz.ntmps24
  go_wp2_with (first | (go_at_call 36; refine (Between_no _ _ _ ho _).mono ?_; rintro e w' ⟨rfl, rfl⟩))
  go_ret
  first | exact ⟨rfl, rfl⟩ | (refine ⟨ret_b ?_, rfl⟩; simp; omega)
theorem rMayOne_no_k (o k : Int) (ho : 5 ≤ o ∧ o ≤ 7) (hk : ¬ (1 ≤ k ∧ k ≤ 6)) (w : World) : Calls Tryz.prog 24 #[.int .i64 o, .int .i64 k] w fun e w' => e = .returned (.bool false) ∧ w = w' := by
  have cW := fun w => rWidth_any k w
  rw [width_no hk] at cW
  go_enter Tryz.func24, Tryz.ntmps24
  go_wp2_with (first | (go_at_call 36; refine (Between_yes _ _ _ ho.1 ho.2 _).mono ?_; rintro e w' ⟨rfl, rfl⟩) | (go_at_call 13; refine (cW _).mono ?_; rintro e w' ⟨rfl, rfl⟩))
  go_ret
  first | exact ⟨rfl, rfl⟩ | (refine ⟨ret_b ?_, rfl⟩; simp; omega)

theorem isN_0 {k : Int} (hk : 1 ≤ k ∧ k ≤ 6) : isN 0 (widthI k) := by
  rcases width_isW hk with h | h | h <;> rw [h] <;> simp [isN]
def oneI (op k a : Int) : Int × Int :=
  if op = 5 then twoI 9 k 0 a
  else if op = 6 then (wrapI (bits .xor .i64 (-1) a) (widthI k), 0)
  else (truthI (decide (a = 0)), 0)
theorem rOne_5 (k a : Int) (hk : 1 ≤ k ∧ k ≤ 6) (ha : isN a (widthI k)) (w : World) : Calls Tryz.prog 25 #[.int .i64 5, .int .i64 k, .int .i64 a] w (TwoPost (oneI 5 k a).1 (oneI 5 k a).2 w) := by
  have e1 : oneI 5 k a = twoI 9 k 0 a := if_pos rfl
  rw [e1]
  clear e1
  generalize hq : twoI 9 k 0 a = q
  have c := fun w => rTwo_9 k 0 a hk (isN_0 hk) ha w
  rw [hq] at c
  clear hq
  go_enter Tryz.func25, Tryz.ntmps25
  go_wp2_with (go_at_call 18; refine (c _).mono ?_; rintro e w' ⟨rfl, ⟨n, rfl⟩⟩)
  go_ret2
  exact ⟨rfl, ⟨_, rfl⟩⟩
theorem rOne_6 (k a : Int) (hk : 1 ≤ k ∧ k ≤ 6) (ha : isN a (widthI k)) (w : World) : Calls Tryz.prog 25 #[.int .i64 6, .int .i64 k, .int .i64 a] w (TwoPost (oneI 6 k a).1 (oneI 6 k a).2 w) := by
  have e1 : oneI 6 k a = (wrapI (bits .xor .i64 (-1) a) (widthI k), 0) := (if_neg (by decide)).trans (if_pos rfl)
  rw [e1]
  clear e1
  have hsg : IntKind.i64.signed = true := rfl
  go_enter Tryz.func25, Tryz.ntmps25
  go_wp2_with (first | (go_at_call 13; refine (rWidth_any _ _).mono ?_; rintro e w' ⟨rfl, rfl⟩) | (go_at_call 29; refine (rWrap_any _ _ (width_isW hk) _).mono ?_; rintro e w' ⟨rfl, rfl⟩))
  go_ret2
  exact ⟨rfl, draws_refl _⟩
theorem rOne_7 (k a : Int) (hk : 1 ≤ k ∧ k ≤ 6) (ha : isN a (widthI k)) (w : World) : Calls Tryz.prog 25 #[.int .i64 7, .int .i64 k, .int .i64 a] w (TwoPost (oneI 7 k a).1 (oneI 7 k a).2 w) := by
  have e1 : oneI 7 k a = (truthI (a == 0), 0) := (if_neg (by decide)).trans (if_neg (by decide))
  rw [e1]
  clear e1
  go_enter Tryz.func25, Tryz.ntmps25
  go_wp2_with (first | (go_at_call 50; refine (rtruth_any _ _).mono ?_; rintro e w' ⟨rfl, rfl⟩))
  go_ret2
  exact ⟨rfl, draws_refl _⟩
theorem rOne_any (o k a : Int) (ho : 5 ≤ o ∧ o ≤ 7) (hk : 1 ≤ k ∧ k ≤ 6) (ha : isN a (widthI k)) (w : World) : Calls Tryz.prog 25 #[.int .i64 o, .int .i64 k, .int .i64 a] w (TwoPost (oneI o k a).1 (oneI o k a).2 w) := by
  obtain rfl | rfl | rfl : o = 5 ∨ o = 6 ∨ o = 7 := by omega
  · exact rOne_5 k a hk ha w
  · exact rOne_6 k a hk ha w
  · exact rOne_7 k a hk ha w
end Go.Proofs.YtblahbmhbfcggaaGreatDoor.Al
