/- The document's own operators, put together; what may be asked. -/
import Derived.Test.YtbamphfoobmblaaRefTwo
namespace Go.Proofs.Ytbamphfoobmblaa
open Go.ChangeShapes Go.WideShapes Go.ChangeAt Go.RowKit Go.Joins Go.Deep
set_option linter.unusedVariables false

theorem rTwo_any (o k a b : Int) (ho : 8 ≤ o ∧ o ≤ 19) (hk : 1 ≤ k ∧ k ≤ 6) (ha : isN a (widthI k)) (hb : isN b (widthI k)) (w : World) : Calls Try.prog 34 #[.int .i64 o, .int .i64 k, .int .i64 a, .int .i64 b] w (TwoPost (twoI o k a b).1 (twoI o k a b).2 w) := by
  obtain rfl | rfl | rfl | rfl | rfl | rfl | rfl | rfl | rfl | rfl | rfl | rfl : o = 8 ∨ o = 9 ∨ o = 10 ∨ o = 11 ∨ o = 12 ∨ o = 13 ∨ o = 14 ∨ o = 15 ∨ o = 16 ∨ o = 17 ∨ o = 18 ∨ o = 19 := by omega
  · exact rTwo_8 k a b hk ha hb w
  · exact rTwo_9 k a b hk ha hb w
  · cases hs : signedB k
    · exact rTwo_10_u k a b hk ha hb hs w
    · exact rTwo_10_s k a b hk ha hb hs w
  · by_cases hv : seeI k b = 0
    · exact rTwo_11_z k a b hk ha hb hv w
    · cases hs : signedB k
      · exact rTwo_11_u k a b hk ha hb hv hs w
      · by_cases hu : seeI k a = -(halfI k)
        · by_cases hm : seeI k b = -1
          · exact rTwo_11_o k a b hk ha hb hv hs hu hm w
          · exact rTwo_11_b k a b hk ha hb hv hs hu hm w
        · exact rTwo_11_a k a b hk ha hb hv hs hu w
  · by_cases hv : seeI k b = 0
    · exact rTwo_12_z k a b hk ha hb hv w
    · cases hs : signedB k
      · exact rTwo_12_u k a b hk ha hb hv hs w
      · by_cases hu : seeI k a = -(halfI k)
        · by_cases hm : seeI k b = -1
          · exact rTwo_12_o k a b hk ha hb hv hs hu hm w
          · exact rTwo_12_b k a b hk ha hb hv hs hu hm w
        · exact rTwo_12_a k a b hk ha hb hv hs hu w
  · exact rTwo_13 k a b hk ha hb w
  · exact rTwo_14 k a b hk ha hb w
  · exact rTwo_15 k a b hk ha hb w
  · by_cases hv : 0 ≤ seeI k b ∧ seeI k b < widthI k
    · exact rTwo_16_y k a b hk ha hb hv w
    · exact rTwo_16_n k a b hk ha hb hv w
  · by_cases hv : 0 ≤ seeI k b ∧ seeI k b < widthI k
    · exact rTwo_17_y k a b hk ha hb hv w
    · exact rTwo_17_n k a b hk ha hb hv w
  · exact rTwo_18 k a b hk ha hb w
  · exact rTwo_19 k a b hk ha hb w

theorem rMayTwo_yes (o k : Int) (ho : 8 ≤ o ∧ o ≤ 19) (hk : 1 ≤ k ∧ k ≤ 6) (w : World) : Calls Try.prog 33 #[.int .i64 o, .int .i64 k] w fun e w' => e = .returned (.bool true) ∧ w = w' := by
  have hp := width_pos hk
  go_enter Try.func33, Try.ntmps33
  go_wp2_with (first | (go_at_call 48; refine (Between_yes _ _ _ ho.1 ho.2 _).mono ?_; rintro e w' ⟨rfl, rfl⟩) | (go_at_call 26; refine (rWidth_any _ _).mono ?_; rintro e w' ⟨rfl, rfl⟩))
  go_ret
  first | exact ⟨rfl, rfl⟩ | (refine ⟨ret_b ?_, rfl⟩; simp; omega)
theorem rMayTwo_no_o (o k : Int) (ho : ¬ (8 ≤ o ∧ o ≤ 19)) (w : World) : Calls Try.prog 33 #[.int .i64 o, .int .i64 k] w fun e w' => e = .returned (.bool false) ∧ w = w' := by
  go_enter Try.func33, Try.ntmps33
  go_wp2_with (first | (go_at_call 48; refine (Between_no _ _ _ ho _).mono ?_; rintro e w' ⟨rfl, rfl⟩))
  go_ret
  first | exact ⟨rfl, rfl⟩ | (refine ⟨ret_b ?_, rfl⟩; simp; omega)
theorem rMayTwo_no_k (o k : Int) (ho : 8 ≤ o ∧ o ≤ 19) (hk : ¬ (1 ≤ k ∧ k ≤ 6)) (w : World) : Calls Try.prog 33 #[.int .i64 o, .int .i64 k] w fun e w' => e = .returned (.bool false) ∧ w = w' := by
  have cW := fun w => rWidth_any k w
  rw [width_no hk] at cW
  go_enter Try.func33, Try.ntmps33
  go_wp2_with (first | (go_at_call 48; refine (Between_yes _ _ _ ho.1 ho.2 _).mono ?_; rintro e w' ⟨rfl, rfl⟩) | (go_at_call 26; refine (cW _).mono ?_; rintro e w' ⟨rfl, rfl⟩))
  go_ret
  first | exact ⟨rfl, rfl⟩ | (refine ⟨ret_b ?_, rfl⟩; simp; omega)

theorem rMayOne_yes (o k : Int) (ho : 5 ≤ o ∧ o ≤ 7) (hk : 1 ≤ k ∧ k ≤ 6) (w : World) : Calls Try.prog 35 #[.int .i64 o, .int .i64 k] w fun e w' => e = .returned (.bool true) ∧ w = w' := by
  have hp := width_pos hk
  go_enter Try.func35, Try.ntmps35
  go_wp2_with (first | (go_at_call 48; refine (Between_yes _ _ _ ho.1 ho.2 _).mono ?_; rintro e w' ⟨rfl, rfl⟩) | (go_at_call 26; refine (rWidth_any _ _).mono ?_; rintro e w' ⟨rfl, rfl⟩))
  go_ret
  first | exact ⟨rfl, rfl⟩ | (refine ⟨ret_b ?_, rfl⟩; simp; omega)
theorem rMayOne_no_o (o k : Int) (ho : ¬ (5 ≤ o ∧ o ≤ 7)) (w : World) : Calls Try.prog 35 #[.int .i64 o, .int .i64 k] w fun e w' => e = .returned (.bool false) ∧ w = w' := by
  go_enter Try.func35, Try.ntmps35
  go_wp2_with (first | (go_at_call 48; refine (Between_no _ _ _ ho _).mono ?_; rintro e w' ⟨rfl, rfl⟩))
  go_ret
  first | exact ⟨rfl, rfl⟩ | (refine ⟨ret_b ?_, rfl⟩; simp; omega)
theorem rMayOne_no_k (o k : Int) (ho : 5 ≤ o ∧ o ≤ 7) (hk : ¬ (1 ≤ k ∧ k ≤ 6)) (w : World) : Calls Try.prog 35 #[.int .i64 o, .int .i64 k] w fun e w' => e = .returned (.bool false) ∧ w = w' := by
  have cW := fun w => rWidth_any k w
  rw [width_no hk] at cW
  go_enter Try.func35, Try.ntmps35
  go_wp2_with (first | (go_at_call 48; refine (Between_yes _ _ _ ho.1 ho.2 _).mono ?_; rintro e w' ⟨rfl, rfl⟩) | (go_at_call 26; refine (cW _).mono ?_; rintro e w' ⟨rfl, rfl⟩))
  go_ret
  first | exact ⟨rfl, rfl⟩ | (refine ⟨ret_b ?_, rfl⟩; simp; omega)

theorem isN_0 {k : Int} (hk : 1 ≤ k ∧ k ≤ 6) : isN 0 (widthI k) := by
  rcases width_isW hk with h | h | h <;> rw [h] <;> simp [isN]
def oneI (op k a : Int) : Int × Int :=
  if op = 5 then twoI 9 k 0 a
  else if op = 6 then (wrapI (bits .xor .i64 (-1) a) (widthI k), 0)
  else (truthI (decide (a = 0)), 0)
theorem rOne_5 (k a : Int) (hk : 1 ≤ k ∧ k ≤ 6) (ha : isN a (widthI k)) (w : World) : Calls Try.prog 36 #[.int .i64 5, .int .i64 k, .int .i64 a] w (TwoPost (oneI 5 k a).1 (oneI 5 k a).2 w) := by
  have e1 : oneI 5 k a = twoI 9 k 0 a := if_pos rfl
  rw [e1]
  clear e1
  generalize hq : twoI 9 k 0 a = q
  have c := fun w => rTwo_9 k 0 a hk (isN_0 hk) ha w
  rw [hq] at c
  clear hq
  go_enter Try.func36, Try.ntmps36
  go_wp2_with (go_at_call 34; refine (c _).mono ?_; rintro e w' ⟨rfl, ⟨n, rfl⟩⟩)
  go_ret2
  exact ⟨rfl, ⟨_, rfl⟩⟩
theorem rOne_6 (k a : Int) (hk : 1 ≤ k ∧ k ≤ 6) (ha : isN a (widthI k)) (w : World) : Calls Try.prog 36 #[.int .i64 6, .int .i64 k, .int .i64 a] w (TwoPost (oneI 6 k a).1 (oneI 6 k a).2 w) := by
  have e1 : oneI 6 k a = (wrapI (bits .xor .i64 (-1) a) (widthI k), 0) := (if_neg (by decide)).trans (if_pos rfl)
  rw [e1]
  clear e1
  have hsg : IntKind.i64.signed = true := rfl
  go_enter Try.func36, Try.ntmps36
  go_wp2_with (first | (go_at_call 26; refine (rWidth_any _ _).mono ?_; rintro e w' ⟨rfl, rfl⟩) | (go_at_call 38; refine (rWrap_any _ _ (width_isW hk) _).mono ?_; rintro e w' ⟨rfl, rfl⟩))
  go_ret2
  exact ⟨rfl, draws_refl _⟩
theorem rOne_7 (k a : Int) (hk : 1 ≤ k ∧ k ≤ 6) (ha : isN a (widthI k)) (w : World) : Calls Try.prog 36 #[.int .i64 7, .int .i64 k, .int .i64 a] w (TwoPost (oneI 7 k a).1 (oneI 7 k a).2 w) := by
  have e1 : oneI 7 k a = (truthI (a == 0), 0) := (if_neg (by decide)).trans (if_neg (by decide))
  rw [e1]
  clear e1
  go_enter Try.func36, Try.ntmps36
  go_wp2_with (first | (go_at_call 51; refine (rtruth_any _ _).mono ?_; rintro e w' ⟨rfl, rfl⟩))
  go_ret2
  exact ⟨rfl, draws_refl _⟩
theorem rOne_any (o k a : Int) (ho : 5 ≤ o ∧ o ≤ 7) (hk : 1 ≤ k ∧ k ≤ 6) (ha : isN a (widthI k)) (w : World) : Calls Try.prog 36 #[.int .i64 o, .int .i64 k, .int .i64 a] w (TwoPost (oneI o k a).1 (oneI o k a).2 w) := by
  obtain rfl | rfl | rfl : o = 5 ∨ o = 6 ∨ o = 7 := by omega
  · exact rOne_5 k a hk ha w
  · exact rOne_6 k a hk ha w
  · exact rOne_7 k a hk ha w
theorem rCast_any (k t a : Int) (hk : 1 ≤ k ∧ k ≤ 6) (ht : 1 ≤ t ∧ t ≤ 6) (ha : isN a (widthI k)) (w : World) : Calls Try.prog 28 #[.int .i64 k, .int .i64 t, .int .i64 a] w fun e w' => e = .returned (.int .i64 (wrapI (seeI k a) (widthI t))) ∧ w = w' := by
  go_enter Try.func28, Try.ntmps28
  go_wp2_with (first | (go_at_call 26; refine (rWidth_any _ _).mono ?_; rintro e w' ⟨rfl, rfl⟩) | (go_at_call 44; refine (rsee_any _ _ hk ha _).mono ?_; rintro e w' ⟨rfl, rfl⟩) | (go_at_call 38; refine (rWrap_any _ _ (width_isW ht) _).mono ?_; rintro e w' ⟨rfl, rfl⟩))
  go_ret
  exact ⟨rfl, rfl⟩
theorem num_any (n : Int) (w : World) : Calls Try.prog 29 #[.int .i64 n] w fun e w' => e = .returned (.int .i64 n) ∧ w = w' := by
  go_enter Try.func29, Try.ntmps29
  go_wp2
  go_ret
  exact ⟨rfl, rfl⟩
end Go.Proofs.Ytbamphfoobmblaa
