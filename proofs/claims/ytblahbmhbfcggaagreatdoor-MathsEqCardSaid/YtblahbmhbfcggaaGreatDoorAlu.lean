/- The methods of package alu over the numbers of one call. -/
import Derived.Test.YtblahbmhbfcggaaGreatDoorDo
namespace Go.Proofs.YtblahbmhbfcggaaGreatDoor.Al
open Go.ChangeShapes Go.WideShapes Go.ChangeAt Go.RowKit Go.Joins Go.Deep
set_option linter.unusedVariables false

theorem goesWrong_any (b : Nat) (W : Int) (sg : Bool) (a c dn st u v cl : Int) (w : World) (h : NumAt w b W sg a c dn st u v 0) :
    Calls Tryz.prog 124 #[.pointer (some ⟨b, 0, none⟩), .int .i32 cl] w (NumPost b W sg a c dn st u v cl w) := by
  have hcas := run_call_cas_hit (P := Tryz.prog) Tryz.func182 (by kernel_rfl) (by kernel_rfl) (by kernel_rfl) .i32 (by kernel_rfl) (y := cl) h.c9 (h.free 9)
  go_enter Tryz.func124, Tryz.ntmps124
  go_wp2
  go_end0
  exact ⟨rfl, h.set9 cl, (Below.refl b w).setCell (Nat.le_refl _) _⟩
theorem wentWrong_no (b : Nat) (W : Int) (sg : Bool) (a c dn st u v : Int) (w : World) (h : NumAt w b W sg a c dn st u v 0) :
    Calls Tryz.prog 81 #[.pointer (some ⟨b, 0, none⟩)] w fun e w' => e = .returned (.bool false) ∧ w = w' := by
  have hl := run_call_load (P := Tryz.prog) Tryz.func110 (by kernel_rfl) (by kernel_rfl) (by kernel_rfl) .i32 (by kernel_rfl) h.c9
  go_enter Tryz.func81, Tryz.ntmps81
  go_wp2
  go_ret
  exact ⟨rfl, rfl⟩
theorem wentWrong_yes (b : Nat) (W : Int) (sg : Bool) (a c dn st u v bad : Int) (hb : ¬ bad = 0) (w : World) (h : NumAt w b W sg a c dn st u v bad) :
    Calls Tryz.prog 81 #[.pointer (some ⟨b, 0, none⟩)] w fun e w' => e = .returned (.bool true) ∧ w = w' := by
  have hl := run_call_load (P := Tryz.prog) Tryz.func110 (by kernel_rfl) (by kernel_rfl) (by kernel_rfl) .i32 (by kernel_rfl) h.c9
  have hb' : (bad != 0) = true := by simp [hb]
  go_enter Tryz.func81, Tryz.ntmps81
  go_wp2
  go_ret
  first | exact ⟨rfl, rfl⟩ | (refine ⟨ret_b ?_, rfl⟩; simpa using hb)
theorem tell_no (b : Nat) (W : Int) (sg : Bool) (a c dn st u v n : Int) (w : World) (h : NumAt w b W sg a c dn st u v 0) :
    Calls Tryz.prog 55 #[.pointer (some ⟨b, 0, none⟩), .int .i64 n] w fun e w' => e = .returned (.tuple #[.int .i64 n, .int .i64 0, .int .i64 0]) ∧ w = w' := by
  go_enter Tryz.func55, Tryz.ntmps55
  go_wp2_with (go_at_call 81; refine (wentWrong_no b W sg a c dn st u v _ h).mono ?_; rintro e w' ⟨rfl, rfl⟩)
  go_ret3
  exact ⟨rfl, rfl⟩
theorem tell_yes (b : Nat) (W : Int) (sg : Bool) (a c dn st u v n bad : Int) (hb : 1 ≤ bad) (hb6 : bad ≤ 6) (w : World) (h : NumAt w b W sg a c dn st u v bad) :
    Calls Tryz.prog 55 #[.pointer (some ⟨b, 0, none⟩), .int .i64 n] w fun e w' => e = .returned (.tuple #[.int .i64 0, .int .i64 bad, .int .i64 0]) ∧ w = w' := by
  have hl := run_call_load (P := Tryz.prog) Tryz.func110 (by kernel_rfl) (by kernel_rfl) (by kernel_rfl) .i32 (by kernel_rfl) h.c9
  go_enter Tryz.func55, Tryz.ntmps55
  go_wp2_with (first | (go_at_call 81; refine (wentWrong_yes b W sg a c dn st u v bad (by omega) _ h).mono ?_; rintro e w' ⟨rfl, rfl⟩) | (go_at_call 66; go_in))
  go_ret3
  exact ⟨rfl, rfl⟩
theorem wrap_any (b : Nat) (W : Int) (sg : Bool) (a c dn st u v bad n : Int) (hW : isW W) (w : World) (h : NumAt w b W sg a c dn st u v bad) :
    Calls Tryz.prog 111 #[.pointer (some ⟨b, 0, none⟩), .int .i64 n] w fun e w' => e = .returned (.int .i64 (wrapI n W)) ∧ w = w' := by
  have c0 := h.c0
  go_enter Tryz.func111, Tryz.ntmps111
  go_wp2_with (go_at_call 121; refine (Wrap_yes _ _ hW _).mono ?_; rintro e w' ⟨rfl, rfl⟩)
  go_ret
  exact ⟨rfl, rfl⟩

def fitsW (W : Int) (sg : Bool) (v : Int) : Bool := !sg || (decide (-(2 ^ (W.toNat - 1)) ≤ v) && decide (v < 2 ^ (W.toNat - 1)))
def badOf (f : Bool) : Int := if f = true then 0 else 4
theorem view_wrap {W n : Int} (hW : isW W) (h : fitsW W true n = true) : viewI (wrapI n W) W = n := by
  rcases hW with rfl | rfl | rfl <;> simp [fitsW] at h <;> simp only [viewI_8, viewI_16, viewI_32, wrapI_8, wrapI_16, wrapI_32] <;> split <;> omega
theorem view_over {W n : Int} (hW : isW W) (h : fitsW W true n = false) : viewI (wrapI n W) W ≠ n := by
  rcases hW with rfl | rfl | rfl <;> simp [fitsW] at h <;> simp only [viewI_8, viewI_16, viewI_32, wrapI_8, wrapI_16, wrapI_32] <;> split <;> omega
/-- a number, and the numbers' block behind it -/
def OneIn (b : Nat) (W : Int) (sg : Bool) (a c dn st u v bad n : Int) (w : World) (e : Ending) (w' : World) : Prop :=
  e = .returned (.int .i64 n) ∧ NumAt w' b W sg a c dn st u v bad ∧ Below b w w'
theorem fit_any (b : Nat) (W : Int) (sg : Bool) (a c dn st u v n : Int) (hW : isW W) (w : World) (h : NumAt w b W sg a c dn st u v 0) :
    Calls Tryz.prog 123 #[.pointer (some ⟨b, 0, none⟩), .int .i64 n] w (OneIn b W sg a c dn st u v (badOf (fitsW W sg n)) (wrapI n W) w) := by
  have c0 := h.c0
  have c1 := h.c1
  have cw := fun n => wrap_any b W sg a c dn st u v 0 n hW w h
  cases sg
  · go_enter Tryz.func123, Tryz.ntmps123
    go_wp2_with (go_at_call 111; refine (cw _).mono ?_; rintro e w' ⟨rfl, rfl⟩)
    go_ret
    exact ⟨rfl, h, Below.refl _ _⟩
  · have cV := fun w => View_yes (wrapI n W) W hW (wrapI_isN hW n) w
    cases hf : fitsW W true n
    · have hne : (viewI (wrapI n W) W != n) = true := by simpa using view_over hW hf
      clear hf
      go_enter Tryz.func123, Tryz.ntmps123
      go_wp2_with (first | (go_at_call 111; refine (cw _).mono ?_; rintro e w' ⟨rfl, rfl⟩) | (go_at_call 156; refine (cV _).mono ?_; rintro e w' ⟨rfl, rfl⟩) | (go_at_call 124; refine (goesWrong_any b W true a c dn st u v 4 _ h).mono ?_; rintro e w' ⟨rfl, m1, m2⟩))
      go_ret
      exact ⟨rfl, m1, m2⟩
    · have hne : (viewI (wrapI n W) W != n) = false := by simpa using view_wrap hW hf
      clear hf
      go_enter Tryz.func123, Tryz.ntmps123
      go_wp2_with (first | (go_at_call 111; refine (cw _).mono ?_; rintro e w' ⟨rfl, rfl⟩) | (go_at_call 156; refine (cV _).mono ?_; rintro e w' ⟨rfl, rfl⟩))
      go_ret
      exact ⟨rfl, h, Below.refl _ _⟩
theorem viewOf_bd {W n : Int} (sg : Bool) (hW : isW W) (hn : isN n W) : -2147483648 ≤ viewOf sg n W ∧ viewOf sg n W ≤ 4294967295 := by
  cases sg <;> rcases hW with rfl | rfl | rfl <;> simp only [isN, Int.reduceToNat, Int.reducePow] at hn <;> simp [viewOf, viewI_8, viewI_16, viewI_32] <;> first | omega | (split <;> omega)

theorem add_8 (b : Nat) (W : Int) (sg : Bool) (a c : Int) (hW : isW W) (ha : isN a W) (hc : isN c W) (w : World) (h : NumAt w b W sg a c 0 0 0 0 0) :
    Calls Tryz.prog 82 #[.pointer (some ⟨b, 0, none⟩), .int .i64 8] w (OneIn b W sg a c 1 0 (viewOf sg a W) (viewOf sg c W) (badOf (fitsW W sg ((viewOf sg a W) + (viewOf sg c W)))) (wrapI ((viewOf sg a W) + (viewOf sg c W)) W) w) := by
  obtain ⟨u0, u1⟩ := viewOf_bd sg hW ha
  obtain ⟨v0, v1⟩ := viewOf_bd sg hW hc
  go_enter Tryz.func82, Tryz.ntmps82
  go_wp2_with (first | (go_at_call 122; refine (views_any b W sg a c 0 hW ha hc _ h).mono ?_; rintro e w1 ⟨rfl, m1, m2⟩) | (go_at_call 123; refine (fit_any b W sg a c 1 0 _ _ _ hW _ m1).mono ?_; rintro e w2 ⟨rfl, n1, n2⟩))
  go_ret
  exact ⟨rfl, n1, m2.trans n2⟩
theorem add_9 (b : Nat) (W : Int) (sg : Bool) (a c : Int) (hW : isW W) (ha : isN a W) (hc : isN c W) (w : World) (h : NumAt w b W sg a c 0 0 0 0 0) :
    Calls Tryz.prog 82 #[.pointer (some ⟨b, 0, none⟩), .int .i64 9] w (OneIn b W sg a c 1 0 (viewOf sg a W) (viewOf sg c W) (badOf (fitsW W sg ((viewOf sg a W) - (viewOf sg c W)))) (wrapI ((viewOf sg a W) - (viewOf sg c W)) W) w) := by
  obtain ⟨u0, u1⟩ := viewOf_bd sg hW ha
  obtain ⟨v0, v1⟩ := viewOf_bd sg hW hc
  go_enter Tryz.func82, Tryz.ntmps82
  go_wp2_with (first | (go_at_call 122; refine (views_any b W sg a c 0 hW ha hc _ h).mono ?_; rintro e w1 ⟨rfl, m1, m2⟩) | (go_at_call 123; refine (fit_any b W sg a c 1 0 _ _ _ hW _ m1).mono ?_; rintro e w2 ⟨rfl, n1, n2⟩))
  go_ret
  exact ⟨rfl, n1, m2.trans n2⟩
theorem add_10 (b : Nat) (W : Int) (sg : Bool) (a c : Int) (hW : isW W) (ha : isN a W) (hc : isN c W) (w : World) (h : NumAt w b W sg a c 0 0 0 0 0) :
    Calls Tryz.prog 82 #[.pointer (some ⟨b, 0, none⟩), .int .i64 10] w (OneIn b W sg a c 1 0 (viewOf sg a W) (viewOf sg c W) (badOf (fitsW W sg (wrap64 ((viewOf sg a W) * (viewOf sg c W))))) (wrapI (wrap64 ((viewOf sg a W) * (viewOf sg c W))) W) w) := by
  obtain ⟨u0, u1⟩ := viewOf_bd sg hW ha
  obtain ⟨v0, v1⟩ := viewOf_bd sg hW hc
  go_enter Tryz.func82, Tryz.ntmps82
  go_wp2_with (first | (go_at_call 122; refine (views_any b W sg a c 0 hW ha hc _ h).mono ?_; rintro e w1 ⟨rfl, m1, m2⟩) | (go_at_call 123; refine (fit_any b W sg a c 1 0 _ _ _ hW _ m1).mono ?_; rintro e w2 ⟨rfl, n1, n2⟩))
  go_ret
  exact ⟨rfl, n1, m2.trans n2⟩
end Go.Proofs.YtblahbmhbfcggaaGreatDoor.Al

/- Package alu: what each operator tells. -/
namespace Go.Proofs.YtblahbmhbfcggaaGreatDoor.Al
open Go.ChangeShapes Go.WideShapes Go.ChangeAt Go.RowKit Go.Joins Go.Deep
set_option linter.unusedVariables false

theorem compare_18 (b : Nat) (W : Int) (sg : Bool) (a c : Int) (hW : isW W) (ha : isN a W) (hc : isN c W) (w : World) (h : NumAt w b W sg a c 0 0 0 0 0) :
    Calls Tryz.prog 85 #[.pointer (some ⟨b, 0, none⟩), .int .i64 18] w (OneIn b W sg a c 1 0 (viewOf sg a W) (viewOf sg c W) 0 (truthI (decide ((viewOf sg a W) = (viewOf sg c W)))) w) := by
  go_enter Tryz.func85, Tryz.ntmps85
  go_wp2_with (first | (go_at_call 122; refine (views_any b W sg a c 0 hW ha hc _ h).mono ?_; rintro e w1 ⟨rfl, m1, m2⟩) | (go_at_call 112; refine (atruth_any _ _).mono ?_; rintro e w' ⟨rfl, rfl⟩))
  go_ret
  exact ⟨rfl, m1, m2⟩
theorem compare_19 (b : Nat) (W : Int) (sg : Bool) (a c : Int) (hW : isW W) (ha : isN a W) (hc : isN c W) (w : World) (h : NumAt w b W sg a c 0 0 0 0 0) :
    Calls Tryz.prog 85 #[.pointer (some ⟨b, 0, none⟩), .int .i64 19] w (OneIn b W sg a c 1 0 (viewOf sg a W) (viewOf sg c W) 0 (truthI (decide ((viewOf sg a W) < (viewOf sg c W)))) w) := by
  go_enter Tryz.func85, Tryz.ntmps85
  go_wp2_with (first | (go_at_call 122; refine (views_any b W sg a c 0 hW ha hc _ h).mono ?_; rintro e w1 ⟨rfl, m1, m2⟩) | (go_at_call 112; refine (atruth_any _ _).mono ?_; rintro e w' ⟨rfl, rfl⟩))
  go_ret
  exact ⟨rfl, m1, m2⟩
theorem mix_13 (b : Nat) (W : Int) (sg : Bool) (a c : Int) (w : World) (h : NumAt w b W sg a c 0 0 0 0 0) :
    Calls Tryz.prog 86 #[.pointer (some ⟨b, 0, none⟩), .int .i64 13] w (OneIn b W sg a c 0 0 0 0 0 (bits .and .i64 a c) w) := by
  have c2 := h.c2
  have c3 := h.c3
  go_enter Tryz.func86, Tryz.ntmps86
  go_wp2
  go_quiet (fail)
  go_wp2
  go_ret
  exact ⟨rfl, h, Joins.below_draws _ _ _⟩
theorem mix_14 (b : Nat) (W : Int) (sg : Bool) (a c : Int) (w : World) (h : NumAt w b W sg a c 0 0 0 0 0) :
    Calls Tryz.prog 86 #[.pointer (some ⟨b, 0, none⟩), .int .i64 14] w (OneIn b W sg a c 0 0 0 0 0 (bits .or .i64 a c) w) := by
  have c2 := h.c2
  have c3 := h.c3
  go_enter Tryz.func86, Tryz.ntmps86
  go_wp2
  go_quiet (fail)
  go_wp2
  go_ret
  exact ⟨rfl, h, Joins.below_draws _ _ _⟩
theorem mix_15 (b : Nat) (W : Int) (sg : Bool) (a c : Int) (w : World) (h : NumAt w b W sg a c 0 0 0 0 0) :
    Calls Tryz.prog 86 #[.pointer (some ⟨b, 0, none⟩), .int .i64 15] w (OneIn b W sg a c 0 0 0 0 0 (bits .xor .i64 a c) w) := by
  have c2 := h.c2
  have c3 := h.c3
  go_enter Tryz.func86, Tryz.ntmps86
  go_wp2
  go_quiet (fail)
  go_wp2
  go_ret
  exact ⟨rfl, h, Joins.below_draws _ _ _⟩
theorem shift_16_y (b : Nat) (W : Int) (sg : Bool) (a c : Int) (hW : isW W) (ha : isN a W) (hc : isN c W) (w : World) (h : NumAt w b W sg a c 0 0 0 0 0) (hv : 0 ≤ (viewOf sg c W) ∧ (viewOf sg c W) < W) :
    Calls Tryz.prog 84 #[.pointer (some ⟨b, 0, none⟩), .int .i64 16] w (OneIn b W sg a c 1 0 (viewOf sg a W) (viewOf sg c W) 0 (wrapI (wrap64 (a * 2 ^ ((viewOf sg c W)).toNat)) W) w) := by
  obtain ⟨hv1, hv2⟩ := hv
  have hw32 : W ≤ 32 := by rcases hW with h | h | h <;> omega
  have g1 : decide ((viewOf sg c W) < 0) = false := by simp; omega
  have g2 : decide (W ≤ (viewOf sg c W)) = false := by simp; omega
  go_enter Tryz.func84, Tryz.ntmps84
  go_wp2_with (first | (go_at_call 122; refine (views_any b W sg a c 0 hW ha hc _ h).mono ?_; rintro e w1 ⟨rfl, m1, m2⟩; have d0 := m1.c0; have d2 := m1.c2) | (go_at_call 111; refine (wrap_any b W sg a c 1 0 _ _ 0 _ hW _ m1).mono ?_; rintro e w' ⟨rfl, rfl⟩))
  go_ret
  exact ⟨rfl, m1, m2⟩
theorem shift_16_n (b : Nat) (W : Int) (sg : Bool) (a c : Int) (hW : isW W) (ha : isN a W) (hc : isN c W) (w : World) (h : NumAt w b W sg a c 0 0 0 0 0) (hv : ¬ (0 ≤ (viewOf sg c W) ∧ (viewOf sg c W) < W)) :
    Calls Tryz.prog 84 #[.pointer (some ⟨b, 0, none⟩), .int .i64 16] w (OneIn b W sg a c 1 0 (viewOf sg a W) (viewOf sg c W) 5 0 w) := by
  have hw32 : W ≤ 32 := by rcases hW with h | h | h <;> omega
  by_cases h0 : (viewOf sg c W) < 0
  · go_enter Tryz.func84, Tryz.ntmps84
    go_wp2_with (first | (go_at_call 122; refine (views_any b W sg a c 0 hW ha hc _ h).mono ?_; rintro e w1 ⟨rfl, m1, m2⟩; have d0 := m1.c0; have d2 := m1.c2) | (go_at_call 124; refine (goesWrong_any b W sg a c 1 0 _ _ 5 _ m1).mono ?_; rintro e w2 ⟨rfl, n1, n2⟩))
    go_ret
    exact ⟨rfl, n1, m2.trans n2⟩
  · have g1 : decide ((viewOf sg c W) < 0) = false := by simp; omega
    have g2 : decide (W ≤ (viewOf sg c W)) = true := by simp; omega
    go_enter Tryz.func84, Tryz.ntmps84
    go_wp2_with (first | (go_at_call 122; refine (views_any b W sg a c 0 hW ha hc _ h).mono ?_; rintro e w1 ⟨rfl, m1, m2⟩; have d0 := m1.c0; have d2 := m1.c2) | (go_at_call 124; refine (goesWrong_any b W sg a c 1 0 _ _ 5 _ m1).mono ?_; rintro e w2 ⟨rfl, n1, n2⟩))
    go_ret
    exact ⟨rfl, n1, m2.trans n2⟩
theorem shift_17_y (b : Nat) (W : Int) (sg : Bool) (a c : Int) (hW : isW W) (ha : isN a W) (hc : isN c W) (w : World) (h : NumAt w b W sg a c 0 0 0 0 0) (hv : 0 ≤ (viewOf sg c W) ∧ (viewOf sg c W) < W) :
    Calls Tryz.prog 84 #[.pointer (some ⟨b, 0, none⟩), .int .i64 17] w (OneIn b W sg a c 1 0 (viewOf sg a W) (viewOf sg c W) 0 (wrapI ((viewOf sg a W) / 2 ^ ((viewOf sg c W)).toNat) W) w) := by
  obtain ⟨hv1, hv2⟩ := hv
  have hw32 : W ≤ 32 := by rcases hW with h | h | h <;> omega
  have g1 : decide ((viewOf sg c W) < 0) = false := by simp; omega
  have g2 : decide (W ≤ (viewOf sg c W)) = false := by simp; omega
  go_enter Tryz.func84, Tryz.ntmps84
  go_wp2_with (first | (go_at_call 122; refine (views_any b W sg a c 0 hW ha hc _ h).mono ?_; rintro e w1 ⟨rfl, m1, m2⟩; have d0 := m1.c0; have d2 := m1.c2) | (go_at_call 111; refine (wrap_any b W sg a c 1 0 _ _ 0 _ hW _ m1).mono ?_; rintro e w' ⟨rfl, rfl⟩))
  go_ret
  exact ⟨rfl, m1, m2⟩
theorem shift_17_n (b : Nat) (W : Int) (sg : Bool) (a c : Int) (hW : isW W) (ha : isN a W) (hc : isN c W) (w : World) (h : NumAt w b W sg a c 0 0 0 0 0) (hv : ¬ (0 ≤ (viewOf sg c W) ∧ (viewOf sg c W) < W)) :
    Calls Tryz.prog 84 #[.pointer (some ⟨b, 0, none⟩), .int .i64 17] w (OneIn b W sg a c 1 0 (viewOf sg a W) (viewOf sg c W) 5 0 w) := by
  have hw32 : W ≤ 32 := by rcases hW with h | h | h <;> omega
  by_cases h0 : (viewOf sg c W) < 0
  · go_enter Tryz.func84, Tryz.ntmps84
    go_wp2_with (first | (go_at_call 122; refine (views_any b W sg a c 0 hW ha hc _ h).mono ?_; rintro e w1 ⟨rfl, m1, m2⟩; have d0 := m1.c0; have d2 := m1.c2) | (go_at_call 124; refine (goesWrong_any b W sg a c 1 0 _ _ 5 _ m1).mono ?_; rintro e w2 ⟨rfl, n1, n2⟩))
    go_ret
    exact ⟨rfl, n1, m2.trans n2⟩
  · have g1 : decide ((viewOf sg c W) < 0) = false := by simp; omega
    have g2 : decide (W ≤ (viewOf sg c W)) = true := by simp; omega
    go_enter Tryz.func84, Tryz.ntmps84
    go_wp2_with (first | (go_at_call 122; refine (views_any b W sg a c 0 hW ha hc _ h).mono ?_; rintro e w1 ⟨rfl, m1, m2⟩; have d0 := m1.c0; have d2 := m1.c2) | (go_at_call 124; refine (goesWrong_any b W sg a c 1 0 _ _ 5 _ m1).mono ?_; rintro e w2 ⟨rfl, n1, n2⟩))
    go_ret
    exact ⟨rfl, n1, m2.trans n2⟩
theorem divide_11_z (b : Nat) (W : Int) (sg : Bool) (a c : Int) (hW : isW W) (ha : isN a W) (hc : isN c W) (w : World) (h : NumAt w b W sg a c 0 0 0 0 0) (hv : (viewOf sg c W) = 0) :
    Calls Tryz.prog 83 #[.pointer (some ⟨b, 0, none⟩), .int .i64 11] w (OneIn b W sg a c 1 0 (viewOf sg a W) (viewOf sg c W) 6 0 w) := by
  obtain ⟨u0, u1⟩ := viewOf_bd sg hW ha
  obtain ⟨v0, v1⟩ := viewOf_bd sg hW hc
  have cv := views_any b W sg a c 0 hW ha hc _ h
  unfold ViewsPost at cv
  generalize viewOf sg a W = u at *
  generalize viewOf sg c W = v at *
  subst hv
  have hW' := hW
  rcases hW' with rfl | rfl | rfl
  all_goals
    cases sg
    all_goals
      clear ha hc
      go_enter Tryz.func83, Tryz.ntmps83
      go_wp2_with (first | (go_at_call 122; refine cv.mono ?_; rintro e w1 ⟨rfl, m1, m2⟩; have d0 := m1.c0; have d1 := m1.c1) | (go_at_call 124; refine (goesWrong_any _ _ _ _ _ 1 0 _ _ 6 _ m1).mono ?_; rintro e w2 ⟨rfl, n1, n2⟩; have d0' := n1.c0; have d1' := n1.c1) | (go_at_call 81; refine (wentWrong_yes _ _ _ _ _ 1 0 _ _ 6 (by decide) _ n1).mono ?_; rintro e w' ⟨rfl, rfl⟩))
      all_goals (go_ret; exact ⟨rfl, n1, m2.trans n2⟩)
theorem divide_11_u (b : Nat) (W : Int) (sg : Bool) (a c : Int) (hW : isW W) (ha : isN a W) (hc : isN c W) (w : World) (h : NumAt w b W sg a c 0 0 0 0 0) (hv : ¬ (viewOf sg c W) = 0) (hs : sg = false) :
    Calls Tryz.prog 83 #[.pointer (some ⟨b, 0, none⟩), .int .i64 11] w (OneIn b W sg a c 1 0 (viewOf sg a W) (viewOf sg c W) 0 (wrapI (wrap64 ((viewOf sg a W).tdiv (viewOf sg c W))) W) w) := by
  obtain ⟨u0, u1⟩ := viewOf_bd sg hW ha
  obtain ⟨v0, v1⟩ := viewOf_bd sg hW hc
  have cv := views_any b W sg a c 0 hW ha hc _ h
  unfold ViewsPost at cv
  generalize viewOf sg a W = u at *
  generalize viewOf sg c W = v at *
  have g3 : (v == 0) = false := by simp; omega
  subst hs
  clear ha hc
  go_enter Tryz.func83, Tryz.ntmps83
  go_wp2_with (first | (go_at_call 122; refine cv.mono ?_; rintro e w1 ⟨rfl, m1, m2⟩; have d0 := m1.c0; have d1 := m1.c1) | (go_at_call 81; refine (wentWrong_no _ _ _ _ _ 1 0 _ _ _ m1).mono ?_; rintro e w' ⟨rfl, rfl⟩) | (go_at_call 111; refine (wrap_any _ _ _ _ _ 1 0 _ _ 0 _ hW _ m1).mono ?_; rintro e w' ⟨rfl, rfl⟩))
  all_goals (go_ret; exact ⟨rfl, m1, m2⟩)
theorem divide_11_a (b : Nat) (W : Int) (sg : Bool) (a c : Int) (hW : isW W) (ha : isN a W) (hc : isN c W) (w : World) (h : NumAt w b W sg a c 0 0 0 0 0) (hv : ¬ (viewOf sg c W) = 0) (hs : sg = true) (hu : ¬ (viewOf sg a W) = -(2 ^ (W.toNat - 1))) :
    Calls Tryz.prog 83 #[.pointer (some ⟨b, 0, none⟩), .int .i64 11] w (OneIn b W sg a c 1 0 (viewOf sg a W) (viewOf sg c W) 0 (wrapI (wrap64 ((viewOf sg a W).tdiv (viewOf sg c W))) W) w) := by
  obtain ⟨u0, u1⟩ := viewOf_bd sg hW ha
  obtain ⟨v0, v1⟩ := viewOf_bd sg hW hc
  have cv := views_any b W sg a c 0 hW ha hc _ h
  unfold ViewsPost at cv
  generalize viewOf sg a W = u at *
  generalize viewOf sg c W = v at *
  have g3 : (v == 0) = false := by simp; omega
  subst hs
  have hW' := hW
  rcases hW' with rfl | rfl | rfl
  all_goals
    simp only [Int.reduceToNat, Nat.reduceSub, Int.reducePow] at hu
    first | (have g1 : (u == -128) = false := by simp; omega) | skip
    first | (have g4 : (u == -32768) = false := by simp; omega) | skip
    first | (have g5 : (u == -2147483648) = false := by simp; omega) | skip
    clear ha hc
    go_enter Tryz.func83, Tryz.ntmps83
    go_wp2_with (first | (go_at_call 122; refine cv.mono ?_; rintro e w1 ⟨rfl, m1, m2⟩; have d0 := m1.c0; have d1 := m1.c1) | (go_at_call 81; refine (wentWrong_no _ _ _ _ _ 1 0 _ _ _ m1).mono ?_; rintro e w' ⟨rfl, rfl⟩) | (go_at_call 111; refine (wrap_any _ _ _ _ _ 1 0 _ _ 0 _ hW _ m1).mono ?_; rintro e w' ⟨rfl, rfl⟩))
    all_goals (go_ret; exact ⟨rfl, m1, m2⟩)
theorem divide_11_b (b : Nat) (W : Int) (sg : Bool) (a c : Int) (hW : isW W) (ha : isN a W) (hc : isN c W) (w : World) (h : NumAt w b W sg a c 0 0 0 0 0) (hv : ¬ (viewOf sg c W) = 0) (hs : sg = true) (hu : (viewOf sg a W) = -(2 ^ (W.toNat - 1))) (hm : ¬ (viewOf sg c W) = -1) :
    Calls Tryz.prog 83 #[.pointer (some ⟨b, 0, none⟩), .int .i64 11] w (OneIn b W sg a c 1 0 (viewOf sg a W) (viewOf sg c W) 0 (wrapI (wrap64 ((viewOf sg a W).tdiv (viewOf sg c W))) W) w) := by
  obtain ⟨u0, u1⟩ := viewOf_bd sg hW ha
  obtain ⟨v0, v1⟩ := viewOf_bd sg hW hc
  have cv := views_any b W sg a c 0 hW ha hc _ h
  unfold ViewsPost at cv
  generalize viewOf sg a W = u at *
  generalize viewOf sg c W = v at *
  have g3 : (v == 0) = false := by simp; omega
  subst hs
  have hW' := hW
  rcases hW' with rfl | rfl | rfl
  all_goals
    simp only [Int.reduceToNat, Nat.reduceSub, Int.reducePow] at hu
    first | (have g1 : (u == -128) = true := by simp; omega) | skip
    first | (have g4 : (u == -32768) = true := by simp; omega) | skip
    first | (have g5 : (u == -2147483648) = true := by simp; omega) | skip
    clear hu
    have g2 : (v == -1) = false := by simp; omega
    clear hm
    clear ha hc
    go_enter Tryz.func83, Tryz.ntmps83
    go_wp2_with (first | (go_at_call 122; refine cv.mono ?_; rintro e w1 ⟨rfl, m1, m2⟩; have d0 := m1.c0; have d1 := m1.c1) | (go_at_call 81; refine (wentWrong_no _ _ _ _ _ 1 0 _ _ _ m1).mono ?_; rintro e w' ⟨rfl, rfl⟩) | (go_at_call 111; refine (wrap_any _ _ _ _ _ 1 0 _ _ 0 _ hW _ m1).mono ?_; rintro e w' ⟨rfl, rfl⟩))
    all_goals (go_ret; exact ⟨rfl, m1, m2⟩)
theorem divide_11_o (b : Nat) (W : Int) (sg : Bool) (a c : Int) (hW : isW W) (ha : isN a W) (hc : isN c W) (w : World) (h : NumAt w b W sg a c 0 0 0 0 0) (hv : ¬ (viewOf sg c W) = 0) (hs : sg = true) (hu : (viewOf sg a W) = -(2 ^ (W.toNat - 1))) (hm : (viewOf sg c W) = -1) :
    Calls Tryz.prog 83 #[.pointer (some ⟨b, 0, none⟩), .int .i64 11] w (OneIn b W sg a c 1 0 (viewOf sg a W) (viewOf sg c W) 4 0 w) := by
  obtain ⟨u0, u1⟩ := viewOf_bd sg hW ha
  obtain ⟨v0, v1⟩ := viewOf_bd sg hW hc
  have cv := views_any b W sg a c 0 hW ha hc _ h
  unfold ViewsPost at cv
  generalize viewOf sg a W = u at *
  generalize viewOf sg c W = v at *
  have g3 : (v == 0) = false := by simp; omega
  subst hs
  have hW' := hW
  rcases hW' with rfl | rfl | rfl
  all_goals
    simp only [Int.reduceToNat, Nat.reduceSub, Int.reducePow] at hu
    first | (have g1 : (u == -128) = true := by simp; omega) | skip
    first | (have g4 : (u == -32768) = true := by simp; omega) | skip
    first | (have g5 : (u == -2147483648) = true := by simp; omega) | skip
    clear hu
    have g2 : (v == -1) = true := by simp; omega
    clear hm
    clear ha hc
    go_enter Tryz.func83, Tryz.ntmps83
    go_wp2_with (first | (go_at_call 122; refine cv.mono ?_; rintro e w1 ⟨rfl, m1, m2⟩; have d0 := m1.c0; have d1 := m1.c1) | (go_at_call 124; refine (goesWrong_any _ _ _ _ _ 1 0 _ _ 4 _ m1).mono ?_; rintro e w2 ⟨rfl, n1, n2⟩) | (go_at_call 81; refine (wentWrong_yes _ _ _ _ _ 1 0 _ _ 4 (by decide) _ n1).mono ?_; rintro e w' ⟨rfl, rfl⟩))
    all_goals (go_ret; exact ⟨rfl, n1, m2.trans n2⟩)
theorem divide_12_z (b : Nat) (W : Int) (sg : Bool) (a c : Int) (hW : isW W) (ha : isN a W) (hc : isN c W) (w : World) (h : NumAt w b W sg a c 0 0 0 0 0) (hv : (viewOf sg c W) = 0) :
    Calls Tryz.prog 83 #[.pointer (some ⟨b, 0, none⟩), .int .i64 12] w (OneIn b W sg a c 1 0 (viewOf sg a W) (viewOf sg c W) 6 0 w) := by
  obtain ⟨u0, u1⟩ := viewOf_bd sg hW ha
  obtain ⟨v0, v1⟩ := viewOf_bd sg hW hc
  have cv := views_any b W sg a c 0 hW ha hc _ h
  unfold ViewsPost at cv
  generalize viewOf sg a W = u at *
  generalize viewOf sg c W = v at *
  subst hv
  have hW' := hW
  rcases hW' with rfl | rfl | rfl
  all_goals
    cases sg
    all_goals
      clear ha hc
      go_enter Tryz.func83, Tryz.ntmps83
      go_wp2_with (first | (go_at_call 122; refine cv.mono ?_; rintro e w1 ⟨rfl, m1, m2⟩; have d0 := m1.c0; have d1 := m1.c1) | (go_at_call 124; refine (goesWrong_any _ _ _ _ _ 1 0 _ _ 6 _ m1).mono ?_; rintro e w2 ⟨rfl, n1, n2⟩; have d0' := n1.c0; have d1' := n1.c1) | (go_at_call 81; refine (wentWrong_yes _ _ _ _ _ 1 0 _ _ 6 (by decide) _ n1).mono ?_; rintro e w' ⟨rfl, rfl⟩))
      all_goals (go_ret; exact ⟨rfl, n1, m2.trans n2⟩)
theorem divide_12_u (b : Nat) (W : Int) (sg : Bool) (a c : Int) (hW : isW W) (ha : isN a W) (hc : isN c W) (w : World) (h : NumAt w b W sg a c 0 0 0 0 0) (hv : ¬ (viewOf sg c W) = 0) (hs : sg = false) :
    Calls Tryz.prog 83 #[.pointer (some ⟨b, 0, none⟩), .int .i64 12] w (OneIn b W sg a c 1 0 (viewOf sg a W) (viewOf sg c W) 0 (wrapI ((viewOf sg a W).tmod (viewOf sg c W)) W) w) := by
  obtain ⟨u0, u1⟩ := viewOf_bd sg hW ha
  obtain ⟨v0, v1⟩ := viewOf_bd sg hW hc
  have cv := views_any b W sg a c 0 hW ha hc _ h
  unfold ViewsPost at cv
  generalize viewOf sg a W = u at *
  generalize viewOf sg c W = v at *
  have g3 : (v == 0) = false := by simp; omega
  subst hs
  clear ha hc
  go_enter Tryz.func83, Tryz.ntmps83
  go_wp2_with (first | (go_at_call 122; refine cv.mono ?_; rintro e w1 ⟨rfl, m1, m2⟩; have d0 := m1.c0; have d1 := m1.c1) | (go_at_call 81; refine (wentWrong_no _ _ _ _ _ 1 0 _ _ _ m1).mono ?_; rintro e w' ⟨rfl, rfl⟩) | (go_at_call 111; refine (wrap_any _ _ _ _ _ 1 0 _ _ 0 _ hW _ m1).mono ?_; rintro e w' ⟨rfl, rfl⟩))
  all_goals (go_ret; exact ⟨rfl, m1, m2⟩)
theorem divide_12_a (b : Nat) (W : Int) (sg : Bool) (a c : Int) (hW : isW W) (ha : isN a W) (hc : isN c W) (w : World) (h : NumAt w b W sg a c 0 0 0 0 0) (hv : ¬ (viewOf sg c W) = 0) (hs : sg = true) (hu : ¬ (viewOf sg a W) = -(2 ^ (W.toNat - 1))) :
    Calls Tryz.prog 83 #[.pointer (some ⟨b, 0, none⟩), .int .i64 12] w (OneIn b W sg a c 1 0 (viewOf sg a W) (viewOf sg c W) 0 (wrapI ((viewOf sg a W).tmod (viewOf sg c W)) W) w) := by
  obtain ⟨u0, u1⟩ := viewOf_bd sg hW ha
  obtain ⟨v0, v1⟩ := viewOf_bd sg hW hc
  have cv := views_any b W sg a c 0 hW ha hc _ h
  unfold ViewsPost at cv
  generalize viewOf sg a W = u at *
  generalize viewOf sg c W = v at *
  have g3 : (v == 0) = false := by simp; omega
  subst hs
  have hW' := hW
  rcases hW' with rfl | rfl | rfl
  all_goals
    simp only [Int.reduceToNat, Nat.reduceSub, Int.reducePow] at hu
    first | (have g1 : (u == -128) = false := by simp; omega) | skip
    first | (have g4 : (u == -32768) = false := by simp; omega) | skip
    first | (have g5 : (u == -2147483648) = false := by simp; omega) | skip
    clear ha hc
    go_enter Tryz.func83, Tryz.ntmps83
    go_wp2_with (first | (go_at_call 122; refine cv.mono ?_; rintro e w1 ⟨rfl, m1, m2⟩; have d0 := m1.c0; have d1 := m1.c1) | (go_at_call 81; refine (wentWrong_no _ _ _ _ _ 1 0 _ _ _ m1).mono ?_; rintro e w' ⟨rfl, rfl⟩) | (go_at_call 111; refine (wrap_any _ _ _ _ _ 1 0 _ _ 0 _ hW _ m1).mono ?_; rintro e w' ⟨rfl, rfl⟩))
    all_goals (go_ret; exact ⟨rfl, m1, m2⟩)
theorem divide_12_b (b : Nat) (W : Int) (sg : Bool) (a c : Int) (hW : isW W) (ha : isN a W) (hc : isN c W) (w : World) (h : NumAt w b W sg a c 0 0 0 0 0) (hv : ¬ (viewOf sg c W) = 0) (hs : sg = true) (hu : (viewOf sg a W) = -(2 ^ (W.toNat - 1))) (hm : ¬ (viewOf sg c W) = -1) :
    Calls Tryz.prog 83 #[.pointer (some ⟨b, 0, none⟩), .int .i64 12] w (OneIn b W sg a c 1 0 (viewOf sg a W) (viewOf sg c W) 0 (wrapI ((viewOf sg a W).tmod (viewOf sg c W)) W) w) := by
  obtain ⟨u0, u1⟩ := viewOf_bd sg hW ha
  obtain ⟨v0, v1⟩ := viewOf_bd sg hW hc
  have cv := views_any b W sg a c 0 hW ha hc _ h
  unfold ViewsPost at cv
  generalize viewOf sg a W = u at *
  generalize viewOf sg c W = v at *
  have g3 : (v == 0) = false := by simp; omega
  subst hs
  have hW' := hW
  rcases hW' with rfl | rfl | rfl
  all_goals
    simp only [Int.reduceToNat, Nat.reduceSub, Int.reducePow] at hu
    first | (have g1 : (u == -128) = true := by simp; omega) | skip
    first | (have g4 : (u == -32768) = true := by simp; omega) | skip
    first | (have g5 : (u == -2147483648) = true := by simp; omega) | skip
    clear hu
    have g2 : (v == -1) = false := by simp; omega
    clear hm
    clear ha hc
    go_enter Tryz.func83, Tryz.ntmps83
    go_wp2_with (first | (go_at_call 122; refine cv.mono ?_; rintro e w1 ⟨rfl, m1, m2⟩; have d0 := m1.c0; have d1 := m1.c1) | (go_at_call 81; refine (wentWrong_no _ _ _ _ _ 1 0 _ _ _ m1).mono ?_; rintro e w' ⟨rfl, rfl⟩) | (go_at_call 111; refine (wrap_any _ _ _ _ _ 1 0 _ _ 0 _ hW _ m1).mono ?_; rintro e w' ⟨rfl, rfl⟩))
    all_goals (go_ret; exact ⟨rfl, m1, m2⟩)
theorem divide_12_o (b : Nat) (W : Int) (sg : Bool) (a c : Int) (hW : isW W) (ha : isN a W) (hc : isN c W) (w : World) (h : NumAt w b W sg a c 0 0 0 0 0) (hv : ¬ (viewOf sg c W) = 0) (hs : sg = true) (hu : (viewOf sg a W) = -(2 ^ (W.toNat - 1))) (hm : (viewOf sg c W) = -1) :
    Calls Tryz.prog 83 #[.pointer (some ⟨b, 0, none⟩), .int .i64 12] w (OneIn b W sg a c 1 0 (viewOf sg a W) (viewOf sg c W) 4 0 w) := by
  obtain ⟨u0, u1⟩ := viewOf_bd sg hW ha
  obtain ⟨v0, v1⟩ := viewOf_bd sg hW hc
  have cv := views_any b W sg a c 0 hW ha hc _ h
  unfold ViewsPost at cv
  generalize viewOf sg a W = u at *
  generalize viewOf sg c W = v at *
  have g3 : (v == 0) = false := by simp; omega
  subst hs
  have hW' := hW
  rcases hW' with rfl | rfl | rfl
  all_goals
    simp only [Int.reduceToNat, Nat.reduceSub, Int.reducePow] at hu
    first | (have g1 : (u == -128) = true := by simp; omega) | skip
    first | (have g4 : (u == -32768) = true := by simp; omega) | skip
    first | (have g5 : (u == -2147483648) = true := by simp; omega) | skip
    clear hu
    have g2 : (v == -1) = true := by simp; omega
    clear hm
    clear ha hc
    go_enter Tryz.func83, Tryz.ntmps83
    go_wp2_with (first | (go_at_call 122; refine cv.mono ?_; rintro e w1 ⟨rfl, m1, m2⟩; have d0 := m1.c0; have d1 := m1.c1) | (go_at_call 124; refine (goesWrong_any _ _ _ _ _ 1 0 _ _ 4 _ m1).mono ?_; rintro e w2 ⟨rfl, n1, n2⟩) | (go_at_call 81; refine (wentWrong_yes _ _ _ _ _ 1 0 _ _ 4 (by decide) _ n1).mono ?_; rintro e w' ⟨rfl, rfl⟩))
    all_goals (go_ret; exact ⟨rfl, n1, m2.trans n2⟩)
end Go.Proofs.YtblahbmhbfcggaaGreatDoor.Al
