/- The methods of package alu over the numbers of one call. -/
import Derived.Test.YtbamphfoobmblaaDo
namespace Go.Proofs.Ytbamphfoobmblaa
open Go.ChangeShapes Go.WideShapes Go.ChangeAt Go.RowKit Go.Joins Go.Deep
set_option linter.unusedVariables false

theorem goesWrong_any (b : Nat) (W : Int) (sg : Bool) (a c dn st u v cl : Int) (w : World) (h : NumAt w b W sg a c dn st u v 0) :
    Calls Try.prog 75 #[.pointer (some ⟨b, 0, none⟩), .int .i32 cl] w (NumPost b W sg a c dn st u v cl w) := by
  have hcas := run_call_cas_hit (P := Try.prog) Try.func85 (by kernel_rfl) (by kernel_rfl) (by kernel_rfl) .i32 (by kernel_rfl) (y := cl) h.c9 (h.free 9)
  go_enter Try.func75, Try.ntmps75
  go_wp2
  go_end0
  exact ⟨rfl, h.set9 cl, (Below.refl b w).setCell (Nat.le_refl _) _⟩
theorem wentWrong_no (b : Nat) (W : Int) (sg : Bool) (a c dn st u v : Int) (w : World) (h : NumAt w b W sg a c dn st u v 0) :
    Calls Try.prog 60 #[.pointer (some ⟨b, 0, none⟩)] w fun e w' => e = .returned (.bool false) ∧ w = w' := by
  have hl := run_call_load (P := Try.prog) Try.func73 (by kernel_rfl) (by kernel_rfl) (by kernel_rfl) .i32 (by kernel_rfl) h.c9
  go_enter Try.func60, Try.ntmps60
  go_wp2
  go_ret
  exact ⟨rfl, rfl⟩
theorem wentWrong_yes (b : Nat) (W : Int) (sg : Bool) (a c dn st u v bad : Int) (hb : ¬ bad = 0) (w : World) (h : NumAt w b W sg a c dn st u v bad) :
    Calls Try.prog 60 #[.pointer (some ⟨b, 0, none⟩)] w fun e w' => e = .returned (.bool true) ∧ w = w' := by
  have hl := run_call_load (P := Try.prog) Try.func73 (by kernel_rfl) (by kernel_rfl) (by kernel_rfl) .i32 (by kernel_rfl) h.c9
  have hb' : (bad != 0) = true := by simp [hb]
  go_enter Try.func60, Try.ntmps60
  go_wp2
  go_ret
  first | exact ⟨rfl, rfl⟩ | (refine ⟨ret_b ?_, rfl⟩; simpa using hb)
theorem tell_no (b : Nat) (W : Int) (sg : Bool) (a c dn st u v n : Int) (w : World) (h : NumAt w b W sg a c dn st u v 0) :
    Calls Try.prog 45 #[.pointer (some ⟨b, 0, none⟩), .int .i64 n] w fun e w' => e = .returned (.tuple #[.int .i64 n, .int .i64 0, .int .i64 0]) ∧ w = w' := by
  go_enter Try.func45, Try.ntmps45
  go_wp2_with (go_at_call 60; refine (wentWrong_no b W sg a c dn st u v _ h).mono ?_; rintro e w' ⟨rfl, rfl⟩)
  go_ret3
  exact ⟨rfl, rfl⟩
theorem tell_yes (b : Nat) (W : Int) (sg : Bool) (a c dn st u v n bad : Int) (hb : 1 ≤ bad) (hb6 : bad ≤ 6) (w : World) (h : NumAt w b W sg a c dn st u v bad) :
    Calls Try.prog 45 #[.pointer (some ⟨b, 0, none⟩), .int .i64 n] w fun e w' => e = .returned (.tuple #[.int .i64 0, .int .i64 bad, .int .i64 0]) ∧ w = w' := by
  have hl := run_call_load (P := Try.prog) Try.func73 (by kernel_rfl) (by kernel_rfl) (by kernel_rfl) .i32 (by kernel_rfl) h.c9
  go_enter Try.func45, Try.ntmps45
  go_wp2_with (first | (go_at_call 60; refine (wentWrong_yes b W sg a c dn st u v bad (by omega) _ h).mono ?_; rintro e w' ⟨rfl, rfl⟩) | (go_at_call 61; go_in))
  go_ret3
  exact ⟨rfl, rfl⟩
theorem wrap_any (b : Nat) (W : Int) (sg : Bool) (a c dn st u v bad n : Int) (hW : isW W) (w : World) (h : NumAt w b W sg a c dn st u v bad) :
    Calls Try.prog 67 #[.pointer (some ⟨b, 0, none⟩), .int .i64 n] w fun e w' => e = .returned (.int .i64 (wrapI n W)) ∧ w = w' := by
  have c0 := h.c0
  go_enter Try.func67, Try.ntmps67
  go_wp2_with (go_at_call 42; refine (Wrap_yes _ _ hW _).mono ?_; rintro e w' ⟨rfl, rfl⟩)
  go_ret
  exact ⟨rfl, rfl⟩

def fitsW (W : Int) (sg : Bool) (v : Int) : Bool := !sg || (decide (-(2 ^ (W.toNat - 1)) ≤ v) && decide (v < 2 ^ (W.toNat - 1)))
def badOf (f : Bool) : Int := if f = true then 0 else 4
theorem view_wrap {W n : Int} (hW : isW W) (h : fitsW W true n = true) : viewI (wrapI n W) W = n := by
  rcases hW with rfl | rfl | rfl <;> simp [fitsW] at h <;> simp only [viewI_8, viewI_16, viewI_32, wrapI_8, wrapI_16, wrapI_32] <;> split <;> omega
theorem view_over {W n : Int} (hW : isW W) (h : fitsW W true n = false) : viewI (wrapI n W) W ≠ n := by
  rcases hW with rfl | rfl | rfl <;> simp [fitsW] at h <;> simp only [viewI_8, viewI_16, viewI_32, wrapI_8, wrapI_16, wrapI_32] <;> split <;> omega
/-- a number, and the numbers' block behind it -/
def OneIn (b : Nat) (W : Int) (sg : Bool) (a c dn st u v bad n : Int) (w : World) (e : Ending) (w' : World) : Prop :=
  e = .returned (.int .i64 n) ∧ NumAt w' b W sg a c dn st u v bad ∧ Below b w w'
theorem fit_any (b : Nat) (W : Int) (sg : Bool) (a c dn st u v n : Int) (hW : isW W) (w : World) (h : NumAt w b W sg a c dn st u v 0) :
    Calls Try.prog 74 #[.pointer (some ⟨b, 0, none⟩), .int .i64 n] w (OneIn b W sg a c dn st u v (badOf (fitsW W sg n)) (wrapI n W) w) := by
  have c0 := h.c0
  have c1 := h.c1
  have cw := fun n => wrap_any b W sg a c dn st u v 0 n hW w h
  cases sg
  · go_enter Try.func74, Try.ntmps74
    go_wp2_with (go_at_call 67; refine (cw _).mono ?_; rintro e w' ⟨rfl, rfl⟩)
    go_ret
    exact ⟨rfl, h, Below.refl _ _⟩
  · have cV := fun w => View_yes (wrapI n W) W hW (wrapI_isN hW n) w
    cases hf : fitsW W true n
    · have hne : (viewI (wrapI n W) W != n) = true := by simpa using view_over hW hf
      clear hf
      go_enter Try.func74, Try.ntmps74
      go_wp2_with (first | (go_at_call 67; refine (cw _).mono ?_; rintro e w' ⟨rfl, rfl⟩) | (go_at_call 72; refine (cV _).mono ?_; rintro e w' ⟨rfl, rfl⟩) | (go_at_call 75; refine (goesWrong_any b W true a c dn st u v 4 _ h).mono ?_; rintro e w' ⟨rfl, m1, m2⟩))
      go_ret
      exact ⟨rfl, m1, m2⟩
    · have hne : (viewI (wrapI n W) W != n) = false := by simpa using view_wrap hW hf
      clear hf
      go_enter Try.func74, Try.ntmps74
      go_wp2_with (first | (go_at_call 67; refine (cw _).mono ?_; rintro e w' ⟨rfl, rfl⟩) | (go_at_call 72; refine (cV _).mono ?_; rintro e w' ⟨rfl, rfl⟩))
      go_ret
      exact ⟨rfl, h, Below.refl _ _⟩
theorem viewOf_bd {W n : Int} (sg : Bool) (hW : isW W) (hn : isN n W) : -2147483648 ≤ viewOf sg n W ∧ viewOf sg n W ≤ 4294967295 := by
  cases sg <;> rcases hW with rfl | rfl | rfl <;> simp only [isN, Int.reduceToNat, Int.reducePow] at hn <;> simp [viewOf, viewI_8, viewI_16, viewI_32] <;> first | omega | (split <;> omega)

theorem add_8 (b : Nat) (W : Int) (sg : Bool) (a c : Int) (hW : isW W) (ha : isN a W) (hc : isN c W) (w : World) (h : NumAt w b W sg a c 0 0 0 0 0) :
    Calls Try.prog 62 #[.pointer (some ⟨b, 0, none⟩), .int .i64 8] w (OneIn b W sg a c 1 0 (viewOf sg a W) (viewOf sg c W) (badOf (fitsW W sg ((viewOf sg a W) + (viewOf sg c W)))) (wrapI ((viewOf sg a W) + (viewOf sg c W)) W) w) := by
  obtain ⟨u0, u1⟩ := viewOf_bd sg hW ha
  obtain ⟨v0, v1⟩ := viewOf_bd sg hW hc
  go_enter Try.func62, Try.ntmps62
  go_wp2_with (first | (go_at_call 41; refine (views_any b W sg a c 0 hW ha hc _ h).mono ?_; rintro e w1 ⟨rfl, m1, m2⟩) | (go_at_call 74; refine (fit_any b W sg a c 1 0 _ _ _ hW _ m1).mono ?_; rintro e w2 ⟨rfl, n1, n2⟩))
  go_ret
  exact ⟨rfl, n1, m2.trans n2⟩
theorem add_9 (b : Nat) (W : Int) (sg : Bool) (a c : Int) (hW : isW W) (ha : isN a W) (hc : isN c W) (w : World) (h : NumAt w b W sg a c 0 0 0 0 0) :
    Calls Try.prog 62 #[.pointer (some ⟨b, 0, none⟩), .int .i64 9] w (OneIn b W sg a c 1 0 (viewOf sg a W) (viewOf sg c W) (badOf (fitsW W sg ((viewOf sg a W) - (viewOf sg c W)))) (wrapI ((viewOf sg a W) - (viewOf sg c W)) W) w) := by
  obtain ⟨u0, u1⟩ := viewOf_bd sg hW ha
  obtain ⟨v0, v1⟩ := viewOf_bd sg hW hc
  go_enter Try.func62, Try.ntmps62
  go_wp2_with (first | (go_at_call 41; refine (views_any b W sg a c 0 hW ha hc _ h).mono ?_; rintro e w1 ⟨rfl, m1, m2⟩) | (go_at_call 74; refine (fit_any b W sg a c 1 0 _ _ _ hW _ m1).mono ?_; rintro e w2 ⟨rfl, n1, n2⟩))
  go_ret
  exact ⟨rfl, n1, m2.trans n2⟩
theorem add_10 (b : Nat) (W : Int) (sg : Bool) (a c : Int) (hW : isW W) (ha : isN a W) (hc : isN c W) (w : World) (h : NumAt w b W sg a c 0 0 0 0 0) :
    Calls Try.prog 62 #[.pointer (some ⟨b, 0, none⟩), .int .i64 10] w (OneIn b W sg a c 1 0 (viewOf sg a W) (viewOf sg c W) (badOf (fitsW W sg (wrap64 ((viewOf sg a W) * (viewOf sg c W))))) (wrapI (wrap64 ((viewOf sg a W) * (viewOf sg c W))) W) w) := by
  obtain ⟨u0, u1⟩ := viewOf_bd sg hW ha
  obtain ⟨v0, v1⟩ := viewOf_bd sg hW hc
  go_enter Try.func62, Try.ntmps62
  go_wp2_with (first | (go_at_call 41; refine (views_any b W sg a c 0 hW ha hc _ h).mono ?_; rintro e w1 ⟨rfl, m1, m2⟩) | (go_at_call 74; refine (fit_any b W sg a c 1 0 _ _ _ hW _ m1).mono ?_; rintro e w2 ⟨rfl, n1, n2⟩))
  go_ret
  exact ⟨rfl, n1, m2.trans n2⟩
end Go.Proofs.Ytbamphfoobmblaa
