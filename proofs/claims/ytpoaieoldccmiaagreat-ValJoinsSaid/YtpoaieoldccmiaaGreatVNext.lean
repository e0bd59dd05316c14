/- The document's own sets: what may be; the least member from a number on; a single one. -/
import Derived.Test.YtpoaieoldccmiaaGreatVRef
namespace Go.Proofs.YtpoaieoldccmiaaGreat
open Go.ChangeShapes Go.WideShapes Go.ChangeAt Go.RowKit Go.Joins Go.Deep
set_option linter.unusedVariables false

def allZero (l h f b : Int) : Prop := l = 0 ∧ h = 0 ∧ f = 0 ∧ b = 0
instance (l h f b : Int) : Decidable (allZero l h f b) := by unfold allZero; infer_instance
def mayP (k : Int) (no : Bool) (l h f b : Int) : Prop :=
  isW k ∧ if no = true then allZero l h f b else isN l k ∧ isN h k ∧ isN f k ∧ isN b k ∧ bits .and .i64 b f = 0
instance (k : Int) (no : Bool) (l h f b : Int) : Decidable (mayP k no l h f b) := by unfold mayP; infer_instance
def mayB (k : Int) (no : Bool) (l h f b : Int) : Bool := decide (mayP k no l h f b)

set_option maxRecDepth 100000 in
set_option maxHeartbeats 1600000 in
theorem rVal_no (k l h f b : Int) (w : World) (hW : isW k) :
    Calls Tryz.prog 8 #[valV k true l h f b] w (ValPost (decide (allZero l h f b)) w) := by
  have cW := fun w => rIsWidth_yes k hW w
  clear hW
  go_enter Tryz.func8, Tryz.ntmps8
  go_wp2_with ((go_at_call 25; refine (cW _).mono ?_; rintro e w' ⟨rfl, rfl⟩))
  all_goals
    go_ret
    exact ⟨ret_b (by unfold allZero; simp [*]), (Below.refl _ _).alloc (Nat.le_refl _) _⟩
set_option maxRecDepth 100000 in
set_option maxHeartbeats 1600000 in
theorem rVal_bad (k l h f b : Int) (no : Bool) (w : World) (hW : ¬ isW k) :
    Calls Tryz.prog 8 #[valV k no l h f b] w (ValPost false w) := by
  have cW := fun w => rIsWidth_no k hW w
  clear hW
  go_enter Tryz.func8, Tryz.ntmps8
  go_wp2_with ((go_at_call 25; refine (cW _).mono ?_; rintro e w' ⟨rfl, rfl⟩))
  go_ret
  exact ⟨rfl, (Below.refl _ _).alloc (Nat.le_refl _) _⟩
set_option maxRecDepth 100000 in
set_option maxHeartbeats 1600000 in
theorem rVal_yes (k l h f b : Int) (w : World) (hW : isW k) :
    Calls Tryz.prog 8 #[valV k false l h f b] w (ValPost (decide (isN l k ∧ isN h k ∧ isN f k ∧ isN b k ∧ bits .and .i64 b f = 0)) w) := by
  have cW := fun w => rIsWidth_yes k hW w
  by_cases h1 : isN l k
  · have c1 := fun w => rNumber_yes l k hW h1 w
    by_cases h2 : isN h k
    · have c2 := fun w => rNumber_yes h k hW h2 w
      by_cases h3 : isN f k
      · have c3 := fun w => rNumber_yes f k hW h3 w
        by_cases h4 : isN b k
        · have c4 := fun w => rNumber_yes b k hW h4 w
          have hv : decide (isN l k ∧ isN h k ∧ isN f k ∧ isN b k ∧ bits .and .i64 b f = 0) = (bits .and .i64 b f == 0) := by simp only [h1, h2, h3, h4, true_and]; rw [Bool.eq_iff_iff]; simp
          rw [hv]
          clear h1 h2 h3 h4 hW hv
          go_enter Tryz.func8, Tryz.ntmps8
          go_wp2_with (first | (go_at_call 25; (with_reducible refine (cW _).mono ?_); rintro e w' ⟨rfl, rfl⟩) | (go_at_call 26; (first | (with_reducible refine (c1 _).mono ?_) | (with_reducible refine (c2 _).mono ?_) | (with_reducible refine (c3 _).mono ?_) | (with_reducible refine (c4 _).mono ?_)); rintro e w' ⟨rfl, rfl⟩))
          go_ret
          exact ⟨rfl, (Below.refl _ _).alloc (Nat.le_refl _) _⟩
        · have c4 := fun w => rNumber_no b k hW h4 w
          have hv : decide (isN l k ∧ isN h k ∧ isN f k ∧ isN b k ∧ bits .and .i64 b f = 0) = false := by simp [h1, h2, h3, h4]
          rw [hv]
          clear h1 h2 h3 h4 hW hv
          go_enter Tryz.func8, Tryz.ntmps8
          go_wp2_with (first | (go_at_call 25; (with_reducible refine (cW _).mono ?_); rintro e w' ⟨rfl, rfl⟩) | (go_at_call 26; (first | (with_reducible refine (c1 _).mono ?_) | (with_reducible refine (c2 _).mono ?_) | (with_reducible refine (c3 _).mono ?_) | (with_reducible refine (c4 _).mono ?_)); rintro e w' ⟨rfl, rfl⟩))
          go_ret
          exact ⟨rfl, (Below.refl _ _).alloc (Nat.le_refl _) _⟩
      · have c3 := fun w => rNumber_no f k hW h3 w
        have hv : decide (isN l k ∧ isN h k ∧ isN f k ∧ isN b k ∧ bits .and .i64 b f = 0) = false := by simp [h1, h2, h3]
        rw [hv]
        clear h1 h2 h3 hW hv
        go_enter Tryz.func8, Tryz.ntmps8
        go_wp2_with (first | (go_at_call 25; (with_reducible refine (cW _).mono ?_); rintro e w' ⟨rfl, rfl⟩) | (go_at_call 26; (first | (with_reducible refine (c1 _).mono ?_) | (with_reducible refine (c2 _).mono ?_) | (with_reducible refine (c3 _).mono ?_)); rintro e w' ⟨rfl, rfl⟩))
        go_ret
        exact ⟨rfl, (Below.refl _ _).alloc (Nat.le_refl _) _⟩
    · have c2 := fun w => rNumber_no h k hW h2 w
      have hv : decide (isN l k ∧ isN h k ∧ isN f k ∧ isN b k ∧ bits .and .i64 b f = 0) = false := by simp [h1, h2]
      rw [hv]
      clear h1 h2 hW hv
      go_enter Tryz.func8, Tryz.ntmps8
      go_wp2_with (first | (go_at_call 25; (with_reducible refine (cW _).mono ?_); rintro e w' ⟨rfl, rfl⟩) | (go_at_call 26; (first | (with_reducible refine (c1 _).mono ?_) | (with_reducible refine (c2 _).mono ?_)); rintro e w' ⟨rfl, rfl⟩))
      go_ret
      exact ⟨rfl, (Below.refl _ _).alloc (Nat.le_refl _) _⟩
  · have c1 := fun w => rNumber_no l k hW h1 w
    have hv : decide (isN l k ∧ isN h k ∧ isN f k ∧ isN b k ∧ bits .and .i64 b f = 0) = false := by simp [h1]
    rw [hv]
    clear h1 hW hv
    go_enter Tryz.func8, Tryz.ntmps8
    go_wp2_with (first | (go_at_call 25; (with_reducible refine (cW _).mono ?_); rintro e w' ⟨rfl, rfl⟩) | (go_at_call 26; (with_reducible refine (c1 _).mono ?_); rintro e w' ⟨rfl, rfl⟩))
    go_ret
    exact ⟨rfl, (Below.refl _ _).alloc (Nat.le_refl _) _⟩
end Go.Proofs.YtpoaieoldccmiaaGreat
