/- What machines' sizes are. -/
import Derived.Test.YtncdbjflfhfddaaGreatGQ
namespace Go.Proofs.YtncdbjflfhfddaaGreat
open Go.ChangeShapes Go.WideShapes Go.ChangeAt Go.RowKit Go.Joins Go.Deep
set_option linter.unusedVariables false
theorem below_box2G (w : World) (o o2 : Obj) : Below w.heap.size w ((w.alloc o).alloc o2) := (below_box1 w o).alloc (below_box1 w o).size _
theorem siz_eq (p k : Int) (hk : 1 ≤ k ∧ k ≤ 6) : ((sizN p k : Nat) : Int) = widthI k / 8 := by
  rcases num_cases hk with rfl | rfl | rfl | rfl | rfl | rfl <;> rfl
theorem siz_ptr (p : Int) (hp : mayA p) : ((sizN p 7 : Nat) : Int) = p := by rcases hp with rfl | rfl <;> rfl
theorem Size_yes (big : Bool) (p k : Int) (hp : mayA p) (hk : 1 ≤ k ∧ k ≤ 7) (w : World) : Calls Tryz.prog 36 #[.agg #[.bool big, .int .i64 p], .int .i64 k] w fun e w' => e = .returned (.tuple #[.int .i64 (sizN p k : Nat), .int .i64 0]) ∧ Below w.heap.size w w' := by
  have : k = 1 ∨ k = 2 ∨ k = 3 ∨ k = 4 ∨ k = 5 ∨ k = 6 ∨ k = 7 := by omega
  rcases hp with rfl | rfl <;> rcases this with rfl | rfl | rfl | rfl | rfl | rfl | rfl
  all_goals
    go_enter Tryz.func36, Tryz.ntmps36
    go_wp2
    go_ret2
    exact ⟨rfl, by first | exact below_box1 _ _ | exact below_box2G _ _ _⟩
theorem Abi_any (big : Bool) (p : Int) (w : World) : Calls Tryz.prog 28 #[.agg #[.bool big, .int .i64 p]] w fun e w' => e = .returned (.bool (p == 2 || p == 4)) ∧ Below w.heap.size w w' := by
  by_cases h2 : p = 2
  · subst h2
    go_enter Tryz.func28, Tryz.ntmps28
    go_wp2
    go_ret
    exact ⟨rfl, below_box1 _ _⟩
  · have h3 : (p == 2) = false := by simpa using h2
    clear h2
    go_enter Tryz.func28, Tryz.ntmps28
    go_wp2
    go_ret
    exact ⟨ret_b (by simp [h3]), below_box1 _ _⟩
theorem Kind_any (k : Int) (w : World) : Calls Tryz.prog 49 #[.int .i64 k] w fun e w' => e = .returned (.bool (upTo k 1 7)) ∧ w = w' := by
  have c1 := fun w => Between_any k 1 7 w
  go_enter Tryz.func49, Tryz.ntmps49
  go_wp2_with (go_at_call 43; (with_reducible refine (c1 _).mono ?_); rintro e w' ⟨rfl, rfl⟩)
  go_ret
  exact ⟨rfl, rfl⟩
theorem Size_no (big : Bool) (p k : Int) (h : ¬ (mayA p ∧ 1 ≤ k ∧ k ≤ 7)) (w : World) : Calls Tryz.prog 36 #[.agg #[.bool big, .int .i64 p], .int .i64 k] w fun e w' => e = .returned (.tuple #[.int .i64 0, .int .i64 1]) ∧ Below w.heap.size w w' := by
  by_cases hp : mayA p
  · have hk : k < 1 ∨ 7 < k := by
      by_cases h1 : 1 ≤ k
      · by_cases h2 : k ≤ 7
        · exact absurd ⟨hp, h1, h2⟩ h
        · exact Or.inr (by omega)
      · exact Or.inl (by omega)
    clear h
    rcases hp with rfl | rfl <;> rcases hk with hk | hk
    all_goals
      have h7 : (k == 7) = false := by simp; omega
      first
        | have d1 : decide (1 ≤ k) = false := by (simp; omega)
        | have d1 : decide (k ≤ 6) = false := by (simp; omega)
      have d2 : (1 ≤ k) ∨ True := Or.inr trivial
      go_enter Tryz.func36, Tryz.ntmps36
      go_wp2
      go_ret2
      exact ⟨rfl, by first | exact below_box1 _ _ | exact below_box2G _ _ _⟩
  · have h2 : (p == 2) = false := by rw [beq_eq_false_iff_ne]; exact fun hh => hp (Or.inl hh)
    have h4 : (p == 4) = false := by rw [beq_eq_false_iff_ne]; exact fun hh => hp (Or.inr hh)
    clear hp h
    go_enter Tryz.func36, Tryz.ntmps36
    go_wp2
    go_ret2
    exact ⟨rfl, by first | exact below_box1 _ _ | exact below_box2G _ _ _⟩
end Go.Proofs.YtncdbjflfhfddaaGreat
