/- Numbers of a width: what is one of them, wrapped and not. Plain mathematics, and the contracts of package word and of the document's own numbers that package val's statements reach. -/
import Derived.Test.YtblahbmhbfcggaaGreatDoorBase
import Derived.Test.YtblahbmhbfcggaaGreatDoorNext
namespace Go.Proofs.YtblahbmhbfcggaaGreatDoor
open Go.ChangeShapes Go.WideShapes Go.ChangeAt Go.RowKit Go.Joins Go.Deep
set_option linter.unusedVariables false

def wrapI (n : Int) (w : Int) : Int := n % 2 ^ w.toNat
def isW (w : Int) : Prop := w = 8 ∨ w = 16 ∨ w = 32
def isN (n w : Int) : Prop := 0 ≤ n ∧ n < 2 ^ w.toNat
instance (w : Int) : Decidable (isW w) := by unfold isW; infer_instance
instance (n w : Int) : Decidable (isN n w) := by unfold isN; infer_instance
theorem wrapI_8 (n : Int) : wrapI n 8 = n % 256 := rfl
theorem wrapI_16 (n : Int) : wrapI n 16 = n % 65536 := rfl
theorem wrapI_32 (n : Int) : wrapI n 32 = n % 4294967296 := rfl
theorem wrapI_isN {w : Int} (h : isW w) (n : Int) : isN (wrapI n w) w := by
  rcases h with rfl | rfl | rfl <;> simp only [isN, wrapI_8, wrapI_16, wrapI_32, Int.reduceToNat, Int.reducePow] <;> omega
theorem wrapI_eq {w : Int} (h : isW w) (n : Int) : wrapI n w = n ↔ isN n w := by
  rcases h with rfl | rfl | rfl <;> simp only [isN, wrapI_8, wrapI_16, wrapI_32, Int.reduceToNat, Int.reducePow] <;> omega
theorem isN_32 {n w : Int} (h : isW w) (hn : isN n w) : 0 ≤ n ∧ n < 4294967296 := by
  rcases h with rfl | rfl | rfl <;> simp only [isN, Int.reduceToNat, Int.reducePow] at hn <;> omega
theorem ret_b {a b : Bool} (h : a = b) : Ending.returned (.bool a) = .returned (.bool b) := by rw [h]
theorem ret_i {a b : Int} (h : a = b) : Ending.returned (.int .i64 a) = .returned (.int .i64 b) := by rw [h]

theorem isWidth_yes (k : Int) (h : isW k) (w : World) : Calls Tryz.prog 154 #[.int .i64 k] w fun e w' => e = .returned (.bool true) ∧ w = w' := by
  rcases h with rfl | rfl | rfl
  all_goals
    go_enter Tryz.func154, Tryz.ntmps154
    go_wp2
    go_ret
    exact ⟨rfl, rfl⟩
theorem isWidth_no (k : Int) (h : ¬ isW k) (w : World) : Calls Tryz.prog 154 #[.int .i64 k] w fun e w' => e = .returned (.bool false) ∧ w = w' := by
  unfold isW at h
  have a1 : (k == 8) = false := by simp; omega
  have a2 : (k == 16) = false := by simp; omega
  have a3 : (k == 32) = false := by simp; omega
  go_enter Tryz.func154, Tryz.ntmps154
  go_wp2
  go_ret
  exact ⟨rfl, rfl⟩
theorem Wrap_yes (n w : Int) (h : isW w) (wd : World) : Calls Tryz.prog 121 #[.int .i64 n, .int .i64 w] wd fun e w' => e = .returned (.tuple #[.int .i64 (wrapI n w), .int .i64 0]) ∧ wd = w' := by
  have cW := fun wd => isWidth_yes w h wd
  rcases h with rfl | rfl | rfl
  all_goals
    go_enter Tryz.func121, Tryz.ntmps121
    go_wp2_with (go_at_call 154; refine (cW _).mono ?_; rintro e w' ⟨rfl, rfl⟩)
    go_ret2
    refine ⟨ret_2 ?_ rfl, rfl⟩
    first | exact and_255 n | exact and_65535 n | exact and_4294967295 n
theorem Wrap_no (n w : Int) (h : ¬ isW w) (wd : World) : Calls Tryz.prog 121 #[.int .i64 n, .int .i64 w] wd fun e w' => e = .returned (.tuple #[.int .i64 0, .int .i64 1]) ∧ wd = w' := by
  have cW := fun wd => isWidth_no w h wd
  go_enter Tryz.func121, Tryz.ntmps121
  go_wp2_with (go_at_call 154; refine (cW _).mono ?_; rintro e w' ⟨rfl, rfl⟩)
  go_ret2
  exact ⟨rfl, rfl⟩
theorem isNumber_yes (n w : Int) (h : isW w) (hn : isN n w) (wd : World) : Calls Tryz.prog 88 #[.int .i64 n, .int .i64 w] wd fun e w' => e = .returned (.bool true) ∧ wd = w' := by
  have cW := fun wd => Wrap_yes n w h wd
  rw [(wrapI_eq h n).2 hn] at cW
  go_enter Tryz.func88, Tryz.ntmps88
  go_wp2_with (go_at_call 121; refine (cW _).mono ?_; rintro e w' ⟨rfl, rfl⟩)
  go_ret
  exact ⟨rfl, rfl⟩
theorem isNumber_no (n w : Int) (hn : ¬ (isW w ∧ isN n w)) (wd : World) : Calls Tryz.prog 88 #[.int .i64 n, .int .i64 w] wd fun e w' => e = .returned (.bool false) ∧ wd = w' := by
  by_cases h : isW w
  · have cW := fun wd => Wrap_yes n w h wd
    have hne : (wrapI n w == n) = false := by
      have := (wrapI_eq h n)
      simp; intro e; exact hn ⟨h, this.1 e⟩
    go_enter Tryz.func88, Tryz.ntmps88
    go_wp2_with (go_at_call 121; refine (cW _).mono ?_; rintro e w' ⟨rfl, rfl⟩)
    go_ret
    exact ⟨rfl, rfl⟩
  · have cW := fun wd => Wrap_no n w h wd
    go_enter Tryz.func88, Tryz.ntmps88
    go_wp2_with (go_at_call 121; refine (cW _).mono ?_; rintro e w' ⟨rfl, rfl⟩)
    go_ret
    exact ⟨rfl, rfl⟩

theorem rIsWidth_yes (k : Int) (h : isW k) (w : World) : Calls Tryz.prog 37 #[.int .i64 k] w fun e w' => e = .returned (.bool true) ∧ w = w' := by
  rcases h with rfl | rfl | rfl
  all_goals
    go_enter Tryz.func37, Tryz.ntmps37
    go_wp2
    go_ret
    exact ⟨rfl, rfl⟩
theorem rIsWidth_no (k : Int) (h : ¬ isW k) (w : World) : Calls Tryz.prog 37 #[.int .i64 k] w fun e w' => e = .returned (.bool false) ∧ w = w' := by
  unfold isW at h
  have a1 : (k == 8) = false := by simp; omega
  have a2 : (k == 16) = false := by simp; omega
  have a3 : (k == 32) = false := by simp; omega
  go_enter Tryz.func37, Tryz.ntmps37
  go_wp2
  go_ret
  exact ⟨rfl, rfl⟩
theorem Between_yes (n lo hi : Int) (h0 : lo ≤ n) (h1 : n ≤ hi) (w : World) : Calls Tryz.prog 36 #[.int .i64 n, .int .i64 lo, .int .i64 hi] w fun e w' => e = .returned (.bool true) ∧ w = w' := by
  go_enter Tryz.func36, Tryz.ntmps36
  go_wp2
  go_ret
  first | exact ⟨rfl, rfl⟩ | (refine ⟨ret_b ?_, rfl⟩; simp; omega)
theorem Between_no (n lo hi : Int) (h : ¬ (lo ≤ n ∧ n ≤ hi)) (w : World) : Calls Tryz.prog 36 #[.int .i64 n, .int .i64 lo, .int .i64 hi] w fun e w' => e = .returned (.bool false) ∧ w = w' := by
  by_cases h0 : lo ≤ n
  · have h1 : decide (n ≤ hi) = false := by simp; omega
    go_enter Tryz.func36, Tryz.ntmps36
    go_wp2
    go_ret
    first | exact ⟨rfl, rfl⟩ | (refine ⟨ret_b ?_, rfl⟩; simp; omega)
  · have h1 : decide (lo ≤ n) = false := by simp; omega
    go_enter Tryz.func36, Tryz.ntmps36
    go_wp2
    go_ret
    first | exact ⟨rfl, rfl⟩ | (refine ⟨ret_b ?_, rfl⟩; simp; omega)
theorem rNumber_yes (n w : Int) (h : isW w) (hn : isN n w) (wd : World) : Calls Tryz.prog 38 #[.int .i64 n, .int .i64 w] wd fun e w' => e = .returned (.bool true) ∧ wd = w' := by
  rcases h with rfl | rfl | rfl
  all_goals
    simp only [isN, Int.reduceToNat, Int.reducePow] at hn
    obtain ⟨h1, h2⟩ := hn
    go_enter Tryz.func38, Tryz.ntmps38
    go_wp2
    go_ret
    first | exact ⟨rfl, rfl⟩ | (refine ⟨ret_b ?_, rfl⟩; simp; omega)
theorem rNumber_no (n w : Int) (h : isW w) (hn : ¬ isN n w) (wd : World) : Calls Tryz.prog 38 #[.int .i64 n, .int .i64 w] wd fun e w' => e = .returned (.bool false) ∧ wd = w' := by
  rcases h with rfl | rfl | rfl
  all_goals
    simp only [isN, Int.reduceToNat, Int.reducePow] at hn
    by_cases h0 : n < 0
    all_goals
      go_enter Tryz.func38, Tryz.ntmps38
      go_wp2
      go_ret
      first | exact ⟨rfl, rfl⟩ | (refine ⟨ret_b ?_, rfl⟩; simp; omega)
end Go.Proofs.YtblahbmhbfcggaaGreatDoor
