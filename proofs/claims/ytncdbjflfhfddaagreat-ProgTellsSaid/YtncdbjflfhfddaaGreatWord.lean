/- The contracts of package word and of the document's own numbers (widths, views, wrapped numbers). -/
import Derived.Test.YtncdbjflfhfddaaGreatBase
namespace Go.Proofs.YtncdbjflfhfddaaGreat
open Go.ChangeShapes Go.WideShapes Go.ChangeAt Go.RowKit Go.Joins Go.Deep
set_option linter.unusedVariables false

def wrapI (n : Int) (w : Int) : Int := n % 2 ^ w.toNat
def viewI (n : Int) (w : Int) : Int := if n < 2 ^ (w.toNat - 1) then n else n - 2 ^ w.toNat
def widthI (k : Int) : Int := if k = 1 ∨ k = 2 then 8 else if k = 3 ∨ k = 4 then 16 else if k = 5 ∨ k = 6 then 32 else 0
def signedB (k : Int) : Bool := decide (k = 2 ∨ k = 4 ∨ k = 6)
def isW (w : Int) : Prop := w = 8 ∨ w = 16 ∨ w = 32
def isN (n w : Int) : Prop := 0 ≤ n ∧ n < 2 ^ w.toNat
theorem wrapI_8 (n : Int) : wrapI n 8 = n % 256 := rfl
theorem wrapI_16 (n : Int) : wrapI n 16 = n % 65536 := rfl
theorem wrapI_32 (n : Int) : wrapI n 32 = n % 4294967296 := rfl
theorem viewI_8 (n : Int) : viewI n 8 = if n < 128 then n else n - 256 := rfl
theorem viewI_16 (n : Int) : viewI n 16 = if n < 32768 then n else n - 65536 := rfl
theorem viewI_32 (n : Int) : viewI n 32 = if n < 2147483648 then n else n - 4294967296 := rfl
theorem num_cases {k : Int} (h : 1 ≤ k ∧ k ≤ 6) : k = 1 ∨ k = 2 ∨ k = 3 ∨ k = 4 ∨ k = 5 ∨ k = 6 := by omega
theorem width_no {k : Int} (h : ¬ (1 ≤ k ∧ k ≤ 6)) : widthI k = 0 := by unfold widthI; rw [if_neg (by omega), if_neg (by omega), if_neg (by omega)]
theorem width_pos {k : Int} (h : 1 ≤ k ∧ k ≤ 6) : 0 < widthI k := by rcases num_cases h with rfl | rfl | rfl | rfl | rfl | rfl <;> decide
theorem width_isW {k : Int} (h : 1 ≤ k ∧ k ≤ 6) : isW (widthI k) := by unfold isW; rcases num_cases h with rfl | rfl | rfl | rfl | rfl | rfl <;> decide
theorem signed_no {k : Int} (h : ¬ (1 ≤ k ∧ k ≤ 6)) : signedB k = false := by simp [signedB]; omega
theorem wrapI_isN {w : Int} (h : isW w) (n : Int) : isN (wrapI n w) w := by
  rcases h with rfl | rfl | rfl <;> simp only [isN, wrapI_8, wrapI_16, wrapI_32, Int.reduceToNat, Int.reducePow] <;> omega
theorem isN_32 {n w : Int} (h : isW w) (hn : isN n w) : 0 ≤ n ∧ n < 4294967296 := by
  rcases h with rfl | rfl | rfl <;> simp only [isN, Int.reduceToNat, Int.reducePow] at hn <;> omega
theorem ret_b {a b : Bool} (h : a = b) : Ending.returned (.bool a) = .returned (.bool b) := by rw [h]
theorem ret_i {a b : Int} (h : a = b) : Ending.returned (.int .i64 a) = .returned (.int .i64 b) := by rw [h]

theorem Width_yes (k : Int) (h : 1 ≤ k ∧ k ≤ 6) (w : World) : Calls Tryz.prog 83 #[.int .i64 k] w fun e w' => e = .returned (.tuple #[.int .i64 (widthI k), .int .i64 0]) ∧ w = w' := by
  rcases num_cases h with rfl | rfl | rfl | rfl | rfl | rfl
  all_goals
    go_enter Tryz.func83, Tryz.ntmps83
    go_wp2
    go_ret2
    exact ⟨rfl, rfl⟩
theorem Width_no (k : Int) (h : ¬ (1 ≤ k ∧ k ≤ 6)) (w : World) : Calls Tryz.prog 83 #[.int .i64 k] w fun e w' => e = .returned (.tuple #[.int .i64 0, .int .i64 1]) ∧ w = w' := by
  rcases (show k ≤ 0 ∨ 7 ≤ k by omega) with h1 | h1
  · have d1 : decide (1 ≤ k) = false := by simp; omega
    go_enter Tryz.func83, Tryz.ntmps83
    go_wp2
    go_ret2
    exact ⟨rfl, rfl⟩
  · have d1 : decide (k ≤ 6) = false := by simp; omega
    go_enter Tryz.func83, Tryz.ntmps83
    go_wp2
    go_ret2
    exact ⟨rfl, rfl⟩
theorem rWidth_any (k : Int) (w : World) : Calls Tryz.prog 48 #[.int .i64 k] w fun e w' => e = .returned (.int .i64 (widthI k)) ∧ w = w' := by
  by_cases h : 1 ≤ k ∧ k ≤ 6
  · rcases num_cases h with rfl | rfl | rfl | rfl | rfl | rfl
    all_goals
      go_enter Tryz.func48, Tryz.ntmps48
      go_wp2
      go_ret
      exact ⟨rfl, rfl⟩
  · rw [width_no h]
    have a1 : (k == 1) = false := by simp; omega
    have a2 : (k == 2) = false := by simp; omega
    have a3 : (k == 3) = false := by simp; omega
    have a4 : (k == 4) = false := by simp; omega
    have a5 : (k == 5) = false := by simp; omega
    have a6 : (k == 6) = false := by simp; omega
    go_enter Tryz.func48, Tryz.ntmps48
    go_wp2
    go_ret
    exact ⟨rfl, rfl⟩
theorem Wrap_yes (n w : Int) (h : isW w) (wd : World) : Calls Tryz.prog 108 #[.int .i64 n, .int .i64 w] wd fun e w' => e = .returned (.tuple #[.int .i64 (wrapI n w), .int .i64 0]) ∧ wd = w' := by
  rcases h with rfl | rfl | rfl
  all_goals
    go_enter Tryz.func108, Tryz.ntmps108
    go_wp2
    go_ret2
    refine ⟨ret_2 ?_ rfl, rfl⟩
    first | exact and_255 n | exact and_65535 n | exact and_4294967295 n
theorem rNumber_yes (n w : Int) (h : isW w) (hn : isN n w) (wd : World) : Calls Tryz.prog 47 #[.int .i64 n, .int .i64 w] wd fun e w' => e = .returned (.bool true) ∧ wd = w' := by
  rcases h with rfl | rfl | rfl
  all_goals
    simp only [isN, Int.reduceToNat, Int.reducePow] at hn
    obtain ⟨h1, h2⟩ := hn
    go_enter Tryz.func47, Tryz.ntmps47
    go_wp2
    go_ret
    first | exact ⟨rfl, rfl⟩ | (refine ⟨ret_b ?_, rfl⟩; simp; omega)
theorem rNumber_no (n w : Int) (h : isW w) (hn : ¬ isN n w) (wd : World) : Calls Tryz.prog 47 #[.int .i64 n, .int .i64 w] wd fun e w' => e = .returned (.bool false) ∧ wd = w' := by
  rcases h with rfl | rfl | rfl
  all_goals
    simp only [isN, Int.reduceToNat, Int.reducePow] at hn
    by_cases h0 : n < 0
    all_goals
      go_enter Tryz.func47, Tryz.ntmps47
      go_wp2
      go_ret
      first | exact ⟨rfl, rfl⟩ | (refine ⟨ret_b ?_, rfl⟩; simp; omega)
end Go.Proofs.YtncdbjflfhfddaaGreat
