/- The contracts of the functions that WordExact calls. -/
import Derived.Test.YtlefbaekloinhaaPure
import Derived.Lib.SmallJoins
namespace Go.Proofs.Ytlefbaekloinhaa
open Go.ChangeShapes Go.WideShapes Go.ChangeAt Go.RowKit Go.Joins

def widthI (k : Int) : Int := if k = 1 ∨ k = 2 then 8 else if k = 3 ∨ k = 4 then 16 else if k = 5 ∨ k = 6 then 32 else 0
def signedB (k : Int) : Bool := decide (k = 2 ∨ k = 4 ∨ k = 6)

theorem num_cases {k : Int} (h : 1 ≤ k ∧ k ≤ 6) : k = 1 ∨ k = 2 ∨ k = 3 ∨ k = 4 ∨ k = 5 ∨ k = 6 := by omega
theorem width_no {k : Int} (h : ¬ (1 ≤ k ∧ k ≤ 6)) : widthI k = 0 := by unfold widthI; rw [if_neg (by omega), if_neg (by omega), if_neg (by omega)]
theorem width_pos {k : Int} (h : 1 ≤ k ∧ k ≤ 6) : 0 < widthI k := by rcases num_cases h with rfl | rfl | rfl | rfl | rfl | rfl <;> decide

theorem Width_yes (k : Int) (h : 1 ≤ k ∧ k ≤ 6) (w : World) : Calls Try.prog 6 #[.int .i64 k] w fun e w' => e = .returned (.tuple #[.int .i64 (widthI k), .int .i64 0]) ∧ w = w' := by
  rcases num_cases h with rfl | rfl | rfl | rfl | rfl | rfl
  all_goals
    go_enter Try.func6, Try.ntmps6
    go_wp2
    go_ret2
    exact ⟨rfl, rfl⟩
theorem Width_no (k : Int) (h : ¬ (1 ≤ k ∧ k ≤ 6)) (w : World) : Calls Try.prog 6 #[.int .i64 k] w fun e w' => e = .returned (.tuple #[.int .i64 0, .int .i64 1]) ∧ w = w' := by
  rcases (show k ≤ 0 ∨ 7 ≤ k by omega) with h1 | h1
  · have d1 : decide (1 ≤ k) = false := by simp; omega
    go_enter Try.func6, Try.ntmps6
    go_wp2
    go_ret2
    exact ⟨rfl, rfl⟩
  · have d1 : decide (k ≤ 6) = false := by simp; omega
    go_enter Try.func6, Try.ntmps6
    go_wp2
    go_ret2
    exact ⟨rfl, rfl⟩
theorem Signed_yes (k : Int) (h : 1 ≤ k ∧ k ≤ 6) (w : World) : Calls Try.prog 7 #[.int .i64 k] w fun e w' => e = .returned (.tuple #[.bool (signedB k), .int .i64 0]) ∧ w = w' := by
  rcases num_cases h with rfl | rfl | rfl | rfl | rfl | rfl
  all_goals
    go_enter Try.func7, Try.ntmps7
    go_wp2
    go_ret2
    exact ⟨rfl, rfl⟩
theorem Signed_no (k : Int) (h : ¬ (1 ≤ k ∧ k ≤ 6)) (w : World) : Calls Try.prog 7 #[.int .i64 k] w fun e w' => e = .returned (.tuple #[.bool false, .int .i64 1]) ∧ w = w' := by
  rcases (show k ≤ 0 ∨ 7 ≤ k by omega) with h1 | h1
  · have d1 : decide (1 ≤ k) = false := by simp; omega
    go_enter Try.func7, Try.ntmps7
    go_wp2
    go_ret2
    exact ⟨rfl, rfl⟩
  · have d1 : decide (k ≤ 6) = false := by simp; omega
    go_enter Try.func7, Try.ntmps7
    go_wp2
    go_ret2
    exact ⟨rfl, rfl⟩
theorem rWidth_any (k : Int) (w : World) : Calls Try.prog 8 #[.int .i64 k] w fun e w' => e = .returned (.int .i64 (widthI k)) ∧ w = w' := by
  by_cases h : 1 ≤ k ∧ k ≤ 6
  · rcases num_cases h with rfl | rfl | rfl | rfl | rfl | rfl
    all_goals
      go_enter Try.func8, Try.ntmps8
      go_wp2
      go_ret
      exact ⟨rfl, rfl⟩
  · rw [width_no h]
    have a1 : (k == 1) = false := by simp; omega
    have a2 : (k == 2) = false := by simp; omega
    have a3 : (k == 3) = false := by simp; omega
    have a4 : (k == 4) = false := by simp; omega
    have a5 : (k == 5) = false := by simp; omega
    have a6 : (k == 6) = false := by simp; omega
    go_enter Try.func8, Try.ntmps8
    go_wp2
    go_ret
    exact ⟨rfl, rfl⟩
theorem rSigned_yes (k : Int) (h : 1 ≤ k ∧ k ≤ 6) (w : World) : Calls Try.prog 9 #[.int .i64 k] w fun e w' => e = .returned (.bool (signedB k)) ∧ w = w' := by
  rcases num_cases h with rfl | rfl | rfl | rfl | rfl | rfl
  all_goals
    go_enter Try.func9, Try.ntmps9
    go_wp2
    go_ret
    exact ⟨rfl, rfl⟩

def abiB (p : Int) : Prop := p = 2 ∨ p = 4
def sizeI (p k : Int) : Int := if k = 7 then p else widthI k / 8

theorem below_2 (w : World) (a b : Obj) : Below w.heap.size w ((w.alloc a).alloc b) := below_alloc2 w a b

theorem Size_yes (b : Bool) (p k : Int) (hp : abiB p) (h : 1 ≤ k ∧ k ≤ 7) (w : World) : Calls Try.prog 11 #[.agg #[.bool b, .int .i64 p], .int .i64 k] w fun e w' => e = .returned (.tuple #[.int .i64 (sizeI p k), .int .i64 0]) ∧ Below w.heap.size w w' := by
  have hk : k = 1 ∨ k = 2 ∨ k = 3 ∨ k = 4 ∨ k = 5 ∨ k = 6 ∨ k = 7 := by omega
  rcases hp with rfl | rfl
  all_goals
    rcases hk with rfl | rfl | rfl | rfl | rfl | rfl | rfl
    all_goals
      go_enter Try.func11, Try.ntmps11
      go_wp2
      go_ret2
      exact ⟨rfl, below_alloc2 _ _ _⟩
theorem Size_no_abi (b : Bool) (p k : Int) (hp : ¬ abiB p) (w : World) : Calls Try.prog 11 #[.agg #[.bool b, .int .i64 p], .int .i64 k] w fun e w' => e = .returned (.tuple #[.int .i64 0, .int .i64 1]) ∧ Below w.heap.size w w' := by
  unfold abiB at hp
  have a1 : (p == 2) = false := by simp; omega
  have a2 : (p == 4) = false := by simp; omega
  go_enter Try.func11, Try.ntmps11
  go_wp2
  go_ret2
  exact ⟨rfl, below_alloc2 _ _ _⟩
theorem Size_no_kind (b : Bool) (p k : Int) (hp : abiB p) (h : ¬ (1 ≤ k ∧ k ≤ 7)) (w : World) : Calls Try.prog 11 #[.agg #[.bool b, .int .i64 p], .int .i64 k] w fun e w' => e = .returned (.tuple #[.int .i64 0, .int .i64 1]) ∧ Below w.heap.size w w' := by
  rcases hp with rfl | rfl
  all_goals
    have a7 : (k == 7) = false := by simp; omega
    rcases (show k ≤ 0 ∨ 8 ≤ k by omega) with h1 | h1
    · have d1 : decide (1 ≤ k) = false := by simp; omega
      go_enter Try.func11, Try.ntmps11
      go_wp2
      go_ret2
      exact ⟨rfl, below_alloc2 _ _ _⟩
    · have d1 : decide (k ≤ 6) = false := by simp; omega
      go_enter Try.func11, Try.ntmps11
      go_wp2
      go_ret2
      exact ⟨rfl, below_alloc2 _ _ _⟩
theorem Abi_yes (b : Bool) (p : Int) (hp : abiB p) (w : World) : Calls Try.prog 12 #[.agg #[.bool b, .int .i64 p]] w fun e w' => e = .returned (.bool true) ∧ Below w.heap.size w w' := by
  rcases hp with rfl | rfl
  all_goals
    go_enter Try.func12, Try.ntmps12
    go_wp2
    go_ret
    exact ⟨rfl, below_alloc1 _ _⟩
theorem Abi_no (b : Bool) (p : Int) (hp : ¬ abiB p) (w : World) : Calls Try.prog 12 #[.agg #[.bool b, .int .i64 p]] w fun e w' => e = .returned (.bool false) ∧ Below w.heap.size w w' := by
  unfold abiB at hp
  have a1 : (p == 2) = false := by simp; omega
  have a2 : (p == 4) = false := by simp; omega
  go_enter Try.func12, Try.ntmps12
  go_wp2
  go_ret
  exact ⟨rfl, below_alloc1 _ _⟩
theorem Kind_yes (k : Int) (h : 1 ≤ k ∧ k ≤ 7) (w : World) : Calls Try.prog 13 #[.int .i64 k] w fun e w' => e = .returned (.bool true) ∧ w = w' := by
  obtain ⟨h1, h2⟩ := h
  go_enter Try.func13, Try.ntmps13
  go_wp2
  go_ret
  exact ⟨rfl, rfl⟩
theorem Kind_no (k : Int) (h : ¬ (1 ≤ k ∧ k ≤ 7)) (w : World) : Calls Try.prog 13 #[.int .i64 k] w fun e w' => e = .returned (.bool false) ∧ w = w' := by
  rcases (show k ≤ 0 ∨ 8 ≤ k by omega) with h1 | h1
  all_goals
    go_enter Try.func13, Try.ntmps13
    go_wp2
    go_ret
    first | exact ⟨rfl, rfl⟩ | (refine ⟨congrArg (fun b => Ending.returned (.bool b)) ?_, rfl⟩; simp; omega)
theorem rSize_yes (b : Bool) (p k : Int) (h : 1 ≤ k ∧ k ≤ 7) (w : World) : Calls Try.prog 14 #[.agg #[.bool b, .int .i64 p], .int .i64 k] w fun e w' => e = .returned (.int .i64 (sizeI p k)) ∧ Below w.heap.size w w' := by
  have hk : k = 1 ∨ k = 2 ∨ k = 3 ∨ k = 4 ∨ k = 5 ∨ k = 6 ∨ k = 7 := by omega
  rcases hk with rfl | rfl | rfl | rfl | rfl | rfl | rfl
  all_goals
    go_enter Try.func14, Try.ntmps14
    go_wp2
    go_ret
    exact ⟨rfl, below_alloc1 _ _⟩

/-! numbers of a width -/
def isW (w : Int) : Prop := w = 8 ∨ w = 16 ∨ w = 32
def isN (n w : Int) : Prop := 0 ≤ n ∧ n < 2 ^ w.toNat

theorem Wrap_no (n w : Int) (h : ¬ isW w) (wd : World) : Calls Try.prog 15 #[.int .i64 n, .int .i64 w] wd fun e w' => e = .returned (.tuple #[.int .i64 0, .int .i64 1]) ∧ wd = w' := by
  unfold isW at h
  have a1 : (w == 8) = false := by simp; omega
  have a2 : (w == 16) = false := by simp; omega
  have a3 : (w == 32) = false := by simp; omega
  go_enter Try.func15, Try.ntmps15
  go_wp2
  go_ret2
  exact ⟨rfl, rfl⟩
theorem View_no_w (n w : Int) (h : ¬ isW w) (wd : World) : Calls Try.prog 16 #[.int .i64 n, .int .i64 w] wd fun e w' => e = .returned (.tuple #[.int .i64 0, .int .i64 1]) ∧ wd = w' := by
  unfold isW at h
  have a1 : (w == 8) = false := by simp; omega
  have a2 : (w == 16) = false := by simp; omega
  have a3 : (w == 32) = false := by simp; omega
  go_enter Try.func16, Try.ntmps16
  go_wp2
  go_ret2
  exact ⟨rfl, rfl⟩
theorem View_no_n (n w : Int) (h : isW w) (hn : ¬ isN n w) (wd : World) : Calls Try.prog 16 #[.int .i64 n, .int .i64 w] wd fun e w' => e = .returned (.tuple #[.int .i64 0, .int .i64 1]) ∧ wd = w' := by
  rcases h with rfl | rfl | rfl
  all_goals
    simp only [isN, Int.reduceToNat, Int.reducePow] at hn
    by_cases h0 : n < 0
    all_goals
      go_enter Try.func16, Try.ntmps16
      go_wp2
      go_ret2
      exact ⟨rfl, rfl⟩
theorem rIsWidth_yes (w : Int) (h : isW w) (wd : World) : Calls Try.prog 17 #[.int .i64 w] wd fun e w' => e = .returned (.bool true) ∧ wd = w' := by
  rcases h with rfl | rfl | rfl
  all_goals
    go_enter Try.func17, Try.ntmps17
    go_wp2
    go_ret
    exact ⟨rfl, rfl⟩
theorem rIsWidth_no (w : Int) (h : ¬ isW w) (wd : World) : Calls Try.prog 17 #[.int .i64 w] wd fun e w' => e = .returned (.bool false) ∧ wd = w' := by
  unfold isW at h
  have a1 : (w == 8) = false := by simp; omega
  have a2 : (w == 16) = false := by simp; omega
  have a3 : (w == 32) = false := by simp; omega
  go_enter Try.func17, Try.ntmps17
  go_wp2
  go_ret
  exact ⟨rfl, rfl⟩
theorem rWrap_any (n w : Int) (h : isW w) (wd : World) : Calls Try.prog 18 #[.int .i64 n, .int .i64 w] wd fun e w' => e = .returned (.int .i64 (wrapI n w)) ∧ wd = w' := by
  rcases h with rfl | rfl | rfl
  all_goals
    go_enter Try.func18, Try.ntmps18
    go_wp2
    go_ret
    refine ⟨congrArg (fun x => Ending.returned (.int .i64 x)) ?_, rfl⟩
    first | exact and_255 n | exact and_65535 n | exact and_4294967295 n
theorem rNumber_yes (n w : Int) (h : isW w) (hn : isN n w) (wd : World) : Calls Try.prog 19 #[.int .i64 n, .int .i64 w] wd fun e w' => e = .returned (.bool true) ∧ wd = w' := by
  rcases h with rfl | rfl | rfl
  all_goals
    simp only [isN, Int.reduceToNat, Int.reducePow] at hn
    obtain ⟨h1, h2⟩ := hn
    go_enter Try.func19, Try.ntmps19
    go_wp2
    go_ret
    first | exact ⟨rfl, rfl⟩ | (refine ⟨congrArg (fun b => Ending.returned (.bool b)) ?_, rfl⟩; simp; omega)
theorem rNumber_no (n w : Int) (h : isW w) (hn : ¬ isN n w) (wd : World) : Calls Try.prog 19 #[.int .i64 n, .int .i64 w] wd fun e w' => e = .returned (.bool false) ∧ wd = w' := by
  rcases h with rfl | rfl | rfl
  all_goals
    simp only [isN, Int.reduceToNat, Int.reducePow] at hn
    by_cases h0 : n < 0
    all_goals
      go_enter Try.func19, Try.ntmps19
      go_wp2
      go_ret
      first | exact ⟨rfl, rfl⟩ | (refine ⟨congrArg (fun b => Ending.returned (.bool b)) ?_, rfl⟩; simp; omega)
theorem rView_any (n w : Int) (h : isW w) (hn : isN n w) (wd : World) : Calls Try.prog 20 #[.int .i64 n, .int .i64 w] wd fun e w' => e = .returned (.int .i64 (viewI n w)) ∧ wd = w' := by
  rcases h with rfl | rfl | rfl
  all_goals
    simp only [isN, Int.reduceToNat, Int.reducePow] at hn
    obtain ⟨h0, h1⟩ := hn
    go_enter Try.func20, Try.ntmps20
    go_wp2
    all_goals
      go_ret
      refine ⟨congrArg (fun x => Ending.returned (.int .i64 x)) ?_, rfl⟩
      simp [viewI]
      omega

end Go.Proofs.Ytlefbaekloinhaa
