/- The document's own sets: what may be; the least member from a number on; a single one. -/
import Derived.Test.YtblahbmhbfcggaaGreatDoorVRef
import Derived.Test.YtblahbmhbfcggaaGreatDoorVNextC
namespace Go.Proofs.YtblahbmhbfcggaaGreatDoor
open Go.ChangeShapes Go.WideShapes Go.ChangeAt Go.RowKit Go.Joins Go.Deep
set_option linter.unusedVariables false

def allZero (l h f b : Int) : Prop := l = 0 ∧ h = 0 ∧ f = 0 ∧ b = 0
instance (l h f b : Int) : Decidable (allZero l h f b) := by unfold allZero; infer_instance
def mayP (k : Int) (no : Bool) (l h f b : Int) : Prop :=
  isW k ∧ if no = true then allZero l h f b else isN l k ∧ isN h k ∧ isN f k ∧ isN b k ∧ bits .and .i64 b f = 0
instance (k : Int) (no : Bool) (l h f b : Int) : Decidable (mayP k no l h f b) := by unfold mayP; infer_instance
def mayB (k : Int) (no : Bool) (l h f b : Int) : Bool := decide (mayP k no l h f b)

set_option maxRecDepth 100000 in
set_option maxHeartbeats 1600000 in
theorem rVal_no (k l h f b : Int) (w : World) (hW : isW k) :
    Calls Tryz.prog 12 #[valV k true l h f b] w (ValPost (decide (allZero l h f b)) w) := by
  have cW := fun w => rIsWidth_yes k hW w
  clear hW
  go_enter Tryz.func12, Tryz.ntmps12
  go_wp2_with ((go_at_call 37; refine (cW _).mono ?_; rintro e w' ⟨rfl, rfl⟩))
  all_goals
    go_ret
    exact ⟨ret_b (by unfold allZero; simp [*]), (Below.refl _ _).alloc (Nat.le_refl _) _⟩
set_option maxRecDepth 100000 in
set_option maxHeartbeats 1600000 in
theorem rVal_bad (k l h f b : Int) (no : Bool) (w : World) (hW : ¬ isW k) :
    Calls Tryz.prog 12 #[valV k no l h f b] w (ValPost false w) := by
  have cW := fun w => rIsWidth_no k hW w
  clear hW
  go_enter Tryz.func12, Tryz.ntmps12
  go_wp2_with ((go_at_call 37; refine (cW _).mono ?_; rintro e w' ⟨rfl, rfl⟩))
  go_ret
  exact ⟨rfl, (Below.refl _ _).alloc (Nat.le_refl _) _⟩
set_option maxRecDepth 100000 in
set_option maxHeartbeats 1600000 in
theorem rVal_yes (k l h f b : Int) (w : World) (hW : isW k) :
    Calls Tryz.prog 12 #[valV k false l h f b] w (ValPost (decide (isN l k ∧ isN h k ∧ isN f k ∧ isN b k ∧ bits .and .i64 b f = 0)) w) := by
  have cW := fun w => rIsWidth_yes k hW w
  by_cases h1 : isN l k
  · have c1 := fun w => rNumber_yes l k hW h1 w
    by_cases h2 : isN h k
    · have c2 := fun w => rNumber_yes h k hW h2 w
      by_cases h3 : isN f k
      · have c3 := fun w => rNumber_yes f k hW h3 w
        by_cases h4 : isN b k
        · have c4 := fun w => rNumber_yes b k hW h4 w
          have hv : decide (isN l k ∧ isN h k ∧ isN f k ∧ isN b k ∧ bits .and .i64 b f = 0) = (bits .and .i64 b f == 0) := by simp only [h1, h2, h3, h4, true_and]; rw [Bool.eq_iff_iff]; simp
          rw [hv]
          clear h1 h2 h3 h4 hW hv
          go_enter Tryz.func12, Tryz.ntmps12
          go_wp2_with (first | (go_at_call 37; (with_reducible refine (cW _).mono ?_); rintro e w' ⟨rfl, rfl⟩) | (go_at_call 38; (first | (with_reducible refine (c1 _).mono ?_) | (with_reducible refine (c2 _).mono ?_) | (with_reducible refine (c3 _).mono ?_) | (with_reducible refine (c4 _).mono ?_)); rintro e w' ⟨rfl, rfl⟩))
          go_ret
          exact ⟨rfl, (Below.refl _ _).alloc (Nat.le_refl _) _⟩
        · have c4 := fun w => rNumber_no b k hW h4 w
          have hv : decide (isN l k ∧ isN h k ∧ isN f k ∧ isN b k ∧ bits .and .i64 b f = 0) = false := by simp [h1, h2, h3, h4]
          rw [hv]
          clear h1 h2 h3 h4 hW hv
          go_enter Tryz.func12, Tryz.ntmps12
          go_wp2_with (first | (go_at_call 37; (with_reducible refine (cW _).mono ?_); rintro e w' ⟨rfl, rfl⟩) | (go_at_call 38; (first | (with_reducible refine (c1 _).mono ?_) | (with_reducible refine (c2 _).mono ?_) | (with_reducible refine (c3 _).mono ?_) | (with_reducible refine (c4 _).mono ?_)); rintro e w' ⟨rfl, rfl⟩))
          go_ret
          exact ⟨rfl, (Below.refl _ _).alloc (Nat.le_refl _) _⟩
      · have c3 := fun w => rNumber_no f k hW h3 w
        have hv : decide (isN l k ∧ isN h k ∧ isN f k ∧ isN b k ∧ bits .and .i64 b f = 0) = false := by simp [h1, h2, h3]
        rw [hv]
        clear h1 h2 h3 hW hv
        go_enter Tryz.func12, Tryz.ntmps12
        go_wp2_with (first | (go_at_call 37; (with_reducible refine (cW _).mono ?_); rintro e w' ⟨rfl, rfl⟩) | (go_at_call 38; (first | (with_reducible refine (c1 _).mono ?_) | (with_reducible refine (c2 _).mono ?_) | (with_reducible refine (c3 _).mono ?_)); rintro e w' ⟨rfl, rfl⟩))
        go_ret
        exact ⟨rfl, (Below.refl _ _).alloc (Nat.le_refl _) _⟩
    · have c2 := fun w => rNumber_no h k hW h2 w
      have hv : decide (isN l k ∧ isN h k ∧ isN f k ∧ isN b k ∧ bits .and .i64 b f = 0) = false := by simp [h1, h2]
      rw [hv]
      clear h1 h2 hW hv
      go_enter Tryz.func12, Tryz.ntmps12
      go_wp2_with (first | (go_at_call 37; (with_reducible refine (cW _).mono ?_); rintro e w' ⟨rfl, rfl⟩) | (go_at_call 38; (first | (with_reducible refine (c1 _).mono ?_) | (with_reducible refine (c2 _).mono ?_)); rintro e w' ⟨rfl, rfl⟩))
      go_ret
      exact ⟨rfl, (Below.refl _ _).alloc (Nat.le_refl _) _⟩
  · have c1 := fun w => rNumber_no l k hW h1 w
    have hv : decide (isN l k ∧ isN h k ∧ isN f k ∧ isN b k ∧ bits .and .i64 b f = 0) = false := by simp [h1]
    rw [hv]
    clear h1 hW hv
    go_enter Tryz.func12, Tryz.ntmps12
    go_wp2_with (first | (go_at_call 37; (with_reducible refine (cW _).mono ?_); rintro e w' ⟨rfl, rfl⟩) | (go_at_call 38; (with_reducible refine (c1 _).mono ?_); rintro e w' ⟨rfl, rfl⟩))
    go_ret
    exact ⟨rfl, (Below.refl _ _).alloc (Nat.le_refl _) _⟩
end Go.Proofs.YtblahbmhbfcggaaGreatDoor

/- Package val: what sets may be; what a call takes in. -/
namespace Go.Proofs.YtblahbmhbfcggaaGreatDoor
open Go.ChangeShapes Go.WideShapes Go.ChangeAt Go.RowKit Go.Joins Go.Deep
set_option linter.unusedVariables false

theorem bits_and_comm (x y : Int) : bits .and .i64 x y = bits .and .i64 y x := by
  show IntKind.i64.wrap ((BitVec.ofInt 64 x &&& BitVec.ofInt 64 y).toNat : Int) = IntKind.i64.wrap ((BitVec.ofInt 64 y &&& BitVec.ofInt 64 x).toNat : Int)
  rw [BitVec.and_comm]
theorem isW_zero {k : Int} (h : isW k) : isN 0 k := by
  rcases h with rfl | rfl | rfl <;> simp [isN]
set_option maxRecDepth 100000 in
theorem none_any (k : Int) (w : World) : Calls Tryz.prog 89 #[.int .i64 k] w fun e w' => e = .returned (valV k true 0 0 0 0) ∧ Below w.heap.size w w' := by
  have d0 := At.new w #[.int .i64 0, .bool false, .int .i64 0, .int .i64 0, .int .i64 0, .int .i64 0] 30
  go_enter Tryz.func89, Tryz.ntmps89
  go_wp2
  exact bodyPost_ret (v := valV k true 0 0 0 0) (by simp [results, Tryz.results89, go_sem]) rfl ⟨rfl, (Below.refl _ _).alloc (Nat.le_refl _) _⟩

set_option maxRecDepth 100000 in
set_option maxHeartbeats 1600000 in
theorem mayBe_no (k l h f b : Int) (w : World) (hW : isW k) :
    Calls Tryz.prog 125 #[valV k true l h f b] w (ValPost (decide (allZero l h f b)) w) := by
  have cN := fun w => isNumber_yes 0 k hW (isW_zero hW) w
  clear hW
  by_cases hl : l = 0
  · subst hl
    by_cases hh : h = 0
    · subst hh
      by_cases hf : f = 0
      · subst hf
        by_cases hb : b = 0
        · subst hb
          have hv : decide (allZero 0 0 0 0) = true := by decide
          rw [hv]
          clear hv
          go_enter Tryz.func125, Tryz.ntmps125
          go_wp2_with fail
          go_region_held3 (fun w' => w'.cell? ⟨w.heap.size, 0, none⟩ = some (.int .i64 k) ∧ w'.cell? ⟨w.heap.size, 1, none⟩ = some (.bool true) ∧ w'.cell? ⟨w.heap.size, 2, none⟩ = some (.int .i64 0) ∧ w'.cell? ⟨w.heap.size, 3, none⟩ = some (.int .i64 0) ∧ w'.cell? ⟨w.heap.size, 4, none⟩ = some (.int .i64 0) ∧ w'.cell? ⟨w.heap.size, 5, none⟩ = some (.int .i64 0))
            (first
              | exact ⟨by simp, by simp, by simp, by simp, by simp, by simp⟩
              | exact keep6_below (by first | assumption | exact ⟨by simp, by simp, by simp, by simp, by simp, by simp⟩) hbm)
            (first
              | (go_at_call 88; (with_reducible refine (cN _).mono ?_); rintro e w' ⟨rfl, rfl⟩)
              | (go_at_call 89; (with_reducible refine (none_any k _).mono ?_); rintro e w5 ⟨rfl, hbm⟩))
          all_goals
            go_wp2_with fail
            go_ret
            exact ⟨rfl, below_step hbm ((Below.refl _ _).alloc (Nat.le_refl _) _) rfl rfl rfl rfl (by simp)⟩
        · have hv : decide (allZero 0 0 0 b) = false := by unfold allZero; simp [hb]
          have hq : (b == 0) = false := by simpa using hb
          rw [hv]
          clear hv hb
          go_enter Tryz.func125, Tryz.ntmps125
          go_wp2_with fail
          go_region_held3 (fun w' => w'.cell? ⟨w.heap.size, 0, none⟩ = some (.int .i64 k) ∧ w'.cell? ⟨w.heap.size, 1, none⟩ = some (.bool true) ∧ w'.cell? ⟨w.heap.size, 2, none⟩ = some (.int .i64 0) ∧ w'.cell? ⟨w.heap.size, 3, none⟩ = some (.int .i64 0) ∧ w'.cell? ⟨w.heap.size, 4, none⟩ = some (.int .i64 0) ∧ w'.cell? ⟨w.heap.size, 5, none⟩ = some (.int .i64 b))
            (first
              | exact ⟨by simp, by simp, by simp, by simp, by simp, by simp⟩
              | exact keep6_below (by first | assumption | exact ⟨by simp, by simp, by simp, by simp, by simp, by simp⟩) hbm)
            (first
              | (go_at_call 88; (with_reducible refine (cN _).mono ?_); rintro e w' ⟨rfl, rfl⟩)
              | (go_at_call 89; (with_reducible refine (none_any k _).mono ?_); rintro e w5 ⟨rfl, hbm⟩))
          all_goals
            go_wp2_with fail
            go_ret
            exact ⟨rfl, below_step hbm ((Below.refl _ _).alloc (Nat.le_refl _) _) rfl rfl rfl rfl (by simp)⟩
      · have hv : decide (allZero 0 0 f b) = false := by unfold allZero; simp [hf]
        have hq : (f == 0) = false := by simpa using hf
        rw [hv]
        clear hv hf
        go_enter Tryz.func125, Tryz.ntmps125
        go_wp2_with fail
        go_region_held3 (fun w' => w'.cell? ⟨w.heap.size, 0, none⟩ = some (.int .i64 k) ∧ w'.cell? ⟨w.heap.size, 1, none⟩ = some (.bool true) ∧ w'.cell? ⟨w.heap.size, 2, none⟩ = some (.int .i64 0) ∧ w'.cell? ⟨w.heap.size, 3, none⟩ = some (.int .i64 0) ∧ w'.cell? ⟨w.heap.size, 4, none⟩ = some (.int .i64 f) ∧ w'.cell? ⟨w.heap.size, 5, none⟩ = some (.int .i64 b))
          (first
            | exact ⟨by simp, by simp, by simp, by simp, by simp, by simp⟩
            | exact keep6_below (by first | assumption | exact ⟨by simp, by simp, by simp, by simp, by simp, by simp⟩) hbm)
          (first
            | (go_at_call 88; (with_reducible refine (cN _).mono ?_); rintro e w' ⟨rfl, rfl⟩)
            | (go_at_call 89; (with_reducible refine (none_any k _).mono ?_); rintro e w5 ⟨rfl, hbm⟩))
        all_goals
          go_wp2_with fail
          go_ret
          exact ⟨rfl, below_step hbm ((Below.refl _ _).alloc (Nat.le_refl _) _) rfl rfl rfl rfl (by simp)⟩
    · have hv : decide (allZero 0 h f b) = false := by unfold allZero; simp [hh]
      have hq : (h == 0) = false := by simpa using hh
      rw [hv]
      clear hv hh
      go_enter Tryz.func125, Tryz.ntmps125
      go_wp2_with fail
      go_region_held3 (fun w' => w'.cell? ⟨w.heap.size, 0, none⟩ = some (.int .i64 k) ∧ w'.cell? ⟨w.heap.size, 1, none⟩ = some (.bool true) ∧ w'.cell? ⟨w.heap.size, 2, none⟩ = some (.int .i64 0) ∧ w'.cell? ⟨w.heap.size, 3, none⟩ = some (.int .i64 h) ∧ w'.cell? ⟨w.heap.size, 4, none⟩ = some (.int .i64 f) ∧ w'.cell? ⟨w.heap.size, 5, none⟩ = some (.int .i64 b))
        (first
          | exact ⟨by simp, by simp, by simp, by simp, by simp, by simp⟩
          | exact keep6_below (by first | assumption | exact ⟨by simp, by simp, by simp, by simp, by simp, by simp⟩) hbm)
        (first
          | (go_at_call 88; (with_reducible refine (cN _).mono ?_); rintro e w' ⟨rfl, rfl⟩)
          | (go_at_call 89; (with_reducible refine (none_any k _).mono ?_); rintro e w5 ⟨rfl, hbm⟩))
      all_goals
        go_wp2_with fail
        go_ret
        exact ⟨rfl, below_step hbm ((Below.refl _ _).alloc (Nat.le_refl _) _) rfl rfl rfl rfl (by simp)⟩
  · have hv : decide (allZero l h f b) = false := by unfold allZero; simp [hl]
    have hq : (l == 0) = false := by simpa using hl
    rw [hv]
    clear hv hl
    go_enter Tryz.func125, Tryz.ntmps125
    go_wp2_with fail
    go_region_held3 (fun w' => w'.cell? ⟨w.heap.size, 0, none⟩ = some (.int .i64 k) ∧ w'.cell? ⟨w.heap.size, 1, none⟩ = some (.bool true) ∧ w'.cell? ⟨w.heap.size, 2, none⟩ = some (.int .i64 l) ∧ w'.cell? ⟨w.heap.size, 3, none⟩ = some (.int .i64 h) ∧ w'.cell? ⟨w.heap.size, 4, none⟩ = some (.int .i64 f) ∧ w'.cell? ⟨w.heap.size, 5, none⟩ = some (.int .i64 b))
      (first
        | exact ⟨by simp, by simp, by simp, by simp, by simp, by simp⟩
        | exact keep6_below (by first | assumption | exact ⟨by simp, by simp, by simp, by simp, by simp, by simp⟩) hbm)
      (first
        | (go_at_call 88; (with_reducible refine (cN _).mono ?_); rintro e w' ⟨rfl, rfl⟩)
        | (go_at_call 89; (with_reducible refine (none_any k _).mono ?_); rintro e w5 ⟨rfl, hbm⟩))
    all_goals
      go_wp2_with fail
      go_ret
      exact ⟨rfl, below_step hbm ((Below.refl _ _).alloc (Nat.le_refl _) _) rfl rfl rfl rfl (by simp)⟩

set_option maxRecDepth 100000 in
set_option maxHeartbeats 1600000 in
theorem mayBe_bad (k l h f b : Int) (no : Bool) (w : World) (hW : ¬ isW k) :
    Calls Tryz.prog 125 #[valV k no l h f b] w (ValPost false w) := by
  have cN := fun n w => isNumber_no n k (fun h => hW h.1) w
  clear hW
  cases no
  · go_enter Tryz.func125, Tryz.ntmps125
    go_wp2_with ((go_at_call 88; (with_reducible refine (cN _ _).mono ?_); rintro e w' ⟨rfl, rfl⟩))
    go_ret
    exact ⟨rfl, (Below.refl _ _).alloc (Nat.le_refl _) _⟩
  · go_enter Tryz.func125, Tryz.ntmps125
    go_wp2_with fail
    have cN2 : ∀ w, Calls Tryz.prog 88 #[.int .i64 0, .int .i64 k] w fun e w' => e = .returned (.bool false) ∧ w' = w := fun w => (cN 0 w).mono fun _ _ hh => ⟨hh.1, hh.2.symm⟩
    go_quiet ((go_at_call 88; exact Calls.quiet_of_same (cN2 _)))
    go_wp2_with fail
    go_ret
    exact ⟨rfl, ((Below.refl _ _).alloc (Nat.le_refl _) _).trans (Joins.below_draws _ _ _)⟩

set_option maxRecDepth 100000 in
set_option maxHeartbeats 1600000 in
theorem mayBe_yes (k l h f b : Int) (w : World) (hW : isW k) :
    Calls Tryz.prog 125 #[valV k false l h f b] w (ValPost (decide (isN l k ∧ isN h k ∧ isN f k ∧ isN b k ∧ bits .and .i64 f b = 0)) w) := by
  by_cases h1 : isN l k
  · have c1 := fun w => isNumber_yes l k hW h1 w
    by_cases h2 : isN h k
    · have c2 := fun w => isNumber_yes h k hW h2 w
      by_cases h3 : isN f k
      · have c3 := fun w => isNumber_yes f k hW h3 w
        by_cases h4 : isN b k
        · have c4 := fun w => isNumber_yes b k hW h4 w
          have hv : decide (isN l k ∧ isN h k ∧ isN f k ∧ isN b k ∧ bits .and .i64 f b = 0) = (bits .and .i64 f b == 0) := by simp only [h1, h2, h3, h4, true_and]; rw [Bool.eq_iff_iff]; simp
          rw [hv]
          clear h1 h2 h3 h4 hW hv
          go_enter Tryz.func125, Tryz.ntmps125
          go_wp2_with ((go_at_call 88; (first | (with_reducible refine (c1 _).mono ?_) | (with_reducible refine (c2 _).mono ?_) | (with_reducible refine (c3 _).mono ?_) | (with_reducible refine (c4 _).mono ?_)); rintro e w' ⟨rfl, rfl⟩))
          go_ret
          exact ⟨rfl, (Below.refl _ _).alloc (Nat.le_refl _) _⟩
        · have c4 := fun w => isNumber_no b k (fun q => h4 q.2) w
          have hv : decide (isN l k ∧ isN h k ∧ isN f k ∧ isN b k ∧ bits .and .i64 f b = 0) = false := by simp [h1, h2, h3, h4]
          rw [hv]
          clear h1 h2 h3 h4 hW hv
          go_enter Tryz.func125, Tryz.ntmps125
          go_wp2_with ((go_at_call 88; (first | (with_reducible refine (c1 _).mono ?_) | (with_reducible refine (c2 _).mono ?_) | (with_reducible refine (c3 _).mono ?_) | (with_reducible refine (c4 _).mono ?_)); rintro e w' ⟨rfl, rfl⟩))
          go_ret
          exact ⟨rfl, (Below.refl _ _).alloc (Nat.le_refl _) _⟩
      · have c3 := fun w => isNumber_no f k (fun q => h3 q.2) w
        have hv : decide (isN l k ∧ isN h k ∧ isN f k ∧ isN b k ∧ bits .and .i64 f b = 0) = false := by simp [h1, h2, h3]
        rw [hv]
        clear h1 h2 h3 hW hv
        go_enter Tryz.func125, Tryz.ntmps125
        go_wp2_with ((go_at_call 88; (first | (with_reducible refine (c1 _).mono ?_) | (with_reducible refine (c2 _).mono ?_) | (with_reducible refine (c3 _).mono ?_)); rintro e w' ⟨rfl, rfl⟩))
        go_ret
        exact ⟨rfl, (Below.refl _ _).alloc (Nat.le_refl _) _⟩
    · have c2 := fun w => isNumber_no h k (fun q => h2 q.2) w
      have hv : decide (isN l k ∧ isN h k ∧ isN f k ∧ isN b k ∧ bits .and .i64 f b = 0) = false := by simp [h1, h2]
      rw [hv]
      clear h1 h2 hW hv
      go_enter Tryz.func125, Tryz.ntmps125
      go_wp2_with ((go_at_call 88; (first | (with_reducible refine (c1 _).mono ?_) | (with_reducible refine (c2 _).mono ?_)); rintro e w' ⟨rfl, rfl⟩))
      go_ret
      exact ⟨rfl, (Below.refl _ _).alloc (Nat.le_refl _) _⟩
  · have c1 := fun w => isNumber_no l k (fun q => h1 q.2) w
    have hv : decide (isN l k ∧ isN h k ∧ isN f k ∧ isN b k ∧ bits .and .i64 f b = 0) = false := by simp [h1]
    rw [hv]
    clear h1 hW hv
    go_enter Tryz.func125, Tryz.ntmps125
    go_wp2_with ((go_at_call 88; (with_reducible refine (c1 _).mono ?_); rintro e w' ⟨rfl, rfl⟩))
    go_ret
    exact ⟨rfl, (Below.refl _ _).alloc (Nat.le_refl _) _⟩

theorem mayBe_any (k : Int) (no : Bool) (l h f b : Int) (w : World) :
    Calls Tryz.prog 125 #[valV k no l h f b] w (ValPost (mayB k no l h f b) w) := by
  unfold mayB mayP
  by_cases hW : isW k
  · cases no
    · simp only [hW, true_and, Bool.false_eq_true, if_false]
      rw [bits_and_comm b f]
      exact mayBe_yes k l h f b w hW
    · simp only [hW, true_and, if_true]
      exact mayBe_no k l h f b w hW
  · simp only [hW, false_and, decide_false]
    exact mayBe_bad k l h f b no w hW
theorem rVal_any (k : Int) (no : Bool) (l h f b : Int) (w : World) :
    Calls Tryz.prog 12 #[valV k no l h f b] w (ValPost (mayB k no l h f b) w) := by
  unfold mayB mayP
  by_cases hW : isW k
  · cases no
    · simp only [hW, true_and, Bool.false_eq_true, if_false]
      exact rVal_yes k l h f b w hW
    · simp only [hW, true_and, if_true]
      exact rVal_no k l h f b w hW
  · simp only [hW, false_and, decide_false]
    exact rVal_bad k l h f b no w hW
/-- a set that may be, in natural numbers -/
theorem may_nat {k : Int} {no : Bool} {l h f b : Int} (hm : mayB k no l h f b = true) : ∃ K L H F B : Nat, k = K ∧ l = L ∧ h = H ∧ f = F ∧ b = B ∧ ValOk K no L H F B ∧ (no = true → L = 0 ∧ H = 0 ∧ F = 0 ∧ B = 0) := by
  unfold mayB at hm
  rw [decide_eq_true_iff] at hm
  obtain ⟨hW, hr⟩ := hm
  obtain ⟨K, rfl, hK⟩ : ∃ K : Nat, k = K ∧ isWn K := by
    rcases hW with rfl | rfl | rfl
    · exact ⟨8, rfl, Or.inl rfl⟩
    · exact ⟨16, rfl, Or.inr (Or.inl rfl)⟩
    · exact ⟨32, rfl, Or.inr (Or.inr rfl)⟩
  have hpos : 0 < 2 ^ K := Nat.two_pow_pos K
  cases no
  · simp only [Bool.false_eq_true, if_false] at hr
    obtain ⟨⟨l0, l1⟩, ⟨h0, h1⟩, ⟨f0, f1⟩, ⟨b0, b1⟩, hb⟩ := hr
    have hp := hK.pow
    have cast : ∀ n : Int, 0 ≤ n → n < 2 ^ ((K : Int)).toNat → ∃ N : Nat, n = N ∧ N < 2 ^ K := by
      intro n n0 n1
      refine ⟨n.toNat, by omega, ?_⟩
      have : (n.toNat : Int) < ((2 ^ K : Nat) : Int) := by
        rw [Int.toNat_of_nonneg n0]
        simpa using n1
      omega
    obtain ⟨L, rfl, hL⟩ := cast l l0 l1
    obtain ⟨H, rfl, hH⟩ := cast h h0 h1
    obtain ⟨F, rfl, hF⟩ := cast f f0 f1
    obtain ⟨B, rfl, hB⟩ := cast b b0 b1
    exact ⟨K, L, H, F, B, rfl, rfl, rfl, rfl, rfl, ⟨⟨hK, hF, hB, (and_zero (by omega) (by omega)).1 hb⟩, hL, hH⟩, fun h => by cases h⟩
  · simp only [if_true] at hr
    obtain ⟨rfl, rfl, rfl, rfl⟩ := hr
    exact ⟨K, 0, 0, 0, 0, rfl, rfl, rfl, rfl, rfl, ⟨⟨hK, hpos, hpos, fun i h => by simp at h⟩, hpos, hpos⟩, fun _ => ⟨rfl, rfl, rfl, rfl⟩⟩
theorem ValOk.setOk {k : Nat} {l h f b : Nat} (ok : ValOk k false l h f b) : SetOk k l h f b := ⟨ok.pat.hk, ok.hl, ok.hh, ok.pat.hf, ok.pat.hb, ok.pat.hbf⟩
end Go.Proofs.YtblahbmhbfcggaaGreatDoor
