/- Package bytes: what is asked of one number, one scalar, one byte; the document's own. -/
import Derived.Test.YtnhbaigagphpmaaBY
import Derived.Test.YtnhbaigagphpmaaWord
import Derived.Defers
import Derived.RegionTactic
import Derived.RegionCalls
import Derived.Deep.RegionWith
import Derived.Laws.Pointers
namespace Go.Proofs.Ytnhbaigagphpmaa
open Go.ChangeShapes Go.WideShapes Go.ChangeAt Go.RowKit Go.Joins Go.Deep
set_option linter.unusedVariables false

theorem widI_eq (k : Int) : widI k = widthI k := rfl
def isKN (k : Int) : Bool := decide (1 ≤ k ∧ k ≤ 6)
theorem below_box1 (w : World) (o : Obj) : Below w.heap.size w (w.alloc o) := (Below.refl _ _).alloc (Nat.le_refl _) _
theorem At.below' {w w' : World} {b : Nat} {cs : Array Value} {t : TypeId} (hb : Below w.heap.size w w') (h : At w b cs t) : At w' b cs t := h.below hb h.lt

theorem isUpTo_any (n a b : Int) (w : World) : Calls Try.prog 73 #[.int .i64 n, .int .i64 a, .int .i64 b] w fun e w' => e = .returned (.bool (upTo n a b)) ∧ w = w' := by
  by_cases h1 : a ≤ n
  · by_cases h2 : n ≤ b
    · go_enter Try.func73, Try.ntmps73
      go_wp2
      go_ret
      exact ⟨ret_b (by simp [upTo, h1, h2]), rfl⟩
    · have h3 : decide (n ≤ b) = false := by simp; omega
      go_enter Try.func73, Try.ntmps73
      go_wp2
      go_ret
      exact ⟨ret_b (by simp [upTo, h1, h2]), rfl⟩
  · have h3 : decide (a ≤ n) = false := by simp; omega
    go_enter Try.func73, Try.ntmps73
    go_wp2
    go_ret
    exact ⟨ret_b (by simp [upTo]; omega), rfl⟩
theorem Between_any (n a b : Int) (w : World) : Calls Try.prog 36 #[.int .i64 n, .int .i64 a, .int .i64 b] w fun e w' => e = .returned (.bool (upTo n a b)) ∧ w = w' := by
  by_cases h1 : a ≤ n
  · by_cases h2 : n ≤ b
    · go_enter Try.func36, Try.ntmps36
      go_wp2
      go_ret
      exact ⟨ret_b (by simp [upTo, h1, h2]), rfl⟩
    · have h3 : decide (n ≤ b) = false := by simp; omega
      go_enter Try.func36, Try.ntmps36
      go_wp2
      go_ret
      exact ⟨ret_b (by simp [upTo, h1, h2]), rfl⟩
  · have h3 : decide (a ≤ n) = false := by simp; omega
    go_enter Try.func36, Try.ntmps36
    go_wp2
    go_ret
    exact ⟨ret_b (by simp [upTo]; omega), rfl⟩
theorem Num_any (n b : Int) (w : World) : Calls Try.prog 42 #[.int .i64 n, .int .i64 b] w fun e w' => e = .returned (.bool (upTo n 0 b)) ∧ w = w' := by
  by_cases h1 : 0 ≤ n
  · by_cases h2 : n ≤ b
    · go_enter Try.func42, Try.ntmps42
      go_wp2
      go_ret
      exact ⟨ret_b (by simp [upTo, h1, h2]), rfl⟩
    · have h3 : decide (n ≤ b) = false := by simp; omega
      go_enter Try.func42, Try.ntmps42
      go_wp2
      go_ret
      exact ⟨ret_b (by simp [upTo, h1, h2]), rfl⟩
  · have h3 : decide (0 ≤ n) = false := by simp; omega
    go_enter Try.func42, Try.ntmps42
    go_wp2
    go_ret
    exact ⟨ret_b (by simp [upTo]; omega), rfl⟩
theorem num_any (n : Int) (w : World) : Calls Try.prog 15 #[.int .i64 n] w fun e w' => e = .returned (.int .i64 n) ∧ w = w' := by
  go_enter Try.func15, Try.ntmps15
  go_wp2
  go_ret
  exact ⟨rfl, rfl⟩
def placeB (b o : Int) : Bool := upTo b 1 32 && upTo o 0 32
theorem isPlace_any (b o : Int) (w : World) : Calls Try.prog 72 #[.int .i64 b, .int .i64 o] w fun e w' => e = .returned (.bool (placeB b o)) ∧ w = w' := by
  have c1 := fun w => isUpTo_any b 1 32 w
  have c2 := fun w => isUpTo_any o 0 32 w
  cases h1 : upTo b 1 32
  · rw [h1] at c1
    go_enter Try.func72, Try.ntmps72
    go_wp2_with (go_at_call 73; refine (c1 _).mono ?_; rintro e w' ⟨rfl, rfl⟩)
    go_ret
    exact ⟨ret_b (by simp [placeB, h1]), rfl⟩
  · rw [h1] at c1
    go_enter Try.func72, Try.ntmps72
    go_wp2_with (go_at_call 73; (first | ((with_reducible refine (c1 _).mono ?_); rintro e w' ⟨rfl, rfl⟩) | ((with_reducible refine (c2 _).mono ?_); rintro e w' ⟨rfl, rfl⟩)))
    go_ret
    exact ⟨ret_b (by simp [placeB, h1]), rfl⟩

theorem under_sc : Try.prog.underlying 33 = some (.struct (Try.prog.fieldsOf 33)) := by kernel_rfl
theorem held_sc : Try.prog.stoodInHeld 33 = false := by kernel_rfl
theorem under_by : Try.prog.underlying 67 = some (.struct (Try.prog.fieldsOf 67)) := by kernel_rfl
theorem held_by : Try.prog.stoodInHeld 67 = false := by kernel_rfl
theorem eql_sc (s t : SC) (w : World) :
    (binOp .eql 33 (scV s) (scV t)).run Try.prog w = .ok (.bool (eqS s t)) w := by
  obtain ⟨a, b, c, d⟩ := s; obtain ⟨a', b', c', d'⟩ := t
  unfold scV eqS
  rw [run_eql_struct, run_equalIn_agg w 9999 33 _ _ under_sc held_sc]
  simp [Program.fieldsOf, Try.underlying33, go_sem]
  by_cases e1 : a = a' <;> by_cases e2 : b = b' <;> by_cases e3 : c = c' <;> by_cases e4 : d = d' <;> simp [e1, e2, e3, e4]
theorem eql_by (s t : BY) (w : World) :
    (binOp .eql 67 (byV s) (byV t)).run Try.prog w = .ok (.bool (eqY s t)) w := by
  obtain ⟨a, b, c, d, e⟩ := s; obtain ⟨a', b', c', d', e'⟩ := t
  unfold byV eqY
  rw [run_eql_struct, run_equalIn_agg w 9999 67 _ _ under_by held_by]
  simp [Program.fieldsOf, Try.underlying67, go_sem]
  by_cases e1 : a = a' <;> by_cases e2 : b = b' <;> by_cases e3 : c = c' <;> by_cases e4 : d = d' <;> by_cases e5 : e = e' <;> simp [e1, e2, e3, e4, e5]
theorem eql_sc' (p : Bool) (n b o : Int) (p' : Bool) (n' b' o' : Int) (w : World) :
    (binOp .eql 33 (.agg #[.bool p, .int .i64 n, .int .i64 b, .int .i64 o]) (.agg #[.bool p', .int .i64 n', .int .i64 b', .int .i64 o'])).run Try.prog w = .ok (.bool (eqS ⟨p, n, b, o⟩ ⟨p', n', b', o'⟩)) w := eql_sc ⟨p, n, b, o⟩ ⟨p', n', b', o'⟩ w
theorem eql_by' (s n b o i s' n' b' o' i' : Int) (w : World) :
    (binOp .eql 67 (.agg #[.int .i64 s, .int .i64 n, .int .i64 b, .int .i64 o, .int .i64 i]) (.agg #[.int .i64 s', .int .i64 n', .int .i64 b', .int .i64 o', .int .i64 i'])).run Try.prog w = .ok (.bool (eqY ⟨s, n, b, o, i⟩ ⟨s', n', b', o', i'⟩)) w := eql_by ⟨s, n, b, o, i⟩ ⟨s', n', b', o', i'⟩ w
end Go.Proofs.Ytnhbaigagphpmaa
