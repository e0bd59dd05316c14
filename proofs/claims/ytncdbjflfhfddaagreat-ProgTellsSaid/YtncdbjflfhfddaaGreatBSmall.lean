/- Package bytes: what is asked of one number, one scalar, one byte; the document's own. -/
import Derived.Test.YtncdbjflfhfddaaGreatBY
import Derived.Test.YtncdbjflfhfddaaGreatWord
import Derived.Defers
import Derived.RegionTactic
import Derived.RegionCalls
import Derived.Deep.RegionWith
import Derived.Laws.Pointers
namespace Go.Proofs.YtncdbjflfhfddaaGreat
open Go.ChangeShapes Go.WideShapes Go.ChangeAt Go.RowKit Go.Joins Go.Deep
set_option linter.unusedVariables false

theorem widI_eq (k : Int) : widI k = widthI k := rfl
def isKN (k : Int) : Bool := decide (1 ≤ k ∧ k ≤ 6)
theorem below_box1 (w : World) (o : Obj) : Below w.heap.size w (w.alloc o) := (Below.refl _ _).alloc (Nat.le_refl _) _
theorem At.below' {w w' : World} {b : Nat} {cs : Array Value} {t : TypeId} (hb : Below w.heap.size w w') (h : At w b cs t) : At w' b cs t := h.below hb h.lt

theorem isUpTo_any (n a b : Int) (w : World) : Calls Tryz.prog 109 #[.int .i64 n, .int .i64 a, .int .i64 b] w fun e w' => e = .returned (.bool (upTo n a b)) ∧ w = w' := by
  by_cases h1 : a ≤ n
  · by_cases h2 : n ≤ b
    · go_enter Tryz.func109, Tryz.ntmps109
      go_wp2
      go_ret
      exact ⟨ret_b (by simp [upTo, h1, h2]), rfl⟩
    · have h3 : decide (n ≤ b) = false := by simp; omega
      go_enter Tryz.func109, Tryz.ntmps109
      go_wp2
      go_ret
      exact ⟨ret_b (by simp [upTo, h1, h2]), rfl⟩
  · have h3 : decide (a ≤ n) = false := by simp; omega
    go_enter Tryz.func109, Tryz.ntmps109
    go_wp2
    go_ret
    exact ⟨ret_b (by simp [upTo]; omega), rfl⟩
theorem Between_any (n a b : Int) (w : World) : Calls Tryz.prog 43 #[.int .i64 n, .int .i64 a, .int .i64 b] w fun e w' => e = .returned (.bool (upTo n a b)) ∧ w = w' := by
  by_cases h1 : a ≤ n
  · by_cases h2 : n ≤ b
    · go_enter Tryz.func43, Tryz.ntmps43
      go_wp2
      go_ret
      exact ⟨ret_b (by simp [upTo, h1, h2]), rfl⟩
    · have h3 : decide (n ≤ b) = false := by simp; omega
      go_enter Tryz.func43, Tryz.ntmps43
      go_wp2
      go_ret
      exact ⟨ret_b (by simp [upTo, h1, h2]), rfl⟩
  · have h3 : decide (a ≤ n) = false := by simp; omega
    go_enter Tryz.func43, Tryz.ntmps43
    go_wp2
    go_ret
    exact ⟨ret_b (by simp [upTo]; omega), rfl⟩
theorem Num_any (n b : Int) (w : World) : Calls Tryz.prog 45 #[.int .i64 n, .int .i64 b] w fun e w' => e = .returned (.bool (upTo n 0 b)) ∧ w = w' := by
  by_cases h1 : 0 ≤ n
  · by_cases h2 : n ≤ b
    · go_enter Tryz.func45, Tryz.ntmps45
      go_wp2
      go_ret
      exact ⟨ret_b (by simp [upTo, h1, h2]), rfl⟩
    · have h3 : decide (n ≤ b) = false := by simp; omega
      go_enter Tryz.func45, Tryz.ntmps45
      go_wp2
      go_ret
      exact ⟨ret_b (by simp [upTo, h1, h2]), rfl⟩
  · have h3 : decide (0 ≤ n) = false := by simp; omega
    go_enter Tryz.func45, Tryz.ntmps45
    go_wp2
    go_ret
    exact ⟨ret_b (by simp [upTo]; omega), rfl⟩
def placeB (b o : Int) : Bool := upTo b 1 32 && upTo o 0 32
theorem isPlace_any (b o : Int) (w : World) : Calls Tryz.prog 107 #[.int .i64 b, .int .i64 o] w fun e w' => e = .returned (.bool (placeB b o)) ∧ w = w' := by
  have c1 := fun w => isUpTo_any b 1 32 w
  have c2 := fun w => isUpTo_any o 0 32 w
  cases h1 : upTo b 1 32
  · rw [h1] at c1
    go_enter Tryz.func107, Tryz.ntmps107
    go_wp2_with (go_at_call 109; refine (c1 _).mono ?_; rintro e w' ⟨rfl, rfl⟩)
    go_ret
    exact ⟨ret_b (by simp [placeB, h1]), rfl⟩
  · rw [h1] at c1
    go_enter Tryz.func107, Tryz.ntmps107
    go_wp2_with (go_at_call 109; (first | ((with_reducible refine (c1 _).mono ?_); rintro e w' ⟨rfl, rfl⟩) | ((with_reducible refine (c2 _).mono ?_); rintro e w' ⟨rfl, rfl⟩)))
    go_ret
    exact ⟨ret_b (by simp [placeB, h1]), rfl⟩

theorem under_sc : Tryz.prog.underlying 115 = some (.struct (Tryz.prog.fieldsOf 115)) := by kernel_rfl
theorem held_sc : Tryz.prog.stoodInHeld 115 = false := by kernel_rfl
theorem eql_sc (s t : SC) (w : World) :
    (binOp .eql 115 (scV s) (scV t)).run Tryz.prog w = .ok (.bool (eqS s t)) w := by
  obtain ⟨a, b, c, d⟩ := s; obtain ⟨a', b', c', d'⟩ := t
  unfold scV eqS
  rw [run_eql_struct, run_equalIn_agg w 9999 115 _ _ under_sc held_sc]
  simp [Program.fieldsOf, Tryz.underlying115, go_sem]
  by_cases e1 : a = a' <;> by_cases e2 : b = b' <;> by_cases e3 : c = c' <;> by_cases e4 : d = d' <;> simp [e1, e2, e3, e4]
theorem eql_sc' (p : Bool) (n b o : Int) (p' : Bool) (n' b' o' : Int) (w : World) :
    (binOp .eql 115 (.agg #[.bool p, .int .i64 n, .int .i64 b, .int .i64 o]) (.agg #[.bool p', .int .i64 n', .int .i64 b', .int .i64 o'])).run Tryz.prog w = .ok (.bool (eqS ⟨p, n, b, o⟩ ⟨p', n', b', o'⟩)) w := eql_sc ⟨p, n, b, o⟩ ⟨p', n', b', o'⟩ w
end Go.Proofs.YtncdbjflfhfddaaGreat
