/- Package val: Empty and Single, told by members; One, All, No. -/
import Derived.Test.YtpoaieoldccmiaaGreatVCountM
import Derived.Test.YtpoaieoldccmiaaGreatVAsk
namespace Go.Proofs.YtpoaieoldccmiaaGreat
open Go.ChangeShapes Go.WideShapes Go.ChangeAt Go.RowKit Go.Joins Go.Deep
set_option linter.unusedVariables false

def NoneV (k : Nat) (no : Bool) (l h f b : Nat) : Prop := ∀ z, ¬ MemV k no l h f b z
def OneV (k : Nat) (no : Bool) (l h f b m : Nat) : Prop := ∀ z, MemV k no l h f b z ↔ z = m
def EmptyOk (k : Nat) (no : Bool) (l h f b : Nat) (w : World) (e : Ending) (w' : World) : Prop := ∃ is : Bool, (is = true ↔ NoneV k no l h f b) ∧ EmptyPost is 0 w e w'
def SingleOk (k : Nat) (no : Bool) (l h f b : Nat) (w : World) (e : Ending) (w' : World) : Prop :=
  (∃ m : Nat, OneV k no l h f b m ∧ SinglePost true m 0 w e w') ∨ ((∀ m, ¬ OneV k no l h f b m) ∧ SinglePost false 0 0 w e w')
def MakePost (v : Value) (e0 : Int) (w : World) (e : Ending) (w' : World) : Prop := e = .returned (.tuple #[v, .int .i64 e0]) ∧ Below w.heap.size w w'
set_option maxRecDepth 100000 in
set_option maxHeartbeats 800000 in
theorem One_no (k n : Int) (hn : ¬ (isW k ∧ isN n k)) (w : World) :
    Calls Tryz.prog 33 #[.int .i64 k, .int .i64 n] w (MakePost (valV 0 false 0 0 0 0) 1 w) := by
  have cN := fun w => isNumber_no n k hn w
  have d0 := At.new w #[.int .i64 0, .bool false, .int .i64 0, .int .i64 0, .int .i64 0, .int .i64 0] 28
  clear hn
  go_enter Tryz.func33, Tryz.ntmps33
  go_wp2_with ((go_at_call 47; (with_reducible refine (cN _).mono ?_); rintro e w' ⟨rfl, rfl⟩))
  exact bodyPost_ret (v := .tuple #[valV 0 false 0 0 0 0, .int .i64 1]) (by simp [results, Tryz.results33, go_sem]) rfl ⟨rfl, (Below.refl _ _).alloc (Nat.le_refl _) _⟩
set_option maxRecDepth 100000 in
set_option maxHeartbeats 800000 in
theorem One_yes (k n : Int) (hW : isW k) (hn : isN n k) (w : World) :
    Calls Tryz.prog 33 #[.int .i64 k, .int .i64 n] w (MakePost (valV k false n n 0 n) 0 w) := by
  have cN := fun w => isNumber_yes n k hW hn w
  clear hn hW
  go_enter Tryz.func33, Tryz.ntmps33
  go_wp2_with ((go_at_call 47; (with_reducible refine (cN _).mono ?_); rintro e w' ⟨rfl, rfl⟩))
  exact bodyPost_ret (v := .tuple #[valV k false n n 0 n, .int .i64 0]) (by simp [results, Tryz.results33, go_sem]) rfl ⟨rfl, (Below.refl _ _).alloc (Nat.le_refl _) _⟩
set_option maxRecDepth 100000 in
set_option maxHeartbeats 800000 in
theorem All_no (k : Int) (hn : ¬ isW k) (w : World) :
    Calls Tryz.prog 15 #[.int .i64 k] w (MakePost (valV 0 false 0 0 0 0) 1 w) := by
  have cN := fun w => Wrap_no (-1) k hn w
  clear hn
  go_enter Tryz.func15, Tryz.ntmps15
  go_wp2_with ((go_at_call 32; (with_reducible refine (cN _).mono ?_); rintro e w' ⟨rfl, rfl⟩))
  exact bodyPost_ret (v := .tuple #[valV 0 false 0 0 0 0, .int .i64 1]) (by simp [results, Tryz.results15, go_sem]) rfl ⟨rfl, (Below.refl _ _).alloc (Nat.le_refl _) _⟩
set_option maxRecDepth 100000 in
set_option maxHeartbeats 800000 in
theorem All_yes (k : Int) (hW : isW k) (w : World) :
    Calls Tryz.prog 15 #[.int .i64 k] w (MakePost (valV k false 0 (wrapI (-1) k) (wrapI (-1) k) 0) 0 w) := by
  have cN := fun w => Wrap_yes (-1) k hW w
  clear hW
  generalize wrapI (-1) k = t at *
  go_enter Tryz.func15, Tryz.ntmps15
  go_wp2_with ((go_at_call 32; (with_reducible refine (cN _).mono ?_); rintro e w' ⟨rfl, rfl⟩))
  exact bodyPost_ret (v := .tuple #[valV k false 0 t t 0, .int .i64 0]) (by simp [results, Tryz.results15, go_sem]) rfl ⟨rfl, (Below.refl _ _).alloc (Nat.le_refl _) _⟩
end Go.Proofs.YtpoaieoldccmiaaGreat
