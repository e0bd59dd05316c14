/- The document's own operators: what they answer. -/
import Derived.Test.YtdbbfcnblgokpaaGreatDoorRef
namespace Go.Proofs.YtdbbfcnblgokpaaGreatDoor.Al
open Go.ChangeShapes Go.WideShapes Go.ChangeAt Go.RowKit Go.Joins Go.Deep
set_option linter.unusedVariables false

def TwoPost (n b : Int) (w : World) (e : Ending) (w' : World) : Prop := e = .returned (.tuple #[.int .i64 n, .int .i64 b]) ∧ Draws w w'
theorem draws_refl (w : World) : Draws w w := ⟨0, rfl⟩

end Go.Proofs.YtdbbfcnblgokpaaGreatDoor.Al

/- The document's own operators, put together; what may be asked. -/
namespace Go.Proofs.YtdbbfcnblgokpaaGreatDoor.Al
open Go.ChangeShapes Go.WideShapes Go.ChangeAt Go.RowKit Go.Joins Go.Deep
set_option linter.unusedVariables false

theorem isN_0 {k : Int} (hk : 1 ≤ k ∧ k ≤ 6) : isN 0 (widthI k) := by
  rcases width_isW hk with h | h | h <;> rw [h] <;> simp [isN]
def oneI (op k a : Int) : Int × Int :=
  if op = 5 then twoI 9 k 0 a
  else if op = 6 then (wrapI (bits .xor .i64 (-1) a) (widthI k), 0)
  else (truthI (decide (a = 0)), 0)
end Go.Proofs.YtdbbfcnblgokpaaGreatDoor.Al
