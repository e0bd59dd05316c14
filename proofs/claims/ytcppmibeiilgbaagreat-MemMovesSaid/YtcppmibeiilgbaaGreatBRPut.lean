/- The document's own bytes of a scalar. -/
import Derived.Test.YtcppmibeiilgbaaGreatBPutN
import Derived.Deep.Cut
import Derived.Deep.CutRange
namespace Go.Proofs.YtcppmibeiilgbaaGreat
open Go.ChangeShapes Go.WideShapes Go.ChangeAt Go.RowKit Go.Joins Go.Deep
set_option linter.unusedVariables false

/-- a row that is the call's own -/
def RowPost (L : List BY) (n : Nat) (w : World) (e : Ending) (w' : World) : Prop :=
  ∃ B, e = .returned (.slice (some ⟨B, 0, none⟩) n n) ∧ w.heap.size ≤ B ∧ At w' B (byC L) 76 ∧ Below w.heap.size w w'
theorem set_set_by (L : List BY) (j : Nat) (x y : BY) : (L.set j x).set j y = L.set j y := by simp
end Go.Proofs.YtcppmibeiilgbaaGreat
