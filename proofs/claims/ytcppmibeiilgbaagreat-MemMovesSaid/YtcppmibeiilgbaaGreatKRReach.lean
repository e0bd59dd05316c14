/- The document's own: what goes wrong with a scalar of a kind at a pointer. -/
import Derived.Test.YtcppmibeiilgbaaGreatKLoad
import Derived.Test.YtcppmibeiilgbaaGreatBRGet
import Derived.BigQuiet
namespace Go.Proofs.YtcppmibeiilgbaaGreat
open Go.ChangeShapes Go.WideShapes Go.ChangeAt Go.RowKit Go.Joins Go.Deep
set_option linter.unusedVariables false

/-- a pointer's block, in memory -/
theorem at_cells {w : World} {q : Option Addr} {len : Nat} {m : List BK} (hx : IsMem w q len m) {p : SC} {j : Nat} (hj : p.b = (j : Nat)) (hl : j < len) : ∃ b off, q = some ⟨b, off, none⟩ ∧ BkCells w b (off + j * 2) (atM m p) := by
  obtain ⟨_, hlen, hc⟩ := hx
  obtain ⟨b, off, rfl, hbb, hcells⟩ := hc (by omega)
  rw [atM_eq hj]
  exact ⟨b, off, rfl, hcells j hl⟩
end Go.Proofs.YtcppmibeiilgbaaGreat
