/- A slice that came in, whatever its elements. -/
import Derived.Test.YtcppmibeiilgbaaGreatBOpen
namespace Go.Proofs.YtcppmibeiilgbaaGreat
open Go.ChangeShapes Go.WideShapes Go.ChangeAt Go.RowKit Go.Joins Go.Deep
set_option linter.unusedVariables false

theorem shp_of {P : Program} {t e : TypeId} (ht : P.underlying t = some (.slice e)) {H : Type} {enc : TypeId × Value → H} {W : World} {v : Value} {y : DataW H × List MemPlace} {m : Nat} (h : DataW.trod enc P W 0 (fun _ => true) true m t [v] = some y) :
    ∃ p len cap, v = .slice p len cap ∧ (len = 0 ∨ ∃ elems spare, y.1 = .slice elems spare ∧ elems.length = len) := by
  rcases open_slice ht h with ⟨hcs, _⟩ | ⟨ad, len, cap, m, n, D, Pl, hcs, _, hl, hm, hmm, hy, hx⟩
  · simp at hcs
    subst hcs
    exact ⟨none, 0, 0, rfl, Or.inl rfl⟩
  · simp at hcs
    subst hcs
    exact ⟨some ad, len, cap, rfl, Or.inr ⟨_, _, by rw [hy], by simp⟩⟩
end Go.Proofs.YtcppmibeiilgbaaGreat
