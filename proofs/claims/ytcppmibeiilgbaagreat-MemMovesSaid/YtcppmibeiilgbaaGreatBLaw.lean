/- The statements of package bytes: what is played, which machines, the page's example. -/
import Derived.Test.YtcppmibeiilgbaaGreatBBack
namespace Go.Proofs.YtcppmibeiilgbaaGreat
open Go.ChangeShapes Go.WideShapes Go.ChangeAt Go.RowKit Go.Joins Go.Deep
set_option linter.unusedVariables false

def HeavyP (la ls lb : Nat) (w : World) (e : Ending) (w' : World) : Prop := ∃ hv : Bool, e = .returned (.bool hv) ∧ (hv = false → la + ls + lb ≤ 300) ∧ Below w.heap.size w w'
/-- so many machines in a row -/
def MachAt (w : World) (g m : Nat) (fa : List (Bool × Int)) : Prop := g < w.heap.size ∧ fa.length = m ∧ ∀ i, i < m → w.cell? ⟨g, i * 2, none⟩ = some (.bool (fa.getD i (false, 0)).1) ∧ w.cell? ⟨g, i * 2 + 1, none⟩ = some (.int .i64 (fa.getD i (false, 0)).2)
theorem MachAt.below {w w' : World} {g m : Nat} {fa : List (Bool × Int)} (h : MachAt w g m fa) (hb : Below w.heap.size w w') : MachAt w' g m fa :=
  ⟨by have := h.1; have := hb.size; omega, h.2.1, fun i hi => ⟨cell_below (h.2.2 i hi).1 hb, cell_below (h.2.2 i hi).2 hb⟩⟩
def MachP (w : World) (e : Ending) (w' : World) : Prop := ∃ g m cap fa, e = .returned (.slice (some ⟨g, 0, none⟩) m cap) ∧ 4 ≤ m ∧ m ≤ 6 ∧ w.heap.size ≤ g ∧ MachAt w' g m fa ∧ Below w.heap.size w w'
theorem Tryz.infoAbi : (Tryz.prog.info? 70).map (fun i => (i.zero, i.size, i.bytes)) = some (some (.agg #[.bool false, .int .i64 0]), 2, 16) := by kernel_rfl
theorem ownsRow_row {w : World} {base e size : Nat} {v : Value} {n : Nat} {xs : List Value} (h : w.ownsRow base e size v n xs) (hv : v ≠ .slice none 0 0) :
    ∃ g cap, v = .slice (some ⟨g, 0, none⟩) n cap ∧ n ≤ cap ∧ base ≤ g ∧ g < w.heap.size ∧ ∀ j u, xs[j]? = some u → w.cell? ⟨g, j, none⟩ = some u := by
  obtain ⟨hl, ⟨rfl, _⟩ | ⟨g, cap, cur, rfl, hb, hg, hn, hm, hc, hx⟩⟩ := h
  · exact absurd rfl hv
  · refine ⟨g, cap, rfl, hn, hb, ?_, fun j u hu => ?_⟩
    · rcases Nat.lt_or_ge g w.heap.size with h' | h'
      · exact h'
      · rw [Array.getElem?_eq_none h'] at hg; cases hg
    · rw [cell_of_block hg]
      rw [← hx, List.getElem?_take] at hu
      split at hu
      · simpa using hu
      · cases hu
def four : List (Bool × Int) := [(false, 4), (true, 2), (false, 2), (true, 4)]
end Go.Proofs.YtcppmibeiilgbaaGreat
