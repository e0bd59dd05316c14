/- MemOver: its walk. -/
import Derived.Test.YtoooddjlgbflfaaKWakes
import Derived.Deep.Cut
import Derived.Deep.CutRange
namespace Go.Proofs.Ytoooddjlgbflfaa
open Go.ChangeShapes Go.WideShapes Go.ChangeAt Go.RowKit Go.Joins Go.Deep
set_option linter.unusedVariables false

def nul : SC := ⟨true, 0, 0, 0⟩
def one1 : SC := ⟨false, 1, 0, 0⟩
def ov2 (b : Nat) (big : Bool) (pp t : Int) : List BK := stoM (two8 b 8) (pt 1 4) (putL big (sizN pp 7) (pt 1 t))
def ov3 (b : Nat) (big : Bool) (pp t : Int) : List BK := stoM (ov2 b big pp t) (pt 1 5) (putL big (sizN pp 1) one1)
def ov4 (b : Nat) (big : Bool) (pp t : Int) : List BK := stoM (ov3 b big pp t) (pt 1 4) (putL big (sizN pp 7) nul)
/-- all that is asked of these memories -/
def OvF (b : Nat) (big : Bool) (pp t : Int) : Prop :=
  (hasM (two8 b 8) (pt 1 4) = true ∧ mayS 7 (pt 1 t) = true ∧ reachM (two8 b 8) (pt 1 4) (sizN pp 7) = 0) ∧
  (hasM (ov2 b big pp t) (pt 1 4) = true ∧ hasM (ov2 b big pp t) (pt 1 5) = true ∧ loadS big pp 7 (ov2 b big pp t) (pt 1 4) = (pt 1 t, 0) ∧ loadS big pp 1 (ov2 b big pp t) (pt 1 4) = (noS, 8) ∧ mayS 1 one1 = true ∧ reachM (ov2 b big pp t) (pt 1 5) (sizN pp 1) = 0) ∧
  (hasM (ov3 b big pp t) (pt 1 4) = true ∧ hasM (ov3 b big pp t) (pt 1 5) = true ∧ loadS big pp 7 (ov3 b big pp t) (pt 1 4) = (noS, 8) ∧ loadS big pp 1 (ov3 b big pp t) (pt 1 5) = (one1, 0) ∧ mayS 7 nul = true ∧ reachM (ov3 b big pp t) (pt 1 4) (sizN pp 7) = 0) ∧
  (hasM (ov4 b big pp t) (pt 1 4) = true ∧ loadS big pp 7 (ov4 b big pp t) (pt 1 4) = (nul, 0))
set_option maxRecDepth 100000 in
theorem ov_all (b : Nat) (big : Bool) (pp t : Int) (hp : mayA pp) (ht : 1 ≤ t ∧ t ≤ 5) : OvF b big pp t := by
  have : t = 1 ∨ t = 2 ∨ t = 3 ∨ t = 4 ∨ t = 5 := by omega
  rcases hp with rfl | rfl <;> rcases this with rfl | rfl | rfl | rfl | rfl <;> cases big
  all_goals exact ⟨⟨by kernel_rfl, by kernel_rfl, by kernel_rfl⟩, ⟨by kernel_rfl, by kernel_rfl, by kernel_rfl, by kernel_rfl, by kernel_rfl, by kernel_rfl⟩, ⟨by kernel_rfl, by kernel_rfl, by kernel_rfl, by kernel_rfl, by kernel_rfl, by kernel_rfl⟩, by kernel_rfl, by kernel_rfl⟩
theorem sto_eq {big : Bool} {pp k : Int} {m : List BK} {p s : SC} (h : reachM m p (sizN pp k) = 0) : storeD big pp k m p s = datM (stoM m p (putL big (sizN pp k) s)) := by unfold storeD; rw [h]; rfl
end Go.Proofs.Ytoooddjlgbflfaa
