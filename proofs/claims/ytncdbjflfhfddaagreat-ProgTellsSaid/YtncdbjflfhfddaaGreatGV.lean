/- Package prog: uses. -/
import Derived.Test.YtncdbjflfhfddaaGreatGU
namespace Go.Proofs.YtncdbjflfhfddaaGreat
open Go.ChangeShapes Go.WideShapes Go.ChangeAt Go.RowKit Go.Joins Go.Deep
set_option linter.unusedVariables false

def UsesP (l : List EX) (w : World) (e : Ending) (w' : World) : Prop := ∃ v, e = .returned v ∧ IsIs w' v (usesL l) ∧ Below w.heap.size w w'
def placesT (u : List Bool) (i : Nat) : List Int := ((List.range i).filter fun i => u.getD i false).map fun (i : Nat) => (i : Int)
theorem placesT_all (u : List Bool) : placesT u u.length = placesL u := rfl
theorem placesT_succ (u : List Bool) (i : Nat) : placesT u (i + 1) = placesT u i ++ (if u.getD i false then [(i : Int)] else []) := by
  unfold placesT
  rw [List.range_succ, List.filter_append, List.map_append]
  simp only [List.filter_cons, List.filter_nil]
  cases u.getD i false <;> rfl
theorem placesT_len (u : List Bool) (i : Nat) : (placesT u i).length ≤ i := by
  unfold placesT
  rw [List.length_map]
  exact Nat.le_trans (List.length_filter_le _ _) (by simp)
def Rel1 (w : World) (l : List EX) (n : Nat) (v : Value) (wr : World) : Prop :=
  ∃ (k : Nat) (u : List Bool), k ≤ n ∧ v = .int .i64 ((k : Int) - 1) ∧ u.length = n ∧ usB l k u = usesU l ∧ At wr w.heap.size (boolA u) 4 ∧ Below w.heap.size w wr
def Rel2 (w : World) (b : Bool) (i : Nat) (ps : List Int) (U : List Bool) (n m B : Nat) (v : Value) (wr : World) : Prop :=
  ∃ (j : Nat) (u : List Bool), j ≤ m ∧ v = .int .i64 (j : Nat) ∧ u.length = n ∧ u.getD i false = b ∧ marks b (ps.drop j) u = U ∧ At wr w.heap.size (boolA u) 4 ∧ Below w.heap.size w wr ∧ (0 < m → At wr B (intA ps) 3)
def Rel3 (w w2 : World) (u : List Bool) (n : Nat) (v7 v : Value) (wr : World) : Prop :=
  ∃ i : Nat, i ≤ n ∧ v = .int .i64 (i : Nat) ∧ RowZ w2.heap.size (placesT u i) v7 wr ∧ Below w2.heap.size w2 wr
theorem parts_len (x : EX) : (partsL x).length ≤ 2 := by
  unfold partsL
  split
  · exact Nat.le_refl _
  · split
    · exact Nat.le_succ _
    · exact Nat.zero_le _
theorem drop_consI {l : List Int} {i : Nat} {x : Int} (h : l[i]? = some x) : l.drop i = x :: l.drop (i + 1) := drop_cons' h
end Go.Proofs.YtncdbjflfhfddaaGreat
