/- Nested programs. -/
import Derived.Test.YtncdbjflfhfddaaGreatGB
import Derived.Test.YtncdbjflfhfddaaGreatGMm
import Derived.Test.YtncdbjflfhfddaaGreatGCq
import Derived.Test.YtncdbjflfhfddaaGreatGRd
namespace Go.Proofs.YtncdbjflfhfddaaGreat
open Go.ChangeShapes Go.WideShapes Go.ChangeAt Go.RowKit Go.Joins Go.Deep
set_option linter.unusedVariables false

def nS (i : Nat) : SX := ⟨5 + (i : Int) % 2, 0, 0, 0, 0, [(i : Int) + 1], []⟩
def nE : List EX := [⟨1, 6, 1, 0, 0⟩]
def nP (n : Nat) : PX := ⟨false, 2, [], [], nE, (List.range n).map nS ++ [⟨7, 0, 0, 0, 0, [], []⟩], [0]⟩
set_option maxRecDepth 100000 in
theorem nP_ok : ∀ n : Nat, n < 8 → progB (nP n) = decide (n ≤ 5) := by decide
set_option maxRecDepth 100000 in
theorem nP_in : ∀ n : Nat, n < 6 → (innerL (nP n)).length = n + 1 ∧ (innerL (nP n))[n]? = some (n : Int) := by decide
theorem tsC_get (r : List (SX × Value × Value)) (i j : Nat) (x : SX × Value × Value) (h : r[i]? = some x) (hj : j < 7) : (r.flatMap tsC)[i * 7 + j]? = (tsC x)[j]? := by
  induction r generalizing i with
  | nil => simp at h
  | cons y r ih =>
    cases i with
    | zero =>
      obtain rfl : y = x := by simpa using h
      rw [List.flatMap_cons, Nat.zero_mul, Nat.zero_add, List.getElem?_append_left (by simpa [tsC] using hj)]
    | succ i =>
      have := ih i (by simpa using h)
      rw [List.flatMap_cons, List.getElem?_append_right (by simp [tsC]; omega)]
      rw [show (i + 1) * 7 + j - (tsC y).length = i * 7 + j by simp [tsC]; omega]
      exact this
theorem RowT.is {base : Nat} {r : List (SX × Value × Value)} {v : Value} {w : World} (h : RowT base r v w) (hl : r.length ≤ maxLen) (hs : ∀ t ∈ r, t.1.body.length ≤ maxLen ∧ t.1.els.length ≤ maxLen) : IsSs w v (r.map (·.1)) := by
  obtain ⟨hz, hlen, ⟨rfl, h0⟩ | ⟨g, cap, cur, rfl, hbb, hg, hn, hm, hc, hx⟩⟩ := h
  · exact ⟨none, 0, by rw [List.length_map, h0], by rw [List.length_map]; exact hl, by rw [List.length_map, h0]; exact Nat.zero_le _, fun hp => by rw [List.length_map] at hp; omega⟩
  · refine ⟨_, cap, by rw [List.length_map], by rw [List.length_map]; exact hl, by rw [List.length_map]; exact hn, fun _ => ⟨g, 0, rfl, ?_, fun i x hxi => ?_⟩⟩
    · rcases Nat.lt_or_ge g w.heap.size with h' | h'
      · exact h'
      · rw [Array.getElem?_eq_none h'] at hg; cases hg
    · rw [List.getElem?_map] at hxi
      obtain ⟨t, ht, rfl⟩ := Option.map_eq_some_iff.1 hxi
      have hi : i < r.length := (List.getElem?_eq_some_iff.1 ht).1
      have hc9 : ∀ j, j < 7 → w.cell? ⟨g, 0 + i * 7 + j, none⟩ = (tsC t)[j]? := fun j hj => by
        rw [cell_of_block hg, Nat.zero_add]
        have h9 : (cur.toList.take (r.length * 7))[i * 7 + j]? = (r.flatMap tsC)[i * 7 + j]? := by rw [hx]
        rw [List.getElem?_take, if_pos (by omega), tsC_get r i j t ht hj] at h9
        simpa using h9
      have hm9 := List.mem_of_getElem? ht
      exact ⟨t.2.1, t.2.2, hc9 0 (by decide), hc9 1 (by decide), hc9 2 (by decide), hc9 3 (by decide), hc9 4 (by decide), hc9 5 (by decide), hc9 6 (by decide), (hz t hm9).1.is (hs t hm9).1, (hz t hm9).2.is (hs t hm9).2⟩
/-- a fresh block of one number is a row of the call's own -/
theorem rowZ_one {base b : Nat} {x : Int} {w : World} (h : At w b #[.int .i64 x] 3) (hb : base ≤ b) : RowZ base [x] (.slice (some ⟨b, 0, none⟩) 1 1) w :=
  ⟨rfl, Or.inr ⟨b, 1, _, rfl, hb, h, Nat.le_refl _, by unfold maxLen; omega, rfl, rfl⟩⟩
theorem isI_one {w : World} {b : Nat} {x : Int} (h : At w b #[.int .i64 x] 3) : IsIs w (.slice (some ⟨b, 0, none⟩) 1 1) [x] := (rowZ_one h (Nat.zero_le _)).is (by simp [maxLen])
theorem isE_one {w : World} {b : Nat} {op k n a c : Int} (h : At w b #[.int .i64 op, .int .i64 k, .int .i64 n, .int .i64 a, .int .i64 c] 50) : IsEs w (.slice (some ⟨b, 0, none⟩) 1 1) [⟨op, k, n, a, c⟩] := 
  RowE.is (base := 0) ⟨rfl, Or.inr ⟨b, 1, _, rfl, Nat.zero_le _, h, Nat.le_refl _, by unfold maxLen; omega, rfl, rfl⟩⟩ (by simp [maxLen])
def MadeP (n : Int) (w : World) (e : Ending) (w' : World) : Prop := e = .returned (.agg #[.int .i64 3, .int .i64 0, .int .i64 0, .int .i64 0, .int .i64 n, .slice none 0 0, .slice none 0 0]) ∧ Below w.heap.size w w'
end Go.Proofs.YtncdbjflfhfddaaGreat
