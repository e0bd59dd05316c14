/- Nested programs. -/
import Derived.Test.YtofpfmdbmbfapaaGB
import Derived.Test.YtofpfmdbmbfapaaGMm
import Derived.Test.YtofpfmdbmbfapaaGCq
import Derived.Test.YtofpfmdbmbfapaaGRd
namespace Go.Proofs.Ytofpfmdbmbfapaa
open Go.ChangeShapes Go.WideShapes Go.ChangeAt Go.RowKit Go.Joins Go.Deep
set_option linter.unusedVariables false

def nS (i : Nat) : SX := ⟨5 + (i : Int) % 2, 0, 0, 0, 0, [(i : Int) + 1], []⟩
def nE : List EX := [⟨1, 6, 1, 0, 0⟩]
def nP (n : Nat) : PX := ⟨false, 2, [], [], nE, (List.range n).map nS ++ [⟨7, 0, 0, 0, 0, [], []⟩], [0]⟩
set_option maxRecDepth 100000 in
theorem nP_ok : ∀ n : Nat, n < 8 → progB (nP n) = decide (n ≤ 5) := by decide
set_option maxRecDepth 100000 in
theorem nP_in : ∀ n : Nat, n < 6 → (innerL (nP n)).length = n + 1 ∧ (innerL (nP n))[n]? = some (n : Int) := by decide
theorem tsC_get (r : List (SX × Value × Value)) (i j : Nat) (x : SX × Value × Value) (h : r[i]? = some x) (hj : j < 7) : (r.flatMap tsC)[i * 7 + j]? = (tsC x)[j]? := by
  induction r generalizing i with
  | nil => simp at h
  | cons y r ih =>
    cases i with
    | zero =>
      obtain rfl : y = x := by simpa using h
      rw [List.flatMap_cons, Nat.zero_mul, Nat.zero_add, List.getElem?_append_left (by simpa [tsC] using hj)]
    | succ i =>
      have := ih i (by simpa using h)
      rw [List.flatMap_cons, List.getElem?_append_right (by simp [tsC]; omega)]
      rw [show (i + 1) * 7 + j - (tsC y).length = i * 7 + j by simp [tsC]; omega]
      exact this
theorem RowT.is {base : Nat} {r : List (SX × Value × Value)} {v : Value} {w : World} (h : RowT base r v w) (hl : r.length ≤ maxLen) (hs : ∀ t ∈ r, t.1.body.length ≤ maxLen ∧ t.1.els.length ≤ maxLen) : IsSs w v (r.map (·.1)) := by
  obtain ⟨hz, hlen, ⟨rfl, h0⟩ | ⟨g, cap, cur, rfl, hbb, hg, hn, hm, hc, hx⟩⟩ := h
  · exact ⟨none, 0, by rw [List.length_map, h0], by rw [List.length_map]; exact hl, by rw [List.length_map, h0]; exact Nat.zero_le _, fun hp => by rw [List.length_map] at hp; omega⟩
  · refine ⟨_, cap, by rw [List.length_map], by rw [List.length_map]; exact hl, by rw [List.length_map]; exact hn, fun _ => ⟨g, 0, rfl, ?_, fun i x hxi => ?_⟩⟩
    · rcases Nat.lt_or_ge g w.heap.size with h' | h'
      · exact h'
      · rw [Array.getElem?_eq_none h'] at hg; cases hg
    · rw [List.getElem?_map] at hxi
      obtain ⟨t, ht, rfl⟩ := Option.map_eq_some_iff.1 hxi
      have hi : i < r.length := (List.getElem?_eq_some_iff.1 ht).1
      have hc9 : ∀ j, j < 7 → w.cell? ⟨g, 0 + i * 7 + j, none⟩ = (tsC t)[j]? := fun j hj => by
        rw [cell_of_block hg, Nat.zero_add]
        have h9 : (cur.toList.take (r.length * 7))[i * 7 + j]? = (r.flatMap tsC)[i * 7 + j]? := by rw [hx]
        rw [List.getElem?_take, if_pos (by omega), tsC_get r i j t ht hj] at h9
        simpa using h9
      have hm9 := List.mem_of_getElem? ht
      exact ⟨t.2.1, t.2.2, hc9 0 (by decide), hc9 1 (by decide), hc9 2 (by decide), hc9 3 (by decide), hc9 4 (by decide), hc9 5 (by decide), hc9 6 (by decide), (hz t hm9).1.is (hs t hm9).1, (hz t hm9).2.is (hs t hm9).2⟩
/-- a fresh block of one number is a row of the call's own -/
theorem rowZ_one {base b : Nat} {x : Int} {w : World} (h : At w b #[.int .i64 x] 3) (hb : base ≤ b) : RowZ base [x] (.slice (some ⟨b, 0, none⟩) 1 1) w :=
  ⟨rfl, Or.inr ⟨b, 1, _, rfl, hb, h, Nat.le_refl _, by unfold maxLen; omega, rfl, rfl⟩⟩
theorem isI_one {w : World} {b : Nat} {x : Int} (h : At w b #[.int .i64 x] 3) : IsIs w (.slice (some ⟨b, 0, none⟩) 1 1) [x] := (rowZ_one h (Nat.zero_le _)).is (by simp [maxLen])
theorem isE_one {w : World} {b : Nat} {op k n a c : Int} (h : At w b #[.int .i64 op, .int .i64 k, .int .i64 n, .int .i64 a, .int .i64 c] 45) : IsEs w (.slice (some ⟨b, 0, none⟩) 1 1) [⟨op, k, n, a, c⟩] := 
  RowE.is (base := 0) ⟨rfl, Or.inr ⟨b, 1, _, rfl, Nat.zero_le _, h, Nat.le_refl _, by unfold maxLen; omega, rfl, rfl⟩⟩ (by simp [maxLen])
def MadeP (n : Int) (w : World) (e : Ending) (w' : World) : Prop := e = .returned (.agg #[.int .i64 3, .int .i64 0, .int .i64 0, .int .i64 0, .int .i64 n, .slice none 0 0, .slice none 0 0]) ∧ Below w.heap.size w w'
set_option maxHeartbeats 1600000 in
theorem made_any (n : Int) (w : World) : Calls Try.prog 17 #[.int .i64 n] w (MadeP n w) := by
  go_enter Try.func17, Try.ntmps17
  have hb1 := below_box1 w (.cells #[.int .i64 0, .int .i64 0, .int .i64 0, .int .i64 0, .int .i64 0, .slice none 0 0, .slice none 0 0] 47)
  have T0 := At.new w #[.int .i64 0, .int .i64 0, .int .i64 0, .int .i64 0, .int .i64 0, .slice none 0 0, .slice none 0 0] 47
  go_upto_region 1 with (fail)
  obtain ⟨w1, hw1⟩ : ∃ w1, w.alloc (.cells #[.int .i64 0, .int .i64 0, .int .i64 0, .int .i64 0, .int .i64 0, .slice none 0 0, .slice none 0 0] 47) = w1 := ⟨_, rfl⟩
  rw [hw1] at T0 hb1
  rw [hw1]
  clear hw1
  have u0 : (w1).cell? ⟨w.heap.size, 0, none⟩ = some (.int .i64 0) := T0.cell 0 rfl
  have g0 := At.free T0 0
  have T1 : At ((w1).setCell ⟨w.heap.size, 0, none⟩ (.int .i64 3)) w.heap.size #[.int .i64 3, .int .i64 0, .int .i64 0, .int .i64 0, .int .i64 0, .slice none 0 0, .slice none 0 0] 47 := At.set T0 0 (.int .i64 3) (by simp)
  have u1 : ((w1).setCell ⟨w.heap.size, 0, none⟩ (.int .i64 3)).cell? ⟨w.heap.size, 1, none⟩ = some (.int .i64 0) := T1.cell 1 rfl
  have g1 := At.free T1 1
  have T2 : At (((w1).setCell ⟨w.heap.size, 0, none⟩ (.int .i64 3)).setCell ⟨w.heap.size, 1, none⟩ (.int .i64 0)) w.heap.size #[.int .i64 3, .int .i64 0, .int .i64 0, .int .i64 0, .int .i64 0, .slice none 0 0, .slice none 0 0] 47 := At.set T1 1 (.int .i64 0) (by simp)
  have u2 : (((w1).setCell ⟨w.heap.size, 0, none⟩ (.int .i64 3)).setCell ⟨w.heap.size, 1, none⟩ (.int .i64 0)).cell? ⟨w.heap.size, 2, none⟩ = some (.int .i64 0) := T2.cell 2 rfl
  have g2 := At.free T2 2
  have T3 : At ((((w1).setCell ⟨w.heap.size, 0, none⟩ (.int .i64 3)).setCell ⟨w.heap.size, 1, none⟩ (.int .i64 0)).setCell ⟨w.heap.size, 2, none⟩ (.int .i64 0)) w.heap.size #[.int .i64 3, .int .i64 0, .int .i64 0, .int .i64 0, .int .i64 0, .slice none 0 0, .slice none 0 0] 47 := At.set T2 2 (.int .i64 0) (by simp)
  have u3 : ((((w1).setCell ⟨w.heap.size, 0, none⟩ (.int .i64 3)).setCell ⟨w.heap.size, 1, none⟩ (.int .i64 0)).setCell ⟨w.heap.size, 2, none⟩ (.int .i64 0)).cell? ⟨w.heap.size, 3, none⟩ = some (.int .i64 0) := T3.cell 3 rfl
  have g3 := At.free T3 3
  have T4 : At (((((w1).setCell ⟨w.heap.size, 0, none⟩ (.int .i64 3)).setCell ⟨w.heap.size, 1, none⟩ (.int .i64 0)).setCell ⟨w.heap.size, 2, none⟩ (.int .i64 0)).setCell ⟨w.heap.size, 3, none⟩ (.int .i64 0)) w.heap.size #[.int .i64 3, .int .i64 0, .int .i64 0, .int .i64 0, .int .i64 0, .slice none 0 0, .slice none 0 0] 47 := At.set T3 3 (.int .i64 0) (by simp)
  have u4 : (((((w1).setCell ⟨w.heap.size, 0, none⟩ (.int .i64 3)).setCell ⟨w.heap.size, 1, none⟩ (.int .i64 0)).setCell ⟨w.heap.size, 2, none⟩ (.int .i64 0)).setCell ⟨w.heap.size, 3, none⟩ (.int .i64 0)).cell? ⟨w.heap.size, 4, none⟩ = some (.int .i64 0) := T4.cell 4 rfl
  have g4 := At.free T4 4
  have T5 : At ((((((w1).setCell ⟨w.heap.size, 0, none⟩ (.int .i64 3)).setCell ⟨w.heap.size, 1, none⟩ (.int .i64 0)).setCell ⟨w.heap.size, 2, none⟩ (.int .i64 0)).setCell ⟨w.heap.size, 3, none⟩ (.int .i64 0)).setCell ⟨w.heap.size, 4, none⟩ (.int .i64 n)) w.heap.size #[.int .i64 3, .int .i64 0, .int .i64 0, .int .i64 0, .int .i64 n, .slice none 0 0, .slice none 0 0] 47 := At.set T4 4 (.int .i64 n) (by simp)
  have u5 : ((((((w1).setCell ⟨w.heap.size, 0, none⟩ (.int .i64 3)).setCell ⟨w.heap.size, 1, none⟩ (.int .i64 0)).setCell ⟨w.heap.size, 2, none⟩ (.int .i64 0)).setCell ⟨w.heap.size, 3, none⟩ (.int .i64 0)).setCell ⟨w.heap.size, 4, none⟩ (.int .i64 n)).cell? ⟨w.heap.size, 5, none⟩ = some (.slice none 0 0) := T5.cell 5 rfl
  have g5 := At.free T5 5
  have T6 : At (((((((w1).setCell ⟨w.heap.size, 0, none⟩ (.int .i64 3)).setCell ⟨w.heap.size, 1, none⟩ (.int .i64 0)).setCell ⟨w.heap.size, 2, none⟩ (.int .i64 0)).setCell ⟨w.heap.size, 3, none⟩ (.int .i64 0)).setCell ⟨w.heap.size, 4, none⟩ (.int .i64 n)).setCell ⟨w.heap.size, 5, none⟩ (.slice none 0 0)) w.heap.size #[.int .i64 3, .int .i64 0, .int .i64 0, .int .i64 0, .int .i64 n, .slice none 0 0, .slice none 0 0] 47 := At.set T5 5 (.slice none 0 0) (by simp)
  have u6 : (((((((w1).setCell ⟨w.heap.size, 0, none⟩ (.int .i64 3)).setCell ⟨w.heap.size, 1, none⟩ (.int .i64 0)).setCell ⟨w.heap.size, 2, none⟩ (.int .i64 0)).setCell ⟨w.heap.size, 3, none⟩ (.int .i64 0)).setCell ⟨w.heap.size, 4, none⟩ (.int .i64 n)).setCell ⟨w.heap.size, 5, none⟩ (.slice none 0 0)).cell? ⟨w.heap.size, 6, none⟩ = some (.slice none 0 0) := T6.cell 6 rfl
  have g6 := At.free T6 6
  have T7 : At ((((((((w1).setCell ⟨w.heap.size, 0, none⟩ (.int .i64 3)).setCell ⟨w.heap.size, 1, none⟩ (.int .i64 0)).setCell ⟨w.heap.size, 2, none⟩ (.int .i64 0)).setCell ⟨w.heap.size, 3, none⟩ (.int .i64 0)).setCell ⟨w.heap.size, 4, none⟩ (.int .i64 n)).setCell ⟨w.heap.size, 5, none⟩ (.slice none 0 0)).setCell ⟨w.heap.size, 6, none⟩ (.slice none 0 0)) w.heap.size #[.int .i64 3, .int .i64 0, .int .i64 0, .int .i64 0, .int .i64 n, .slice none 0 0, .slice none 0 0] 47 := At.set T6 6 (.slice none 0 0) (by simp)
  have b8 : Below w.heap.size w ((((((((w1).setCell ⟨w.heap.size, 0, none⟩ (.int .i64 3)).setCell ⟨w.heap.size, 1, none⟩ (.int .i64 0)).setCell ⟨w.heap.size, 2, none⟩ (.int .i64 0)).setCell ⟨w.heap.size, 3, none⟩ (.int .i64 0)).setCell ⟨w.heap.size, 4, none⟩ (.int .i64 n)).setCell ⟨w.heap.size, 5, none⟩ (.slice none 0 0)).setCell ⟨w.heap.size, 6, none⟩ (.slice none 0 0)) := (((((((hb1.setCell (p := ⟨w.heap.size, 0, none⟩) (Nat.le_refl _) (.int .i64 3)).setCell (p := ⟨w.heap.size, 1, none⟩) (Nat.le_refl _) (.int .i64 0)).setCell (p := ⟨w.heap.size, 2, none⟩) (Nat.le_refl _) (.int .i64 0)).setCell (p := ⟨w.heap.size, 3, none⟩) (Nat.le_refl _) (.int .i64 0)).setCell (p := ⟨w.heap.size, 4, none⟩) (Nat.le_refl _) (.int .i64 n)).setCell (p := ⟨w.heap.size, 5, none⟩) (Nat.le_refl _) (.slice none 0 0)).setCell (p := ⟨w.heap.size, 6, none⟩) (Nat.le_refl _) (.slice none 0 0))
  clear T0 T1 T2 T3 T4 T5 T6
  go_wp2_with fail
  obtain ⟨w8, hw8⟩ : ∃ w8, (((((((w1).setCell ⟨w.heap.size, 0, none⟩ (.int .i64 3)).setCell ⟨w.heap.size, 1, none⟩ (.int .i64 0)).setCell ⟨w.heap.size, 2, none⟩ (.int .i64 0)).setCell ⟨w.heap.size, 3, none⟩ (.int .i64 0)).setCell ⟨w.heap.size, 4, none⟩ (.int .i64 n)).setCell ⟨w.heap.size, 5, none⟩ (.slice none 0 0)).setCell ⟨w.heap.size, 6, none⟩ (.slice none 0 0) = w8 := ⟨_, rfl⟩
  rw [hw8] at T7 b8
  rw [hw8]
  clear hw8 u0 u1 u2 u3 u4 u5 u6 g0 g1 g2 g3 g4 g5 g6
  have r0 : w8.cell? ⟨w.heap.size, 0, none⟩ = some (.int .i64 3) := T7.cell 0 rfl
  have r1 : w8.cell? ⟨w.heap.size, 1, none⟩ = some (.int .i64 0) := T7.cell 1 rfl
  have r2 : w8.cell? ⟨w.heap.size, 2, none⟩ = some (.int .i64 0) := T7.cell 2 rfl
  have r3 : w8.cell? ⟨w.heap.size, 3, none⟩ = some (.int .i64 0) := T7.cell 3 rfl
  have r4 : w8.cell? ⟨w.heap.size, 4, none⟩ = some (.int .i64 n) := T7.cell 4 rfl
  have r5 : w8.cell? ⟨w.heap.size, 5, none⟩ = some (.slice none 0 0) := T7.cell 5 rfl
  have r6 : w8.cell? ⟨w.heap.size, 6, none⟩ = some (.slice none 0 0) := T7.cell 6 rfl
  refine bodyPost_ret (v := .agg #[.int .i64 3, .int .i64 0, .int .i64 0, .int .i64 0, .int .i64 n, .slice none 0 0, .slice none 0 0]) ?_ rfl ⟨rfl, b8⟩
  simp [results, Try.results17, go_sem, r0, r1, r2, r3, r4, r5, r6]
end Go.Proofs.Ytofpfmdbmbfapaa
