/- The sets of a script, of a kind's width, and corners: the law's own rows. -/
import Derived.Test.YtblahbmhbfcggaaGreatDoorVWake
import Derived.Test.YtblahbmhbfcggaaGreatDoorVSome24
import Derived.Test.YtblahbmhbfcggaaGreatDoorCalls
import Derived.Deep.AppendLies
import Derived.Deep.DeepMust
namespace Go.Proofs.YtblahbmhbfcggaaGreatDoor
open Go.ChangeShapes Go.WideShapes Go.ChangeAt Go.RowKit Go.Joins Go.Deep
set_option linter.unusedVariables false

/-- a set's six cells -/
def viC (v : VI) : List Value := [.int .i64 v.k, .bool v.no, .int .i64 v.l, .int .i64 v.h, .int .i64 v.f, .int .i64 v.b]
abbrev viV (v : VI) : Value := .agg #[.int .i64 v.k, .bool v.no, .int .i64 v.l, .int .i64 v.h, .int .i64 v.f, .int .i64 v.b]
theorem rAll_v (k : Int) (hk : isW k) : ∃ v : VI, ∀ w, Calls Tryz.prog 26 #[.int .i64 k] w fun e w' => e = .returned (viV v) ∧ Below w.heap.size w w' := by
  rcases hk with rfl | rfl | rfl
  · refine ⟨⟨8, false, 0, 255, 255, 0⟩, fun w => ?_⟩
    have hb0 : Below w.heap.size w (w.alloc (.cells #[.int .i64 8, .bool false, .int .i64 0, .int .i64 255, .int .i64 255, .int .i64 0] 30)) := (Below.refl _ _).alloc (Nat.le_refl _) _
    go_enter Tryz.func26, Tryz.ntmps26
    go_wp2_with fail
    go_region
    all_goals
      go_wp2_with fail
      exact bodyPost_ret (v := valV 8 false 0 255 255 0) (by simp [results, Tryz.results26, go_sem]) rfl ⟨rfl, hb0.drew⟩
  · refine ⟨⟨16, false, 0, 65535, 65535, 0⟩, fun w => ?_⟩
    have hb0 : Below w.heap.size w (w.alloc (.cells #[.int .i64 16, .bool false, .int .i64 0, .int .i64 65535, .int .i64 65535, .int .i64 0] 30)) := (Below.refl _ _).alloc (Nat.le_refl _) _
    go_enter Tryz.func26, Tryz.ntmps26
    go_wp2_with fail
    go_region
    all_goals
      go_wp2_with fail
      exact bodyPost_ret (v := valV 16 false 0 65535 65535 0) (by simp [results, Tryz.results26, go_sem]) rfl ⟨rfl, hb0.drew⟩
  · refine ⟨⟨32, false, 0, 4294967295, 4294967295, 0⟩, fun w => ?_⟩
    have hb0 : Below w.heap.size w (w.alloc (.cells #[.int .i64 32, .bool false, .int .i64 0, .int .i64 4294967295, .int .i64 4294967295, .int .i64 0] 30)) := (Below.refl _ _).alloc (Nat.le_refl _) _
    go_enter Tryz.func26, Tryz.ntmps26
    go_wp2_with fail
    go_region
    all_goals
      go_wp2_with fail
      exact bodyPost_ret (v := valV 32 false 0 4294967295 4294967295 0) (by simp [results, Tryz.results26, go_sem]) rfl ⟨rfl, hb0.drew⟩
theorem rNo_v (k : Int) (w : World) : Calls Tryz.prog 27 #[.int .i64 k] w fun e w' => e = .returned (viV ⟨k, true, 0, 0, 0, 0⟩) ∧ Below w.heap.size w w' := by
  go_enter Tryz.func27, Tryz.ntmps27
  go_wp2_with fail
  exact bodyPost_ret (v := viV ⟨k, true, 0, 0, 0, 0⟩) (by simp [results, Tryz.results27, go_sem]) rfl ⟨rfl, (Below.refl _ _).alloc (Nat.le_refl _) _⟩
theorem rJust_v (k n : Int) (w : World) : Calls Tryz.prog 28 #[.int .i64 k, .int .i64 n] w fun e w' => e = .returned (viV ⟨k, false, n, n, 0, n⟩) ∧ Below w.heap.size w w' := by
  go_enter Tryz.func28, Tryz.ntmps28
  go_wp2_with fail
  exact bodyPost_ret (v := viV ⟨k, false, n, n, 0, n⟩) (by simp [results, Tryz.results28, go_sem]) rfl ⟨rfl, (Below.refl _ _).alloc (Nat.le_refl _) _⟩
/-- a row of sets of the call's own -/
def RowV (base : Nat) (xs : List VI) (sv : Value) (w : World) : Prop := w.ownsRow base 30 6 sv xs.length (xs.flatMap viC) ∧ (xs = [] → sv = .slice none 0 0)
theorem flat_len (xs : List VI) : (xs.flatMap viC).length = xs.length * 6 := by
  induction xs with
  | nil => rfl
  | cons a r ih => simp only [List.flatMap_cons, List.length_append, List.length_cons, ih, viC, List.length_nil]; omega
theorem flat_at (xs : List VI) (i j : Nat) (hi : i < xs.length) (hj : j < 6) : (xs.flatMap viC)[i * 6 + j]? = (viC xs[i])[j]? := by
  induction xs generalizing i with
  | nil => simp at hi
  | cons a r ih =>
    rw [List.flatMap_cons]
    have ha : (viC a).length = 6 := rfl
    cases i with
    | zero => rw [List.getElem?_append_left (by omega)]; simp
    | succ i =>
      rw [List.getElem?_append_right (by omega)]
      have e : (i + 1) * 6 + j - (viC a).length = i * 6 + j := by omega
      rw [e, ih i (by simpa using hi)]
      simp
theorem RowV.vals {base : Nat} {xs : List VI} {sv : Value} {w : World} (h : RowV base xs sv w) : ∃ p cap, sv = .slice p xs.length cap ∧ IsVals w p xs.length xs := by
  by_cases h0 : xs = []
  · exact ⟨none, 0, by rw [h.2 h0, h0]; rfl, rfl, fun hl => by rw [h0] at hl; simp at hl⟩
  · have hpos : 0 < xs.length := List.length_pos_iff.2 h0
    have hne : sv ≠ .slice none 0 0 := fun hs => by
      obtain ⟨g, cap, rfl, _⟩ := h.1.form hpos
      cases hs
    obtain ⟨g, cap, rfl, hb, hg, hn, hx⟩ := ownsRow_cells h.1 hne
    refine ⟨_, cap, rfl, rfl, fun _ => ⟨g, 0, rfl, hg, fun i hi => ?_⟩⟩
    have c := fun j (hj : j < 6) u (hu : (viC xs[i])[j]? = some u) => hx (i * 6 + j) u ((flat_at xs i j hi hj).trans hu)
    simp only [Nat.zero_add]
    exact ⟨c 0 (by omega) _ rfl, c 1 (by omega) _ rfl, c 2 (by omega) _ rfl, c 3 (by omega) _ rfl, c 4 (by omega) _ rfl, c 5 (by omega) _ rfl⟩
end Go.Proofs.YtblahbmhbfcggaaGreatDoor
