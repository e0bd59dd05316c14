/- What the laws of layer 3 share: num, Heavy, wakes; rows of integers of the call's own. -/
import Derived.Test.YtpoaieoldccmiaaGreatVOpen
namespace Go.Proofs.YtpoaieoldccmiaaGreat
open Go.ChangeShapes Go.WideShapes Go.ChangeAt Go.RowKit Go.Joins Go.Deep
set_option linter.unusedVariables false

theorem num_any (n : Int) (w : World) : Calls Tryz.prog 9 #[.int .i64 n] w fun e w' => e = .returned (.int .i64 n) ∧ w = w' := by
  go_enter Tryz.func9, Tryz.ntmps9
  go_wp2
  go_ret
  exact ⟨rfl, rfl⟩
def HeavyPost (lv ln : Nat) (w : World) (e : Ending) (w' : World) : Prop := ∃ hv : Bool, e = .returned (.bool hv) ∧ (hv = false → lv ≤ 100 ∧ ln ≤ 100) ∧ Below w.heap.size w w'
theorem heavy_any (pv : Option Addr) (lv cv : Nat) (pn : Option Addr) (ln cn : Nat) (w : World) :
    Calls Tryz.prog 4 #[.agg #[.slice pv lv cv, .slice pn ln cn]] w (HeavyPost lv ln w) := by
  by_cases h1 : lv ≤ 100
  · have t0 : decide ((100 : Int) < (lv : Int)) = false := by simp; omega
    by_cases h2 : ln ≤ 100
    · have t1 : decide ((100 : Int) < (ln : Int)) = false := by simp; omega
      have fin : lv ≤ 100 ∧ ln ≤ 100 := ⟨h1, h2⟩
      clear h1 h2
      go_enter Tryz.func4, Tryz.ntmps4
      go_wp2
      go_ret
      exact ⟨false, rfl, fun _ => fin, (Below.refl _ _).alloc (Nat.le_refl _) _⟩
    · have t1 : decide ((100 : Int) < (ln : Int)) = true := by simp; omega
      clear h1 h2
      go_enter Tryz.func4, Tryz.ntmps4
      go_wp2
      go_ret
      exact ⟨true, rfl, (fun h => by cases h), (Below.refl _ _).alloc (Nat.le_refl _) _⟩
  · have t0 : decide ((100 : Int) < (lv : Int)) = true := by simp; omega
    clear h1
    go_enter Tryz.func4, Tryz.ntmps4
    go_wp2
    go_ret
    exact ⟨true, rfl, (fun h => by cases h), (Below.refl _ _).alloc (Nat.le_refl _) _⟩

theorem ok3 : ValOk 8 false 3 3 0 3 := ⟨⟨Or.inl rfl, by decide, by decide, fun i h => by simp at h⟩, by decide, by decide⟩
theorem mem3 (z : Nat) : MemV 8 false 3 3 0 3 z ↔ z = 3 := by
  constructor
  · rintro ⟨_, _, _, hr⟩
    simp at hr
    omega
  · rintro rfl
    exact ⟨rfl, by decide, fun _ _ => rfl, by simp⟩
set_option maxRecDepth 100000 in
set_option maxHeartbeats 1600000 in
theorem wakes_any (w : World) : Calls Tryz.prog 16 #[] w fun e w' => e = .returned (.bool true) ∧ Below w.heap.size w w' := by
  have cO := fun w => One_yes 8 3 (Or.inl rfl) (by decide) w
  have hm : mayB (8 : Nat) false (3 : Nat) (3 : Nat) (0 : Nat) (3 : Nat) = true := ok_may ok3 (fun h => by cases h)
  have c3 := fun w => Has_yes 8 false 3 3 0 3 3 ok3 hm (by decide) w
  have c4 := fun w => Has_yes 8 false 3 3 0 3 4 ok3 hm (by decide) w
  have cV := fun w => rVal_any (8 : Nat) false (3 : Nat) (3 : Nat) (0 : Nat) (3 : Nat) w
  rw [hm] at cV
  clear hm
  go_enter Tryz.func16, Tryz.ntmps16
  go_wp2_with fail
  refine (cO _).mono ?_
  rintro e w1 ⟨rfl, hb1⟩
  have d0 := At.new w1 #[.int .i64 8, .bool false, .int .i64 3, .int .i64 3, .int .i64 0, .int .i64 3] 28
  replace hb1 := hb1.alloc hb1.size (.cells #[.int .i64 8, .bool false, .int .i64 3, .int .i64 3, .int .i64 0, .int .i64 3] 28)
  go_wp2_with fail
  refine (c3 _).mono ?_
  rintro e w2 ⟨is, his, rfl, hb2⟩
  obtain rfl : is = true := his.2 ((mem3 3).2 rfl)
  have d2 := At.below' hb2 d0
  have k0 : w2.cell? ⟨w1.heap.size, 0, none⟩ = some (.int .i64 8) := d2.cell 0 rfl
  have k1 : w2.cell? ⟨w1.heap.size, 1, none⟩ = some (.bool false) := d2.cell 1 rfl
  have k2 : w2.cell? ⟨w1.heap.size, 2, none⟩ = some (.int .i64 3) := d2.cell 2 rfl
  have k3 : w2.cell? ⟨w1.heap.size, 3, none⟩ = some (.int .i64 3) := d2.cell 3 rfl
  have k4 : w2.cell? ⟨w1.heap.size, 4, none⟩ = some (.int .i64 0) := d2.cell 4 rfl
  have k5 : w2.cell? ⟨w1.heap.size, 5, none⟩ = some (.int .i64 3) := d2.cell 5 rfl
  have hbE := hb1.trans (hb2.mono hb1.size)
  clear his d0 hb1 hb2
  go_wp2_with fail
  refine (c4 _).mono ?_
  rintro e w3 ⟨is, his, rfl, hb3⟩
  obtain rfl : is = false := by
    cases is
    · rfl
    · have := (mem3 4).1 (his.1 rfl)
      omega
  have d3 := At.below' hb3 d2
  have hbF := hbE.trans (hb3.mono hbE.size)
  clear k0 k1 k2 k3 k4 k5 his hbE hb3 d2
  have k0 : w3.cell? ⟨w1.heap.size, 0, none⟩ = some (.int .i64 8) := d3.cell 0 rfl
  have k1 : w3.cell? ⟨w1.heap.size, 1, none⟩ = some (.bool false) := d3.cell 1 rfl
  have k2 : w3.cell? ⟨w1.heap.size, 2, none⟩ = some (.int .i64 3) := d3.cell 2 rfl
  have k3 : w3.cell? ⟨w1.heap.size, 3, none⟩ = some (.int .i64 3) := d3.cell 3 rfl
  have k4 : w3.cell? ⟨w1.heap.size, 4, none⟩ = some (.int .i64 0) := d3.cell 4 rfl
  have k5 : w3.cell? ⟨w1.heap.size, 5, none⟩ = some (.int .i64 3) := d3.cell 5 rfl
  clear d3
  go_wp2_with ((go_at_call 9; refine (num_any _ _).mono ?_; rintro e w' ⟨rfl, rfl⟩))
  refine (cV _).mono ?_
  rintro e w4 ⟨rfl, hb4⟩
  go_wp2_with fail
  go_ret
  exact ⟨rfl, hbF.trans (hb4.mono hbF.size)⟩

theorem Tryz.infoInt : (Tryz.prog.info? 3).map (fun i => (i.zero, i.size, i.bytes)) = some (some (.int .i64 0), 1, 8) := by kernel_rfl
theorem wfi {n : Int} (h : -9223372036854775808 ≤ n) (h' : n ≤ 9223372036854775807) : (Lit.int .i64 n).wf = true := by
  simp [Lit.wf, IntKind.min, IntKind.max, IntKind.signed, IntKind.bits]; omega
/-- a row of the call's own, read as integers -/
theorem ints_ownR {w : World} {B : Nat} {v : Value} {n : Nat} {xs : List Int} (h : w.ownsRow B 3 1 v n (xs.map (Value.int .i64))) (hv : v ≠ .slice none 0 0) :
    ∃ g cap, v = .slice (some ⟨g, 0, none⟩) n cap ∧ xs.length = n ∧ ∀ i (hi : i < xs.length), w.cell? ⟨g, i, none⟩ = some (.int .i64 xs[i]) := by
  have hl : xs.length = n := by have := h.1; simpa using this
  obtain ⟨g, cap, rfl, hb, hg, hn, hx⟩ := ownsRow_cells h hv
  refine ⟨g, cap, rfl, hl, fun i hi => ?_⟩
  exact hx i (.int .i64 xs[i]) (by rw [List.getElem?_map, List.getElem?_eq_getElem hi]; rfl)
end Go.Proofs.YtpoaieoldccmiaaGreat
