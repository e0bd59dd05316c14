/- ValJoins: its walk. -/
import Derived.Test.YtpoaieoldccmiaaGreatVJoinsB
namespace Go.Proofs.YtpoaieoldccmiaaGreat
open Go.ChangeShapes Go.WideShapes Go.ChangeAt Go.RowKit Go.Joins Go.Deep
set_option linter.unusedVariables false

set_option maxRecDepth 1000000 in
set_option maxHeartbeats 1600000 in
theorem loopB (pv : Option Addr) (lv cv : Nat) (vs : List VI) (w w1 : World) (hv : IsVals w pv lv vs) (hlv2 : lv ≤ 100) (Bp : Nat) (pn : Option Addr) (ln cn : Nat) (d0 : At w1 Bp #[.slice pv lv cv, .slice pn ln cn] 25) (hb0 : Below w.heap.size w w1) (i : Nat) (hi1 : i < lv) (hi2 : i < 10)
    (Q : Exit → Act → World → Prop) (hQ : ∀ t w', t.size = 296 → sl t 1 = .pointer (some ⟨Bp, 0, none⟩) → sl t 3 = .int .i64 (i : Nat) → Below w1.heap.size w1 w' → Q (.exit 2) ⟨t, []⟩ w')
    (t : Array Value) (f0 : t.size = 296) (f1 : sl t 1 = .pointer (some ⟨Bp, 0, none⟩)) (f3 : sl t 3 = .int .i64 (i : Nat)) (f4 : sl t 4 = .int .i64 0) (wr : World) (hbr : Below w1.heap.size w1 wr) :
    (Code.loop bodyB).wp Tryz.prog (NoPanic Q) ⟨t, []⟩ wr :=
  wp_loop_ghost_k (RelB lv Bp i w1) lv ⟨t, 0, 0, rfl, f0, f1, f3, f4, rfl, by omega, hbr⟩ (fun n a wr hR J KK hJ hK => roundB pv lv cv vs w w1 hv hlv2 Bp pn ln cn d0 hb0 i hi1 hi2 Q hQ n a wr hR J KK hJ hK)
/-- the frame where loop 1 stands -/
def RelA (lv Bp : Nat) (w1 : World) (n : Nat) (a : Act) (wr : World) : Prop := ∃ t i z, a = ⟨t, []⟩ ∧ t.size = 296 ∧ sl t 1 = .pointer (some ⟨Bp, 0, none⟩) ∧ sl t 3 = .int .i64 z ∧ z = (i : Nat) ∧ i + n = lv ∧ Below w1.heap.size w1 wr
set_option maxRecDepth 1000000 in
set_option maxHeartbeats 6400000 in
theorem loopA (pv : Option Addr) (lv cv : Nat) (vs : List VI) (w w1 : World) (hv : IsVals w pv lv vs) (hlv2 : lv ≤ 100) (Bp : Nat) (pn : Option Addr) (ln cn : Nat) (d0 : At w1 Bp #[.slice pv lv cv, .slice pn ln cn] 25) (hb0 : Below w.heap.size w w1)
    (Q : Exit → Act → World → Prop) (hQ : ∀ t w', t.size = 296 → Below w1.heap.size w1 w' → Q (.exit 0) ⟨t, []⟩ w')
    (t : Array Value) (f0 : t.size = 296) (f1 : sl t 1 = .pointer (some ⟨Bp, 0, none⟩)) (f3 : sl t 3 = .int .i64 0) :
    (Code.loop bodyA).wp Tryz.prog (NoPanic Q) ⟨t, []⟩ w1 := by
  refine wp_loop_ghost_k (RelA lv Bp w1) lv ⟨t, 0, 0, rfl, f0, f1, f3, rfl, by omega, Below.refl _ _⟩ ?_
  clear f0 f1 f3
  intro n a wr hR J KK hJ hK
  clear t
  obtain ⟨t, i, z, rfl, f0, f1, f3, rfl, hin, hbr⟩ := hR
  rw [open_frame t f0]
  simp only [f1, f3]
  clear f0 f1 f3
  conv => arg 2; whnf
  have c0 : wr.cell? ⟨Bp, 0, none⟩ = some (.slice pv lv cv) := (d0.below hbr d0.lt).cell 0 rfl
  by_cases hil : i < lv ∧ i < 10
  · obtain ⟨hi1, hi2⟩ := hil
    have hi3 : (i : Int) < (lv : Int) := by omega
    have hi4 : (i : Int) < 10 := by omega
    go_wp2_with fail
    refine noPanic_mono (loopB pv lv cv vs w w1 hv hlv2 Bp pn ln cn d0 hb0 i hi1 hi2 _ ?_ _ rfl rfl rfl rfl wr hbr)
    clear c0 hbr
    intro t2 w2 f0 f1 f3 hb2
    rw [open_frame t2 f0]
    simp only [f1, f3]
    clear f0 f1 f3
    go_wp2_with fail
    refine Handed.intro (n - 1) (by omega) (hJ _ _ _ ⟨_, i + 1, _, rfl, rfl, rfl, rfl, by omega, by omega, hb2⟩)
  · clear hJ
    by_cases hi1 : i < lv
    · have hi3 : (i : Int) < (lv : Int) := by omega
      have hi4 : decide ((i : Int) < 10) = false := by simp; omega
      go_wp2_with fail
      exact hQ _ _ rfl hbr
    · have hi3 : decide ((i : Int) < (lv : Int)) = false := by simp; omega
      go_wp2_with fail
      exact hQ _ _ rfl hbr
set_option maxRecDepth 1000000 in
set_option maxHeartbeats 6400000 in
theorem joins_loop (pv : Option Addr) (lv cv : Nat) (vs : List VI) (pn : Option Addr) (ln cn : Nat) (zs : List Int) (w : World) (hv : IsVals w pv lv vs) (hn : IsInts w pn ln zs) (hcn : pn = none → cn = 0) :
    Calls Tryz.prog 3 #[.agg #[.slice pv lv cv, .slice pn ln cn]] w fun e w' => e = .returned (.bool true) ∧ Below w.heap.size w w' := by
  have d0 := At.new w #[.slice pv lv cv, .slice pn ln cn] 25
  have hb0 : Below w.heap.size w (w.alloc (.cells #[.slice pv lv cv, .slice pn ln cn] 25)) := (Below.refl _ _).alloc (Nat.le_refl _) _
  have cW := fun w => wakes_any w
  go_enter Tryz.func3, Tryz.ntmps3
  go_wp2_with fail
  refine (heavy_any pv lv cv pn ln cn _).mono ?_
  rintro e w1 ⟨hvy, rfl, hle, hb1⟩
  replace d0 := At.below' hb1 d0
  replace hb0 := hb0.trans (hb1.mono hb0.size)
  clear hb1 hn hcn
  cases hvy
  · obtain ⟨hlv, hln⟩ := hle rfl
    have hlv2 : lv ≤ 100 := by omega
    clear hln hle
    go_wp2_with fail
    refine noPanic_mono (loopA pv lv cv vs w w1 hv hlv2 w.heap.size pn ln cn d0 hb0 _ ?_ _ rfl rfl rfl)
    intro t w2 f0 hb2
    rw [open_frame t f0]
    have hbO := hb0.trans (hb2.mono hb0.size)
    clear f0 hb2 d0
    go_wp2_with fail
    refine (cW _).mono ?_
    rintro e wZ ⟨rfl, hbZ⟩
    go_wp2_with fail
    go_ret
    exact ⟨rfl, hbO.trans (hbZ.mono hbO.size)⟩
  · clear hle d0
    go_wp2_with fail
    go_ret
    exact ⟨rfl, hb0⟩
end Go.Proofs.YtpoaieoldccmiaaGreat
