/- The document's own: what goes wrong with a scalar of a kind at a pointer. -/
import Derived.Test.YtnhbaigagphpmaaKLoad
import Derived.Test.YtnhbaigagphpmaaBRGet
import Derived.BigQuiet
namespace Go.Proofs.Ytnhbaigagphpmaa
open Go.ChangeShapes Go.WideShapes Go.ChangeAt Go.RowKit Go.Joins Go.Deep
set_option linter.unusedVariables false

/-- a pointer's block, in memory -/
theorem at_cells {w : World} {q : Option Addr} {len : Nat} {m : List BK} (hx : IsMem w q len m) {p : SC} {j : Nat} (hj : p.b = (j : Nat)) (hl : j < len) : ∃ b off, q = some ⟨b, off, none⟩ ∧ BkCells w b (off + j * 2) (atM m p) := by
  obtain ⟨_, hlen, hc⟩ := hx
  obtain ⟨b, off, rfl, hbb, hcells⟩ := hc (by omega)
  rw [atM_eq hj]
  exact ⟨b, off, rfl, hcells j hl⟩
set_option maxRecDepth 100000 in
set_option maxHeartbeats 3200000 in
theorem rReach_any (big : Bool) (pp k : Int) (hp : mayA pp) (hk : 1 ≤ k ∧ k ≤ 7) (q : Option Addr) (len cap : Nat) (m : List BK) (p : SC) (hI : InM m p) (ho : 0 ≤ p.o ∧ p.o ≤ 32) (w : World) (hx : IsMem w q len m) :
    Calls Try.prog 48 #[.agg #[.bool big, .int .i64 pp], .slice q len cap, scV p, .int .i64 k] w (ReachPost (reachM m p (sizN pp k)) w) := by
  have cS := fun w => rSize_any big pp k hp hk w
  have hn := siz_cases hp hk
  generalize sizN pp k = n at *
  have rN := fun h => reach_null (m := m) (p := p) (n := n) h
  have rB := fun h h1 => reach_bounds (m := m) (p := p) (n := n) h h1
  have rA := fun h h1 h2 => reach_align (m := m) (p := p) (n := n) h h1 h2
  have rO := fun h h1 h2 => reach_ok (m := m) (p := p) (n := n) h h1 h2
  obtain ⟨j, hj, hjl⟩ := hI
  have hjl2 : j < len := by rw [← hx.2.1]; exact hjl
  obtain ⟨b, off, rfl, hcell⟩ := at_cells hx hj hjl2
  generalize atM m p = x at *
  generalize reachM m p n = rv at *
  obtain ⟨s, xq, xc, ys⟩ := x
  obtain ⟨p0, p1, p2, p3⟩ := p
  dsimp only at *
  subst hj
  rw [scV_eq]
  have hL : ys.length ≤ 1000 := hcell.2.2.1.1
  have hjl3 : (j : Int) < (len : Int) := by omega
  have hpo1 : 0 ≤ p3 := ho.1
  have hpo2 : p3 ≤ 32 := ho.2
  have ht : p3.tmod (n : Int) = p3 % (n : Int) := Int.tmod_eq_emod_of_nonneg hpo1
  have hn4 : n ≤ 4 := by omega
  have hn1 : 1 ≤ n := by omega
  have hn0 : ((n : Int) == 0) = false := by rw [beq_eq_false_iff_ne]; omega
  have hn00 : ¬ ((n : Int) = 0) := by omega
  have hcase : (ys.length : Int) < p3 + n ∨ (¬ (ys.length : Int) < p3 + n ∧ p3 % (n : Int) = 0) ∨ (¬ (ys.length : Int) < p3 + n ∧ p3 % (n : Int) ≠ 0) := by
    by_cases h1 : (ys.length : Int) < p3 + n
    · exact Or.inl h1
    · by_cases h2 : p3 % (n : Int) = 0
      · exact Or.inr (Or.inl ⟨h1, h2⟩)
      · exact Or.inr (Or.inr ⟨h1, h2⟩)
  obtain ⟨c0, c1, _, _⟩ := hcell
  dsimp only at c0 c1
  generalize ys.length = Ly at *
  have dA := At.alloc (At.new w #[.bool big, .int .i64 pp] 38) (.cells #[.bool p0, .int .i64 p1, .int .i64 (j : Nat), .int .i64 p3] 33)
  have dP := At.new2 w (.cells #[.bool big, .int .i64 pp] 38) #[.bool p0, .int .i64 p1, .int .i64 (j : Nat), .int .i64 p3] 33
  have hb0 := below_box2 w (.cells #[.bool big, .int .i64 pp] 38) (.cells #[.bool p0, .int .i64 p1, .int .i64 (j : Nat), .int .i64 p3] 33)
  have iw : IntKind.i64.wrap (p3 + (n : Int)) = p3 + n := by rw [IntKind.wrap_i64]; omega
  clear hx hn ho hjl hp hk
  by_cases hs : s = 1
  · rcases hcase with h1 | ⟨h1, h2⟩ | ⟨h1, h2⟩
    · obtain rfl := rB hs h1
      subst hs
      clear rN rB rA rO
      clear ht
      go_enter Try.func48, Try.ntmps48
      go_wp2_with fail
      refine (cS _).mono ?_
      rintro e w1 ⟨rfl, hb1⟩
      have dP1 := At.below' hb1 dP
      have hb01 := hb0.trans (hb1.mono hb0.size)
      have x0 : w1.cell? ⟨w.heap.size + 1, 0, none⟩ = some (.bool p0) := dP1.cell 0 rfl
      have x1 : w1.cell? ⟨w.heap.size + 1, 1, none⟩ = some (.int .i64 p1) := dP1.cell 1 rfl
      have x2 : w1.cell? ⟨w.heap.size + 1, 2, none⟩ = some (.int .i64 (j : Nat)) := dP1.cell 2 rfl
      have x3 : w1.cell? ⟨w.heap.size + 1, 3, none⟩ = some (.int .i64 p3) := dP1.cell 3 rfl
      have y0 := cell_below c0 hb01
      have y1 := cell_below c1 hb01
      clear c0 c1 dP dA dP1 hb1 hb0 cS
      go_wp2_with fail
      go_quiet (fail)
      go_wp2
      go_ret
      exact ⟨rfl, hb01.trans (Joins.below_draws _ _ _)⟩
    · obtain rfl := rO hs h1 h2
      subst hs
      clear rN rB rA rO
      go_enter Try.func48, Try.ntmps48
      go_wp2_with fail
      refine (cS _).mono ?_
      rintro e w1 ⟨rfl, hb1⟩
      have dP1 := At.below' hb1 dP
      have hb01 := hb0.trans (hb1.mono hb0.size)
      have x0 : w1.cell? ⟨w.heap.size + 1, 0, none⟩ = some (.bool p0) := dP1.cell 0 rfl
      have x1 : w1.cell? ⟨w.heap.size + 1, 1, none⟩ = some (.int .i64 p1) := dP1.cell 1 rfl
      have x2 : w1.cell? ⟨w.heap.size + 1, 2, none⟩ = some (.int .i64 (j : Nat)) := dP1.cell 2 rfl
      have x3 : w1.cell? ⟨w.heap.size + 1, 3, none⟩ = some (.int .i64 p3) := dP1.cell 3 rfl
      have y0 := cell_below c0 hb01
      have y1 := cell_below c1 hb01
      clear c0 c1 dP dA dP1 hb1 hb0 cS
      go_wp2_with fail
      go_quiet (fail)
      go_wp2
      go_ret
      exact ⟨rfl, hb01.trans (Joins.below_draws _ _ _)⟩
    · obtain rfl := rA hs h1 h2
      subst hs
      clear rN rB rA rO
      go_enter Try.func48, Try.ntmps48
      go_wp2_with fail
      refine (cS _).mono ?_
      rintro e w1 ⟨rfl, hb1⟩
      have dP1 := At.below' hb1 dP
      have hb01 := hb0.trans (hb1.mono hb0.size)
      have x0 : w1.cell? ⟨w.heap.size + 1, 0, none⟩ = some (.bool p0) := dP1.cell 0 rfl
      have x1 : w1.cell? ⟨w.heap.size + 1, 1, none⟩ = some (.int .i64 p1) := dP1.cell 1 rfl
      have x2 : w1.cell? ⟨w.heap.size + 1, 2, none⟩ = some (.int .i64 (j : Nat)) := dP1.cell 2 rfl
      have x3 : w1.cell? ⟨w.heap.size + 1, 3, none⟩ = some (.int .i64 p3) := dP1.cell 3 rfl
      have y0 := cell_below c0 hb01
      have y1 := cell_below c1 hb01
      clear c0 c1 dP dA dP1 hb1 hb0 cS
      go_wp2_with fail
      go_quiet (fail)
      go_wp2
      go_ret
      exact ⟨rfl, hb01.trans (Joins.below_draws _ _ _)⟩
  · obtain rfl := rN hs
    have ts : (s == 1) = false := by rw [beq_eq_false_iff_ne]; exact hs
    clear hs rN rB rA rO hcase ht iw
    go_enter Try.func48, Try.ntmps48
    go_wp2_with fail
    refine (cS _).mono ?_
    rintro e w1 ⟨rfl, hb1⟩
    have dP1 := At.below' hb1 dP
    have hb01 := hb0.trans (hb1.mono hb0.size)
    have x0 : w1.cell? ⟨w.heap.size + 1, 0, none⟩ = some (.bool p0) := dP1.cell 0 rfl
    have x1 : w1.cell? ⟨w.heap.size + 1, 1, none⟩ = some (.int .i64 p1) := dP1.cell 1 rfl
    have x2 : w1.cell? ⟨w.heap.size + 1, 2, none⟩ = some (.int .i64 (j : Nat)) := dP1.cell 2 rfl
    have x3 : w1.cell? ⟨w.heap.size + 1, 3, none⟩ = some (.int .i64 p3) := dP1.cell 3 rfl
    have y0 := cell_below c0 hb01
    have y1 := cell_below c1 hb01
    clear c0 c1 dP dA dP1 hb1 hb0 cS
    go_wp2
    go_ret
    exact ⟨rfl, hb01⟩
end Go.Proofs.Ytnhbaigagphpmaa
