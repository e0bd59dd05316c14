/- Package val: a span trimmed to a pattern's numbers; a number's rank among them. -/
import Derived.Test.YtpoaieoldccmiaaGreatVUp
namespace Go.Proofs.YtpoaieoldccmiaaGreat
open Go.ChangeShapes Go.WideShapes Go.ChangeAt Go.RowKit Go.Joins Go.Deep
set_option linter.unusedVariables false

abbrev spanV (l h : Int) : Value := .agg #[.int .i64 l, .int .i64 h]
/-- from x to y is what fits from l to h -/
structure Trims (k f b l h x y : Nat) : Prop where
  le : x ≤ y
  lo : l ≤ x
  hi : y ≤ h
  lt : y < 2 ^ k
  fx : Fits f b x
  fy : Fits f b y
  all : ∀ z, z < 2 ^ k → l ≤ z → z ≤ h → Fits f b z → x ≤ z ∧ z ≤ y
def TrimRes (k f b l h : Nat) (r s : Int) (is : Bool) : Prop :=
  (is = true ∧ ∃ x y : Nat, r = x ∧ s = y ∧ Trims k f b l h x y) ∨ (is = false ∧ r = 0 ∧ s = 0 ∧ ∀ z, z < 2 ^ k → l ≤ z → z ≤ h → ¬ Fits f b z)
def TrimPost (k f b l h : Nat) (w : World) (e : Ending) (w' : World) : Prop := ∃ r s is, TrimRes k f b l h r s is ∧ e = .returned (.tuple #[spanV r s, .bool is]) ∧ Below w.heap.size w w'

theorem trims_of {k f b l h x y : Nat} (hx : LeastFit k f b l x) (hy : MostFit k f b h y) (hle : x ≤ y) : Trims k f b l h x y := by
  rcases hx with ⟨e, _⟩ | ⟨m, e, h1, h2, h3, h4⟩
  · omega
  · obtain rfl : x = m := by omega
    rcases hy with ⟨e, _⟩ | ⟨m', e', g1, g2, g3, g4⟩
    · omega
    · obtain rfl : y = m' := by omega
      exact ⟨hle, h2, g2, g1, h3, g3, fun z hz hl hh hf => ⟨h4 z hz hl hf, g4 z hz hh hf⟩⟩
theorem no_trims_gt {k f b l h x y : Nat} (hx : LeastFit k f b l x) (hy : MostFit k f b h y) (hgt : ¬ x ≤ y) : ∀ z, z < 2 ^ k → l ≤ z → z ≤ h → ¬ Fits f b z := by
  intro z hz hl hh hf
  rcases hx with ⟨e, _⟩ | ⟨m, e, h1, h2, h3, h4⟩
  · omega
  · rcases hy with ⟨e, _⟩ | ⟨m', e', g1, g2, g3, g4⟩
    · omega
    · have := h4 z hz hl hf
      have := g4 z hz hh hf
      omega
theorem no_trims_lo {k f b l h : Nat} (hx : LeastFit k f b l (-1)) : ∀ z, z < 2 ^ k → l ≤ z → z ≤ h → ¬ Fits f b z := by
  intro z hz hl hh hf
  rcases hx with ⟨e, h1⟩ | ⟨m, e, h1, h2, h3, h4⟩
  · exact h1 z hz hl hf
  · omega
theorem no_trims_hi {k f b l h : Nat} (hy : MostFit k f b h (-1)) : ∀ z, z < 2 ^ k → l ≤ z → z ≤ h → ¬ Fits f b z := by
  intro z hz hl hh hf
  rcases hy with ⟨e, h1⟩ | ⟨m, e, h1, h2, h3, h4⟩
  · exact h1 z hz hh hf
  · omega

theorem three_new (w : World) (c0 c1 c2 : Array Value) (T0 T1 T2 : TypeId) :
    At (((w.alloc (.cells c0 T0)).alloc (.cells c1 T1)).alloc (.cells c2 T2)) w.heap.size c0 T0 ∧ At (((w.alloc (.cells c0 T0)).alloc (.cells c1 T1)).alloc (.cells c2 T2)) (w.heap.size + 1) c1 T1 ∧ At (((w.alloc (.cells c0 T0)).alloc (.cells c1 T1)).alloc (.cells c2 T2)) (w.heap.size + 1 + 1) c2 T2 := by
  refine ⟨((At.new w c0 T0).alloc _).alloc _, ?_, ?_⟩
  · have := (At.new (w.alloc (.cells c0 T0)) c1 T1).alloc (.cells c2 T2)
    simpa only [World.size_alloc] using this
  · have := At.new ((w.alloc (.cells c0 T0)).alloc (.cells c1 T1)) c2 T2
    simpa only [World.size_alloc] using this

set_option maxRecDepth 100000 in
set_option maxHeartbeats 1600000 in
theorem trim_any (k f b l h : Nat) (ok : PatOk k f b) (hl : l < 2 ^ k) (hh : h < 2 ^ k) (w : World) :
    Calls Tryz.prog 51 #[patV k f b, spanV l h] w (TrimPost k f b l h w) := by
  obtain ⟨d0, d1, d2⟩ := three_new w #[.int .i64 k, .int .i64 f, .int .i64 b] #[.int .i64 l, .int .i64 h] #[.int .i64 0, .int .i64 0] 81 93 93
  have cL := fun w => from_any k f b l ok hl w
  have cH := fun w => upTo_any k f b h ok hh w
  have hp := ok.hk.pow
  have hb0 : Below w.heap.size w (((w.alloc (.cells #[.int .i64 k, .int .i64 f, .int .i64 b] 81)).alloc (.cells #[.int .i64 l, .int .i64 h] 93)).alloc (.cells #[.int .i64 0, .int .i64 0] 93)) :=
    (((Below.refl _ _).alloc (Nat.le_refl _) _).alloc (by simp) _).alloc (by simp; omega) _
  go_enter Tryz.func51, Tryz.ntmps51
  go_wp2_with fail
  refine (cL _).mono ?_
  rintro e w1 ⟨r, is, hr, rfl, hb1⟩
  replace d0 := At.below' hb1 d0
  replace d1 := At.below' hb1 d1
  replace d2 := At.below' hb1 d2
  replace hb0 := hb0.trans (hb1.mono hb0.size)
  clear hb1
  have k0 : w1.cell? ⟨w.heap.size, 0, none⟩ = some (.int .i64 k) := d0.cell 0 rfl
  have k1 : w1.cell? ⟨w.heap.size, 1, none⟩ = some (.int .i64 f) := d0.cell 1 rfl
  have k2 : w1.cell? ⟨w.heap.size, 2, none⟩ = some (.int .i64 b) := d0.cell 2 rfl
  have j1 : w1.cell? ⟨w.heap.size + 1, 1, none⟩ = some (.int .i64 h) := d1.cell 1 rfl
  clear d0 d1
  go_wp2_with fail
  refine (cH _).mono ?_
  rintro e w2 ⟨s, it, hs, rfl, hb1⟩
  replace d2 := At.below' hb1 d2
  replace hb0 := hb0.trans (hb1.mono hb0.size)
  clear hb1 k0 k1 k2 j1
  have i0 : w2.cell? ⟨w.heap.size + 1 + 1, 0, none⟩ = some (.int .i64 0) := d2.cell 0 rfl
  have i1 : w2.cell? ⟨w.heap.size + 1 + 1, 1, none⟩ = some (.int .i64 0) := d2.cell 1 rfl
  have f0 := d2.free 0
  have f1 := d2.free 1
  have hD : ∀ x y : Value, At ((w2.setCell ⟨w.heap.size + 1 + 1, 0, none⟩ x).setCell ⟨w.heap.size + 1 + 1, 1, none⟩ y) (w.heap.size + 1 + 1) #[x, y] 93 := fun x y => (d2.set 0 x (by simp)).set 1 y (by simp)
  clear d2
  have hE : ∀ x y : Value, Below w.heap.size w ((w2.setCell ⟨w.heap.size + 1 + 1, 0, none⟩ x).setCell ⟨w.heap.size + 1 + 1, 1, none⟩ y) := fun x y => (hb0.setCell (by show _ ≤ _ + 1 + 1; omega) _).setCell (by show _ ≤ _ + 1 + 1; omega) _
  rcases hr with ⟨rfl, x, rfl, hx⟩ | ⟨rfl, rfl, hx⟩
  · rcases hs with ⟨rfl, y, rfl, hy⟩ | ⟨rfl, rfl, hy⟩
    · by_cases hle : x ≤ y
      · have fin := trims_of hx hy hle
        have t0 : decide (y < x) = false := by simp; omega
        clear hx hy
        go_wp2_with fail
        replace hE := hE (.int .i64 x) (.int .i64 y)
        replace hD := hD (.int .i64 x) (.int .i64 y)
        generalize (w2.setCell ⟨w.heap.size + 1 + 1, 0, none⟩ (.int .i64 x)).setCell ⟨w.heap.size + 1 + 1, 1, none⟩ (.int .i64 y) = w3 at hE hD ⊢
        have c0 : w3.cell? ⟨w.heap.size + 1 + 1, 0, none⟩ = some (.int .i64 x) := hD.cell 0 rfl
        have c1 : w3.cell? ⟨w.heap.size + 1 + 1, 1, none⟩ = some (.int .i64 y) := hD.cell 1 rfl
        exact bodyPost_ret (v := .tuple #[spanV x y, .bool true]) (by simp [results, Tryz.results51, go_sem, c0, c1]) rfl ⟨_, _, _, Or.inl ⟨rfl, _, _, rfl, rfl, fin⟩, rfl, hE⟩
      · have fin := no_trims_gt hx hy hle
        have t0 : decide (y < x) = true := by simp; omega
        clear hx hy
        go_wp2_with fail
        replace hE := hE (.int .i64 0) (.int .i64 0)
        replace hD := hD (.int .i64 0) (.int .i64 0)
        generalize (w2.setCell ⟨w.heap.size + 1 + 1, 0, none⟩ (.int .i64 0)).setCell ⟨w.heap.size + 1 + 1, 1, none⟩ (.int .i64 0) = w3 at hE hD ⊢
        have c0 : w3.cell? ⟨w.heap.size + 1 + 1, 0, none⟩ = some (.int .i64 0) := hD.cell 0 rfl
        have c1 : w3.cell? ⟨w.heap.size + 1 + 1, 1, none⟩ = some (.int .i64 0) := hD.cell 1 rfl
        exact bodyPost_ret (v := .tuple #[spanV 0 0, .bool false]) (by simp [results, Tryz.results51, go_sem, c0, c1]) rfl ⟨_, _, _, Or.inr ⟨rfl, rfl, rfl, fin⟩, rfl, hE⟩
    · have fin := no_trims_hi (l := l) hy
      clear hx hy
      go_wp2_with fail
      replace hE := hE (.int .i64 0) (.int .i64 0)
      replace hD := hD (.int .i64 0) (.int .i64 0)
      generalize (w2.setCell ⟨w.heap.size + 1 + 1, 0, none⟩ (.int .i64 0)).setCell ⟨w.heap.size + 1 + 1, 1, none⟩ (.int .i64 0) = w3 at hE hD ⊢
      have c0 : w3.cell? ⟨w.heap.size + 1 + 1, 0, none⟩ = some (.int .i64 0) := hD.cell 0 rfl
      have c1 : w3.cell? ⟨w.heap.size + 1 + 1, 1, none⟩ = some (.int .i64 0) := hD.cell 1 rfl
      exact bodyPost_ret (v := .tuple #[spanV 0 0, .bool false]) (by simp [results, Tryz.results51, go_sem, c0, c1]) rfl ⟨_, _, _, Or.inr ⟨rfl, rfl, rfl, fin⟩, rfl, hE⟩
  · have fin := no_trims_lo (h := h) hx
    clear hx
    go_wp2_with fail
    replace hE := hE (.int .i64 0) (.int .i64 0)
    replace hD := hD (.int .i64 0) (.int .i64 0)
    generalize (w2.setCell ⟨w.heap.size + 1 + 1, 0, none⟩ (.int .i64 0)).setCell ⟨w.heap.size + 1 + 1, 1, none⟩ (.int .i64 0) = w3 at hE hD ⊢
    have c0 : w3.cell? ⟨w.heap.size + 1 + 1, 0, none⟩ = some (.int .i64 0) := hD.cell 0 rfl
    have c1 : w3.cell? ⟨w.heap.size + 1 + 1, 1, none⟩ = some (.int .i64 0) := hD.cell 1 rfl
    exact bodyPost_ret (v := .tuple #[spanV 0 0, .bool false]) (by simp [results, Tryz.results51, go_sem, c0, c1]) rfl ⟨_, _, _, Or.inr ⟨rfl, rfl, rfl, fin⟩, rfl, hE⟩
end Go.Proofs.YtpoaieoldccmiaaGreat
