/- near: cases of its switch. -/
import Derived.Test.YtncdbjflfhfddaaGreatGTw0
namespace Go.Proofs.YtncdbjflfhfddaaGreat
open Go.ChangeShapes Go.WideShapes Go.ChangeAt Go.RowKit Go.Joins Go.Deep
set_option linter.unusedVariables false

set_option maxRecDepth 1000000 in
set_option maxHeartbeats 6400000 in
theorem sw0 (w0 wb : World) (bx : Nat) (xbig : Bool) (xptr : Int) (p1 p2 p3 p4 p5 : Option Addr) (n1 n2 n3 n4 n5 j1 j2 j3 j4 j5 : Nat) (V N : List Int) (E : List EX) (r : List TT) (M : List Int) (a : Nat) (ha : a < 50)
    (hn1 : V.length = n1) (hn2 : N.length = n2) (hn3 : E.length = n3) (hn4 : r.length = n4) (hn5 : M.length = n5) (l1 : n1 ≤ 900) (l2 : n2 ≤ 900) (l3 : n3 ≤ 900) (ln4 : n4 ≤ 900) (l5 : n5 ≤ 900)
    (hA : CpA w0.heap.size bx 900 wb xbig xptr (.slice p1 n1 j1) (.slice p2 n2 j2) (.slice p3 n3 j3) (.slice p4 n4 j4) (.slice p5 n5 j5) V N E r M) (hb : Below w0.heap.size w0 wb)
    (t : Array Value) (hF : FrN t 0 a bx) (Q : Exit → Act → World → Prop) (hQ0 : ∀ t' w', KeepN t t' → (CpS w0.heap.size bx 1000 w' ∧ Below w0.heap.size w0 w') → Q .normal ⟨t', []⟩ w') : swC.wp Tryz.prog (NoPanic Q) ⟨t, []⟩ wb := by
  have HB := Lib.hid hb
  have hA1 : CpA w0.heap.size bx 1000 wb xbig xptr (.slice p1 n1 j1) (.slice p2 n2 j2) (.slice p3 n3 j3) (.slice p4 n4 j4) (.slice p5 n5 j5) V N E r M := ⟨hA.box, hA.ge, hA.z1, hA.z2, hA.z3, hA.z4, hA.z5, by omega, by omega, by omega, ⟨by omega, fun t ht => by have := hA.l4.2 t ht; omega⟩, by omega⟩
  obtain ⟨f0, f6, f7, f8, f25⟩ := hF
  have HQ0 := Lib.hid hQ0
  have hQ : ∀ (t' : Array Value) (w' : World), KeepN t t' → (CpS w0.heap.size bx 1000 w' ∧ Below w0.heap.size w0 w') → Q .normal ⟨t', []⟩ w' := HQ0.out
  clear hb hQ0
  rw [open_150 t f0] at hQ ⊢
  simp only [f6, f7, f8, f25] at hQ ⊢
  clear f0 f6 f7 f8 f25 HQ0
  conv => arg 2; whnf
  · -- an expression's field
    by_cases h3 : 0 < n3
    · obtain ⟨g3, c3, hv3⟩ := row_some (by have := hA.z3; unfold RowE at this; rw [hn3] at this; exact this) h3
      injection hv3 with hv3 _ hj3
      subst hv3 hj3
      have x4 : wb.cell? ⟨bx, 4, none⟩ = some (.slice (some ⟨g3, 0, none⟩) n3 j3) := hA.box.cell 4 rfl
      obtain ⟨am, ham⟩ : ∃ am, am = a % n3 := ⟨_, rfl⟩
      have hal : am < n3 := by rw [ham]; exact Nat.mod_lt _ h3
      have e4 : (a : Int).tmod (n3 : Int) = (am : Int) := modC rfl h3 ham
      obtain ⟨rm, hrm⟩ : ∃ rm, rm = a % 24 := ⟨_, rfl⟩
      have e5 : (a : Int).tmod 24 = (rm : Int) := modC (n := 24) rfl (by decide) hrm
      have e6 : ((n3 : Int) == 0) = false := by rw [beq_eq_false_iff_ne]; omega
      have e7 : ¬ (n3 : Int) = 0 := by omega
      have e8 : (0 : Int) < (n3 : Int) := by omega
      have e9 : (am : Int) < (n3 : Int) := by omega
      have hSE := fun w' (hb : Below wb.heap.size wb w') => (hA1.bel hb).setE hn3 (i := am) (j := 0) hal (by decide) (rm : Nat)
      obtain ⟨⟨y, hy⟩, hf, hg, _⟩ := hSE wb (Below.refl _ _)
      have HSE := Lib.hid hSE
      clear hSE ham hrm
      have hy0 : wb.cell? ⟨g3, am * 5, none⟩ = some y := hy; have hf0 : wb.frozen? ⟨g3, am * 5, none⟩ = false := hf
      go_wp2_with fail
      go_quiet (fail)
      go_wp2_with fail
      exact hQ _ _ ⟨rfl, rfl, rfl, rfl, rfl, rfl, rfl, rfl, rfl, rfl, rfl, rfl, rfl⟩ ⟨(HSE.out _ (Joins.below_draws _ _ _)).2.2.2, (HB.out.trans (Below.mono (Joins.below_draws _ _ _) HB.out.size)).setCell (p := ⟨g3, am * 5 + 0, none⟩) hg _⟩
    · have e8 : ¬ (0 : Int) < (n3 : Int) := by omega
      have e8b : decide ((0 : Int) < (n3 : Int)) = false := decide_eq_false e8
      have x4 : wb.cell? ⟨bx, 4, none⟩ = some (.slice p3 n3 j3) := hA.box.cell 4 rfl
      go_wp2_with fail
      exact hQ _ _ ⟨rfl, rfl, rfl, rfl, rfl, rfl, rfl, rfl, rfl, rfl, rfl, rfl, rfl⟩ ⟨hA1.mk', HB.out⟩
set_option maxRecDepth 1000000 in
set_option maxHeartbeats 6400000 in
theorem sw1 (w0 wb : World) (bx : Nat) (xbig : Bool) (xptr : Int) (p1 p2 p3 p4 p5 : Option Addr) (n1 n2 n3 n4 n5 j1 j2 j3 j4 j5 : Nat) (V N : List Int) (E : List EX) (r : List TT) (M : List Int) (a : Nat) (ha : a < 50)
    (hn1 : V.length = n1) (hn2 : N.length = n2) (hn3 : E.length = n3) (hn4 : r.length = n4) (hn5 : M.length = n5) (l1 : n1 ≤ 900) (l2 : n2 ≤ 900) (l3 : n3 ≤ 900) (ln4 : n4 ≤ 900) (l5 : n5 ≤ 900)
    (hA : CpA w0.heap.size bx 900 wb xbig xptr (.slice p1 n1 j1) (.slice p2 n2 j2) (.slice p3 n3 j3) (.slice p4 n4 j4) (.slice p5 n5 j5) V N E r M) (hb : Below w0.heap.size w0 wb)
    (t : Array Value) (hF : FrN t 1 a bx) (Q : Exit → Act → World → Prop) (hQ0 : ∀ t' w', KeepN t t' → (CpS w0.heap.size bx 1000 w' ∧ Below w0.heap.size w0 w') → Q .normal ⟨t', []⟩ w') : swC.wp Tryz.prog (NoPanic Q) ⟨t, []⟩ wb := by
  have HB := Lib.hid hb
  have hA1 : CpA w0.heap.size bx 1000 wb xbig xptr (.slice p1 n1 j1) (.slice p2 n2 j2) (.slice p3 n3 j3) (.slice p4 n4 j4) (.slice p5 n5 j5) V N E r M := ⟨hA.box, hA.ge, hA.z1, hA.z2, hA.z3, hA.z4, hA.z5, by omega, by omega, by omega, ⟨by omega, fun t ht => by have := hA.l4.2 t ht; omega⟩, by omega⟩
  obtain ⟨f0, f6, f7, f8, f25⟩ := hF
  have HQ0 := Lib.hid hQ0
  have hQ : ∀ (t' : Array Value) (w' : World), KeepN t t' → (CpS w0.heap.size bx 1000 w' ∧ Below w0.heap.size w0 w') → Q .normal ⟨t', []⟩ w' := HQ0.out
  clear hb hQ0
  rw [open_150 t f0] at hQ ⊢
  simp only [f6, f7, f8, f25] at hQ ⊢
  clear f0 f6 f7 f8 f25 HQ0
  conv => arg 2; whnf
  · -- an expression's field
    by_cases h3 : 0 < n3
    · obtain ⟨g3, c3, hv3⟩ := row_some (by have := hA.z3; unfold RowE at this; rw [hn3] at this; exact this) h3
      injection hv3 with hv3 _ hj3
      subst hv3 hj3
      have x4 : wb.cell? ⟨bx, 4, none⟩ = some (.slice (some ⟨g3, 0, none⟩) n3 j3) := hA.box.cell 4 rfl
      obtain ⟨am, ham⟩ : ∃ am, am = a % n3 := ⟨_, rfl⟩
      have hal : am < n3 := by rw [ham]; exact Nat.mod_lt _ h3
      have e4 : (a : Int).tmod (n3 : Int) = (am : Int) := modC rfl h3 ham
      obtain ⟨rm, hrm⟩ : ∃ rm, rm = a % 9 := ⟨_, rfl⟩
      have e5 : (a : Int).tmod 9 = (rm : Int) := modC (n := 9) rfl (by decide) hrm
      have e6 : ((n3 : Int) == 0) = false := by rw [beq_eq_false_iff_ne]; omega
      have e7 : ¬ (n3 : Int) = 0 := by omega
      have e8 : (0 : Int) < (n3 : Int) := by omega
      have e9 : (am : Int) < (n3 : Int) := by omega
      have hSE := fun w' (hb : Below wb.heap.size wb w') => (hA1.bel hb).setE hn3 (i := am) (j := 1) hal (by decide) (rm : Nat)
      obtain ⟨⟨y, hy⟩, hf, hg, _⟩ := hSE wb (Below.refl _ _)
      have HSE := Lib.hid hSE
      clear hSE ham hrm
      skip
      go_wp2_with fail
      go_quiet (fail)
      go_wp2_with fail
      exact hQ _ _ ⟨rfl, rfl, rfl, rfl, rfl, rfl, rfl, rfl, rfl, rfl, rfl, rfl, rfl⟩ ⟨(HSE.out _ (Joins.below_draws _ _ _)).2.2.2, (HB.out.trans (Below.mono (Joins.below_draws _ _ _) HB.out.size)).setCell (p := ⟨g3, am * 5 + 1, none⟩) hg _⟩
    · have e8 : ¬ (0 : Int) < (n3 : Int) := by omega
      have e8b : decide ((0 : Int) < (n3 : Int)) = false := decide_eq_false e8
      have x4 : wb.cell? ⟨bx, 4, none⟩ = some (.slice p3 n3 j3) := hA.box.cell 4 rfl
      go_wp2_with fail
      exact hQ _ _ ⟨rfl, rfl, rfl, rfl, rfl, rfl, rfl, rfl, rfl, rfl, rfl, rfl, rfl⟩ ⟨hA1.mk', HB.out⟩
set_option maxRecDepth 1000000 in
set_option maxHeartbeats 6400000 in
theorem sw2 (w0 wb : World) (bx : Nat) (xbig : Bool) (xptr : Int) (p1 p2 p3 p4 p5 : Option Addr) (n1 n2 n3 n4 n5 j1 j2 j3 j4 j5 : Nat) (V N : List Int) (E : List EX) (r : List TT) (M : List Int) (a : Nat) (ha : a < 50)
    (hn1 : V.length = n1) (hn2 : N.length = n2) (hn3 : E.length = n3) (hn4 : r.length = n4) (hn5 : M.length = n5) (l1 : n1 ≤ 900) (l2 : n2 ≤ 900) (l3 : n3 ≤ 900) (ln4 : n4 ≤ 900) (l5 : n5 ≤ 900)
    (hA : CpA w0.heap.size bx 900 wb xbig xptr (.slice p1 n1 j1) (.slice p2 n2 j2) (.slice p3 n3 j3) (.slice p4 n4 j4) (.slice p5 n5 j5) V N E r M) (hb : Below w0.heap.size w0 wb)
    (t : Array Value) (hF : FrN t 2 a bx) (Q : Exit → Act → World → Prop) (hQ0 : ∀ t' w', KeepN t t' → (CpS w0.heap.size bx 1000 w' ∧ Below w0.heap.size w0 w') → Q .normal ⟨t', []⟩ w') : swC.wp Tryz.prog (NoPanic Q) ⟨t, []⟩ wb := by
  have HB := Lib.hid hb
  have hA1 : CpA w0.heap.size bx 1000 wb xbig xptr (.slice p1 n1 j1) (.slice p2 n2 j2) (.slice p3 n3 j3) (.slice p4 n4 j4) (.slice p5 n5 j5) V N E r M := ⟨hA.box, hA.ge, hA.z1, hA.z2, hA.z3, hA.z4, hA.z5, by omega, by omega, by omega, ⟨by omega, fun t ht => by have := hA.l4.2 t ht; omega⟩, by omega⟩
  obtain ⟨f0, f6, f7, f8, f25⟩ := hF
  have HQ0 := Lib.hid hQ0
  have hQ : ∀ (t' : Array Value) (w' : World), KeepN t t' → (CpS w0.heap.size bx 1000 w' ∧ Below w0.heap.size w0 w') → Q .normal ⟨t', []⟩ w' := HQ0.out
  clear hb hQ0
  rw [open_150 t f0] at hQ ⊢
  simp only [f6, f7, f8, f25] at hQ ⊢
  clear f0 f6 f7 f8 f25 HQ0
  conv => arg 2; whnf
  · -- an expression's field
    by_cases h3 : 0 < n3
    · obtain ⟨g3, c3, hv3⟩ := row_some (by have := hA.z3; unfold RowE at this; rw [hn3] at this; exact this) h3
      injection hv3 with hv3 _ hj3
      subst hv3 hj3
      have x4 : wb.cell? ⟨bx, 4, none⟩ = some (.slice (some ⟨g3, 0, none⟩) n3 j3) := hA.box.cell 4 rfl
      obtain ⟨am, ham⟩ : ∃ am, am = a % n3 := ⟨_, rfl⟩
      have hal : am < n3 := by rw [ham]; exact Nat.mod_lt _ h3
      have e4 : (a : Int).tmod (n3 : Int) = (am : Int) := modC rfl h3 ham
      obtain ⟨rm, hrm⟩ : ∃ rm, rm = a % 7 := ⟨_, rfl⟩
      have e5 : (a : Int).tmod 7 = (rm : Int) := modC (n := 7) rfl (by decide) hrm
      have e6 : ((n3 : Int) == 0) = false := by rw [beq_eq_false_iff_ne]; omega
      have e7 : ¬ (n3 : Int) = 0 := by omega
      have e8 : (0 : Int) < (n3 : Int) := by omega
      have e9 : (am : Int) < (n3 : Int) := by omega
      have hSE := fun w' (hb : Below wb.heap.size wb w') => (hA1.bel hb).setE hn3 (i := am) (j := 3) hal (by decide) (rm : Nat)
      obtain ⟨⟨y, hy⟩, hf, hg, _⟩ := hSE wb (Below.refl _ _)
      have HSE := Lib.hid hSE
      clear hSE ham hrm
      skip
      go_wp2_with fail
      go_quiet (fail)
      go_wp2_with fail
      exact hQ _ _ ⟨rfl, rfl, rfl, rfl, rfl, rfl, rfl, rfl, rfl, rfl, rfl, rfl, rfl⟩ ⟨(HSE.out _ (Joins.below_draws _ _ _)).2.2.2, (HB.out.trans (Below.mono (Joins.below_draws _ _ _) HB.out.size)).setCell (p := ⟨g3, am * 5 + 3, none⟩) hg _⟩
    · have e8 : ¬ (0 : Int) < (n3 : Int) := by omega
      have e8b : decide ((0 : Int) < (n3 : Int)) = false := decide_eq_false e8
      have x4 : wb.cell? ⟨bx, 4, none⟩ = some (.slice p3 n3 j3) := hA.box.cell 4 rfl
      go_wp2_with fail
      exact hQ _ _ ⟨rfl, rfl, rfl, rfl, rfl, rfl, rfl, rfl, rfl, rfl, rfl, rfl, rfl⟩ ⟨hA1.mk', HB.out⟩
set_option maxRecDepth 1000000 in
set_option maxHeartbeats 6400000 in
theorem sw3 (w0 wb : World) (bx : Nat) (xbig : Bool) (xptr : Int) (p1 p2 p3 p4 p5 : Option Addr) (n1 n2 n3 n4 n5 j1 j2 j3 j4 j5 : Nat) (V N : List Int) (E : List EX) (r : List TT) (M : List Int) (a : Nat) (ha : a < 50)
    (hn1 : V.length = n1) (hn2 : N.length = n2) (hn3 : E.length = n3) (hn4 : r.length = n4) (hn5 : M.length = n5) (l1 : n1 ≤ 900) (l2 : n2 ≤ 900) (l3 : n3 ≤ 900) (ln4 : n4 ≤ 900) (l5 : n5 ≤ 900)
    (hA : CpA w0.heap.size bx 900 wb xbig xptr (.slice p1 n1 j1) (.slice p2 n2 j2) (.slice p3 n3 j3) (.slice p4 n4 j4) (.slice p5 n5 j5) V N E r M) (hb : Below w0.heap.size w0 wb)
    (t : Array Value) (hF : FrN t 3 a bx) (Q : Exit → Act → World → Prop) (hQ0 : ∀ t' w', KeepN t t' → (CpS w0.heap.size bx 1000 w' ∧ Below w0.heap.size w0 w') → Q .normal ⟨t', []⟩ w') : swC.wp Tryz.prog (NoPanic Q) ⟨t, []⟩ wb := by
  have HB := Lib.hid hb
  have hA1 : CpA w0.heap.size bx 1000 wb xbig xptr (.slice p1 n1 j1) (.slice p2 n2 j2) (.slice p3 n3 j3) (.slice p4 n4 j4) (.slice p5 n5 j5) V N E r M := ⟨hA.box, hA.ge, hA.z1, hA.z2, hA.z3, hA.z4, hA.z5, by omega, by omega, by omega, ⟨by omega, fun t ht => by have := hA.l4.2 t ht; omega⟩, by omega⟩
  obtain ⟨f0, f6, f7, f8, f25⟩ := hF
  have HQ0 := Lib.hid hQ0
  have hQ : ∀ (t' : Array Value) (w' : World), KeepN t t' → (CpS w0.heap.size bx 1000 w' ∧ Below w0.heap.size w0 w') → Q .normal ⟨t', []⟩ w' := HQ0.out
  clear hb hQ0
  rw [open_150 t f0] at hQ ⊢
  simp only [f6, f7, f8, f25] at hQ ⊢
  clear f0 f6 f7 f8 f25 HQ0
  conv => arg 2; whnf
  · -- a statement's field
    by_cases h4 : 0 < n4
    · obtain ⟨g4, c4, hv4⟩ := row_some (by have := hA.z4.2; rw [hn4] at this; exact this) h4
      injection hv4 with hv4 _ hj4
      subst hv4 hj4
      have x5 : wb.cell? ⟨bx, 5, none⟩ = some (.slice (some ⟨g4, 0, none⟩) n4 j4) := hA.box.cell 5 rfl
      obtain ⟨am, ham⟩ : ∃ am, am = a % n4 := ⟨_, rfl⟩
      have hal : am < n4 := by rw [ham]; exact Nat.mod_lt _ h4
      have e4 : (a : Int).tmod (n4 : Int) = (am : Int) := modC rfl h4 ham
      obtain ⟨rm, hrm⟩ : ∃ rm, rm = a % 9 := ⟨_, rfl⟩
      have e5 : (a : Int).tmod 9 = (rm : Int) := modC (n := 9) rfl (by decide) hrm
      have e6 : ((n4 : Int) == 0) = false := by rw [beq_eq_false_iff_ne]; omega
      have e7 : ¬ (n4 : Int) = 0 := by omega
      have e8 : (0 : Int) < (n4 : Int) := by omega
      have e9 : (am : Int) < (n4 : Int) := by omega
      have hSE := fun w' (hb : Below wb.heap.size wb w') => (hA1.bel hb).setT hn4 (i := am) (j := 0) hal (by decide) (rm : Nat)
      obtain ⟨⟨y, hy⟩, hf, hg, _⟩ := hSE wb (Below.refl _ _)
      have HSE := Lib.hid hSE
      clear hSE ham hrm
      have hy0 : wb.cell? ⟨g4, am * 7, none⟩ = some y := hy; have hf0 : wb.frozen? ⟨g4, am * 7, none⟩ = false := hf
      go_wp2_with fail
      go_quiet (fail)
      go_wp2_with fail
      exact hQ _ _ ⟨rfl, rfl, rfl, rfl, rfl, rfl, rfl, rfl, rfl, rfl, rfl, rfl, rfl⟩ ⟨(HSE.out _ (Joins.below_draws _ _ _)).2.2.2, (HB.out.trans (Below.mono (Joins.below_draws _ _ _) HB.out.size)).setCell (p := ⟨g4, am * 7 + 0, none⟩) hg _⟩
    · have e8 : ¬ (0 : Int) < (n4 : Int) := by omega
      have e8b : decide ((0 : Int) < (n4 : Int)) = false := decide_eq_false e8
      have x5 : wb.cell? ⟨bx, 5, none⟩ = some (.slice p4 n4 j4) := hA.box.cell 5 rfl
      go_wp2_with fail
      exact hQ _ _ ⟨rfl, rfl, rfl, rfl, rfl, rfl, rfl, rfl, rfl, rfl, rfl, rfl, rfl⟩ ⟨hA1.mk', HB.out⟩
set_option maxRecDepth 1000000 in
set_option maxHeartbeats 6400000 in
theorem sw4 (w0 wb : World) (bx : Nat) (xbig : Bool) (xptr : Int) (p1 p2 p3 p4 p5 : Option Addr) (n1 n2 n3 n4 n5 j1 j2 j3 j4 j5 : Nat) (V N : List Int) (E : List EX) (r : List TT) (M : List Int) (a : Nat) (ha : a < 50)
    (hn1 : V.length = n1) (hn2 : N.length = n2) (hn3 : E.length = n3) (hn4 : r.length = n4) (hn5 : M.length = n5) (l1 : n1 ≤ 900) (l2 : n2 ≤ 900) (l3 : n3 ≤ 900) (ln4 : n4 ≤ 900) (l5 : n5 ≤ 900)
    (hA : CpA w0.heap.size bx 900 wb xbig xptr (.slice p1 n1 j1) (.slice p2 n2 j2) (.slice p3 n3 j3) (.slice p4 n4 j4) (.slice p5 n5 j5) V N E r M) (hb : Below w0.heap.size w0 wb)
    (t : Array Value) (hF : FrN t 4 a bx) (Q : Exit → Act → World → Prop) (hQ0 : ∀ t' w', KeepN t t' → (CpS w0.heap.size bx 1000 w' ∧ Below w0.heap.size w0 w') → Q .normal ⟨t', []⟩ w') : swC.wp Tryz.prog (NoPanic Q) ⟨t, []⟩ wb := by
  have HB := Lib.hid hb
  have hA1 : CpA w0.heap.size bx 1000 wb xbig xptr (.slice p1 n1 j1) (.slice p2 n2 j2) (.slice p3 n3 j3) (.slice p4 n4 j4) (.slice p5 n5 j5) V N E r M := ⟨hA.box, hA.ge, hA.z1, hA.z2, hA.z3, hA.z4, hA.z5, by omega, by omega, by omega, ⟨by omega, fun t ht => by have := hA.l4.2 t ht; omega⟩, by omega⟩
  obtain ⟨f0, f6, f7, f8, f25⟩ := hF
  have HQ0 := Lib.hid hQ0
  have hQ : ∀ (t' : Array Value) (w' : World), KeepN t t' → (CpS w0.heap.size bx 1000 w' ∧ Below w0.heap.size w0 w') → Q .normal ⟨t', []⟩ w' := HQ0.out
  clear hb hQ0
  rw [open_150 t f0] at hQ ⊢
  simp only [f6, f7, f8, f25] at hQ ⊢
  clear f0 f6 f7 f8 f25 HQ0
  conv => arg 2; whnf
  · -- a statement's body
    by_cases h4 : 0 < n4
    · obtain ⟨g4, c4, hv4⟩ := row_some (by have := hA.z4.2; rw [hn4] at this; exact this) h4
      injection hv4 with hv4 _ hj4
      subst hv4 hj4
      have x5 : wb.cell? ⟨bx, 5, none⟩ = some (.slice (some ⟨g4, 0, none⟩) n4 j4) := hA.box.cell 5 rfl
      obtain ⟨am, ham⟩ : ∃ am, am = a % n4 := ⟨_, rfl⟩
      have hal : am < n4 := by rw [ham]; exact Nat.mod_lt _ h4
      have e4 : (a : Int).tmod (n4 : Int) = (am : Int) := modC rfl h4 ham
      obtain ⟨rm, hrm⟩ : ∃ rm, rm = a % 9 := ⟨_, rfl⟩
      have e5 : (a : Int).tmod 9 = (rm : Int) := modC (n := 9) rfl (by decide) hrm
      have e6 : ((n4 : Int) == 0) = false := by rw [beq_eq_false_iff_ne]; omega
      have e7 : ¬ (n4 : Int) = 0 := by omega
      have e8 : (0 : Int) < (n4 : Int) := by omega
      have e9 : (am : Int) < (n4 : Int) := by omega
      obtain ⟨bd, qb, cb, hcb, hzb, hlb⟩ := hA.body hn4 hal
      obtain ⟨nb, hnb⟩ : ∃ n, bd.length = n := ⟨_, rfl⟩
      rw [hnb] at hcb hzb hlb
      clear ham hrm
      go_wp2_with fail
      go_quiet (fail)
      obtain ⟨wd, hwd⟩ : ∃ wd, wb.drewN nq = wd := ⟨_, rfl⟩
      have Bd : Below wb.heap.size wb wd := by rw [← hwd]; exact Joins.below_draws _ _ _
      rw [hwd]
      have hcd : wd.cell? ⟨g4, am * 7 + 5, none⟩ = some (.slice qb nb cb) := cell_below hcb Bd
      have Bn := below_box1 wd (.cells #[.int .i64 (rm : Nat)] 3)
      have An := At.new wd #[.int .i64 (rm : Nat)] 3
      have hA2 := (hA1.bel Bd).bel Bn
      have hbn := (HB.out.trans (Bd.mono HB.out.size)).trans (Bn.mono (Nat.le_trans HB.out.size Bd.size))
      have hzz := (hzb.bel Bd).bel Bn
      have HA2 := Lib.hid hA2
      have hsn := hbn.size
      clear hwd Bd Bn hA2 hcb hzb
      go_wp2_with ((at_builtin; refine wpList_append_one rfl _ _ rfl w0.heap.size nb cb qb bd hnb rfl hzz (by omega) wd.heap.size _ rfl An hsn ?_; intro g6 cap6 w6 hz6 hst6 hb6; obtain ⟨V', N', r', M', f1, f2, f4, f5, hA6⟩ := HA2.out.step hst6; obtain ⟨⟨y6, x7⟩, x8, hgB, hC6⟩ := hA6.setB (by rw [f4, hn4]) hal hz6 (by rw [List.length_append, hnb]; simp; omega)))
      exact hQ _ _ ⟨rfl, rfl, rfl, rfl, rfl, rfl, rfl, rfl, rfl, rfl, rfl, rfl, rfl⟩ ⟨hC6, (hbn.trans hb6).setCell (p := ⟨g4, am * 7 + 5, none⟩) hgB _⟩
    · have e8 : ¬ (0 : Int) < (n4 : Int) := by omega
      have e8b : decide ((0 : Int) < (n4 : Int)) = false := decide_eq_false e8
      have x5 : wb.cell? ⟨bx, 5, none⟩ = some (.slice p4 n4 j4) := hA.box.cell 5 rfl
      go_wp2_with fail
      exact hQ _ _ ⟨rfl, rfl, rfl, rfl, rfl, rfl, rfl, rfl, rfl, rfl, rfl, rfl, rfl⟩ ⟨hA1.mk', HB.out⟩
end Go.Proofs.YtncdbjflfhfddaaGreat
