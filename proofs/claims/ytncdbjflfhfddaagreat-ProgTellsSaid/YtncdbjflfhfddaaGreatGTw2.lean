/- near: cases of its switch. -/
import Derived.Test.YtncdbjflfhfddaaGreatGTw0
namespace Go.Proofs.YtncdbjflfhfddaaGreat
open Go.ChangeShapes Go.WideShapes Go.ChangeAt Go.RowKit Go.Joins Go.Deep
set_option linter.unusedVariables false

set_option maxRecDepth 1000000 in
set_option maxHeartbeats 6400000 in
theorem sw5 (w0 wb : World) (bx : Nat) (xbig : Bool) (xptr : Int) (p1 p2 p3 p4 p5 : Option Addr) (n1 n2 n3 n4 n5 j1 j2 j3 j4 j5 : Nat) (V N : List Int) (E : List EX) (r : List TT) (M : List Int) (a : Nat) (ha : a < 50)
    (hn1 : V.length = n1) (hn2 : N.length = n2) (hn3 : E.length = n3) (hn4 : r.length = n4) (hn5 : M.length = n5) (l1 : n1 ≤ 900) (l2 : n2 ≤ 900) (l3 : n3 ≤ 900) (ln4 : n4 ≤ 900) (l5 : n5 ≤ 900)
    (hA : CpA w0.heap.size bx 900 wb xbig xptr (.slice p1 n1 j1) (.slice p2 n2 j2) (.slice p3 n3 j3) (.slice p4 n4 j4) (.slice p5 n5 j5) V N E r M) (hb : Below w0.heap.size w0 wb)
    (t : Array Value) (hF : FrN t 5 a bx) (Q : Exit → Act → World → Prop) (hQ0 : ∀ t' w', KeepN t t' → (CpS w0.heap.size bx 1000 w' ∧ Below w0.heap.size w0 w') → Q .normal ⟨t', []⟩ w') : swC.wp Tryz.prog (NoPanic Q) ⟨t, []⟩ wb := by
  have HB := Lib.hid hb
  have hA1 : CpA w0.heap.size bx 1000 wb xbig xptr (.slice p1 n1 j1) (.slice p2 n2 j2) (.slice p3 n3 j3) (.slice p4 n4 j4) (.slice p5 n5 j5) V N E r M := ⟨hA.box, hA.ge, hA.z1, hA.z2, hA.z3, hA.z4, hA.z5, by omega, by omega, by omega, ⟨by omega, fun t ht => by have := hA.l4.2 t ht; omega⟩, by omega⟩
  obtain ⟨f0, f6, f7, f8, f25⟩ := hF
  have HQ0 := Lib.hid hQ0
  have hQ : ∀ (t' : Array Value) (w' : World), KeepN t t' → (CpS w0.heap.size bx 1000 w' ∧ Below w0.heap.size w0 w') → Q .normal ⟨t', []⟩ w' := HQ0.out
  clear hb hQ0
  rw [open_150 t f0] at hQ ⊢
  simp only [f6, f7, f8, f25] at hQ ⊢
  clear f0 f6 f7 f8 f25 HQ0
  conv => arg 2; whnf
  · -- a statement's field
    by_cases h4 : 0 < n4
    · obtain ⟨g4, c4, hv4⟩ := row_some (by have := hA.z4.2; rw [hn4] at this; exact this) h4
      injection hv4 with hv4 _ hj4
      subst hv4 hj4
      have x5 : wb.cell? ⟨bx, 5, none⟩ = some (.slice (some ⟨g4, 0, none⟩) n4 j4) := hA.box.cell 5 rfl
      obtain ⟨am, ham⟩ : ∃ am, am = a % n4 := ⟨_, rfl⟩
      have hal : am < n4 := by rw [ham]; exact Nat.mod_lt _ h4
      have e4 : (a : Int).tmod (n4 : Int) = (am : Int) := modC rfl h4 ham
      obtain ⟨rm, hrm⟩ : ∃ rm, rm = a % 9 := ⟨_, rfl⟩
      have e5 : (a : Int).tmod 9 = (rm : Int) := modC (n := 9) rfl (by decide) hrm
      have e6 : ((n4 : Int) == 0) = false := by rw [beq_eq_false_iff_ne]; omega
      have e7 : ¬ (n4 : Int) = 0 := by omega
      have e8 : (0 : Int) < (n4 : Int) := by omega
      have e9 : (am : Int) < (n4 : Int) := by omega
      have hSE := fun w' (hb : Below wb.heap.size wb w') => (hA1.bel hb).setT hn4 (i := am) (j := 4) hal (by decide) (rm : Nat)
      obtain ⟨⟨y, hy⟩, hf, hg, _⟩ := hSE wb (Below.refl _ _)
      have HSE := Lib.hid hSE
      clear hSE ham hrm
      skip
      go_wp2_with fail
      go_quiet (fail)
      go_wp2_with fail
      exact hQ _ _ ⟨rfl, rfl, rfl, rfl, rfl, rfl, rfl, rfl, rfl, rfl, rfl, rfl, rfl⟩ ⟨(HSE.out _ (Joins.below_draws _ _ _)).2.2.2, (HB.out.trans (Below.mono (Joins.below_draws _ _ _) HB.out.size)).setCell (p := ⟨g4, am * 7 + 4, none⟩) hg _⟩
    · have e8 : ¬ (0 : Int) < (n4 : Int) := by omega
      have e8b : decide ((0 : Int) < (n4 : Int)) = false := decide_eq_false e8
      have x5 : wb.cell? ⟨bx, 5, none⟩ = some (.slice p4 n4 j4) := hA.box.cell 5 rfl
      go_wp2_with fail
      exact hQ _ _ ⟨rfl, rfl, rfl, rfl, rfl, rfl, rfl, rfl, rfl, rfl, rfl, rfl, rfl⟩ ⟨hA1.mk', HB.out⟩
set_option maxRecDepth 1000000 in
set_option maxHeartbeats 6400000 in
theorem sw6 (w0 wb : World) (bx : Nat) (xbig : Bool) (xptr : Int) (p1 p2 p3 p4 p5 : Option Addr) (n1 n2 n3 n4 n5 j1 j2 j3 j4 j5 : Nat) (V N : List Int) (E : List EX) (r : List TT) (M : List Int) (a : Nat) (ha : a < 50)
    (hn1 : V.length = n1) (hn2 : N.length = n2) (hn3 : E.length = n3) (hn4 : r.length = n4) (hn5 : M.length = n5) (l1 : n1 ≤ 900) (l2 : n2 ≤ 900) (l3 : n3 ≤ 900) (ln4 : n4 ≤ 900) (l5 : n5 ≤ 900)
    (hA : CpA w0.heap.size bx 900 wb xbig xptr (.slice p1 n1 j1) (.slice p2 n2 j2) (.slice p3 n3 j3) (.slice p4 n4 j4) (.slice p5 n5 j5) V N E r M) (hb : Below w0.heap.size w0 wb)
    (t : Array Value) (hF : FrN t 6 a bx) (Q : Exit → Act → World → Prop) (hQ0 : ∀ t' w', KeepN t t' → (CpS w0.heap.size bx 1000 w' ∧ Below w0.heap.size w0 w') → Q .normal ⟨t', []⟩ w') : swC.wp Tryz.prog (NoPanic Q) ⟨t, []⟩ wb := by
  have HB := Lib.hid hb
  have hA1 : CpA w0.heap.size bx 1000 wb xbig xptr (.slice p1 n1 j1) (.slice p2 n2 j2) (.slice p3 n3 j3) (.slice p4 n4 j4) (.slice p5 n5 j5) V N E r M := ⟨hA.box, hA.ge, hA.z1, hA.z2, hA.z3, hA.z4, hA.z5, by omega, by omega, by omega, ⟨by omega, fun t ht => by have := hA.l4.2 t ht; omega⟩, by omega⟩
  obtain ⟨f0, f6, f7, f8, f25⟩ := hF
  have HQ0 := Lib.hid hQ0
  have hQ : ∀ (t' : Array Value) (w' : World), KeepN t t' → (CpS w0.heap.size bx 1000 w' ∧ Below w0.heap.size w0 w') → Q .normal ⟨t', []⟩ w' := HQ0.out
  clear hb hQ0
  rw [open_150 t f0] at hQ ⊢
  simp only [f6, f7, f8, f25] at hQ ⊢
  clear f0 f6 f7 f8 f25 HQ0
  conv => arg 2; whnf
  · -- main appended to
    obtain ⟨rm, hrm⟩ : ∃ rm, rm = a % 9 := ⟨_, rfl⟩
    have e5 : (a : Int).tmod 9 = (rm : Int) := modC (n := 9) rfl (by decide) hrm
    clear hrm
    have x6 : wb.cell? ⟨bx, 6, none⟩ = some (.slice p5 n5 j5) := hA.box.cell 6 rfl
    have Bn := below_box1 wb (.cells #[.int .i64 (rm : Nat)] 3)
    have An := At.new wb #[.int .i64 (rm : Nat)] 3
    have hA2 := hA1.bel Bn
    have hbn := HB.out.trans (Bn.mono HB.out.size)
    have HA2 := Lib.hid hA2
    have hzz := hA2.z5
    have hsn := hbn.size
    clear Bn hA2
    go_wp2_with ((at_builtin; refine wpList_append_one rfl _ _ rfl w0.heap.size n5 j5 p5 _ hn5 rfl hzz (by omega) wb.heap.size _ rfl An hsn ?_; intro g6 cap6 w6 hz6 hst6 hb6; obtain ⟨V', N', r', M', f1, f2, f4, f5, hA6⟩ := HA2.out.step hst6; have x7 : w6.cell? ⟨bx, 6, none⟩ = some (.slice p5 n5 j5) := hA6.box.cell 6 rfl; have x8 := At.free hA6.box 6))
    exact hQ _ _ ⟨rfl, rfl, rfl, rfl, rfl, rfl, rfl, rfl, rfl, rfl, rfl, rfl, rfl⟩ ⟨(hA6.setMain hz6 (by rw [List.length_append, hn5]; simp; omega)).mk', (hbn.trans hb6).setCell (p := ⟨bx, 6, none⟩) hA6.ge _⟩
set_option maxRecDepth 1000000 in
set_option maxHeartbeats 6400000 in
theorem sw7 (w0 wb : World) (bx : Nat) (xbig : Bool) (xptr : Int) (p1 p2 p3 p4 p5 : Option Addr) (n1 n2 n3 n4 n5 j1 j2 j3 j4 j5 : Nat) (V N : List Int) (E : List EX) (r : List TT) (M : List Int) (a : Nat) (ha : a < 50)
    (hn1 : V.length = n1) (hn2 : N.length = n2) (hn3 : E.length = n3) (hn4 : r.length = n4) (hn5 : M.length = n5) (l1 : n1 ≤ 900) (l2 : n2 ≤ 900) (l3 : n3 ≤ 900) (ln4 : n4 ≤ 900) (l5 : n5 ≤ 900)
    (hA : CpA w0.heap.size bx 900 wb xbig xptr (.slice p1 n1 j1) (.slice p2 n2 j2) (.slice p3 n3 j3) (.slice p4 n4 j4) (.slice p5 n5 j5) V N E r M) (hb : Below w0.heap.size w0 wb)
    (t : Array Value) (hF : FrN t 7 a bx) (Q : Exit → Act → World → Prop) (hQ0 : ∀ t' w', KeepN t t' → (CpS w0.heap.size bx 1000 w' ∧ Below w0.heap.size w0 w') → Q .normal ⟨t', []⟩ w') : swC.wp Tryz.prog (NoPanic Q) ⟨t, []⟩ wb := by
  have HB := Lib.hid hb
  have hA1 : CpA w0.heap.size bx 1000 wb xbig xptr (.slice p1 n1 j1) (.slice p2 n2 j2) (.slice p3 n3 j3) (.slice p4 n4 j4) (.slice p5 n5 j5) V N E r M := ⟨hA.box, hA.ge, hA.z1, hA.z2, hA.z3, hA.z4, hA.z5, by omega, by omega, by omega, ⟨by omega, fun t ht => by have := hA.l4.2 t ht; omega⟩, by omega⟩
  obtain ⟨f0, f6, f7, f8, f25⟩ := hF
  have HQ0 := Lib.hid hQ0
  have hQ : ∀ (t' : Array Value) (w' : World), KeepN t t' → (CpS w0.heap.size bx 1000 w' ∧ Below w0.heap.size w0 w') → Q .normal ⟨t', []⟩ w' := HQ0.out
  clear hb hQ0
  rw [open_150 t f0] at hQ ⊢
  simp only [f6, f7, f8, f25] at hQ ⊢
  clear f0 f6 f7 f8 f25 HQ0
  conv => arg 2; whnf
  · -- two changed places
    by_cases h5 : 1 < n5
    · obtain ⟨g5, c5, hv5⟩ := row_some (by have := hA.z5; unfold RowZ at this; rw [hn5] at this; exact this) (show 0 < n5 by omega)
      injection hv5 with hv5 _ hj5
      subst hv5 hj5
      have x6 : wb.cell? ⟨bx, 6, none⟩ = some (.slice (some ⟨g5, 0, none⟩) n5 j5) := hA.box.cell 6 rfl
      have e8 : (1 : Int) < (n5 : Int) := by omega
      have e9 : (0 : Int) < (n5 : Int) := by omega
      have hz5 := hA.z5
      unfold RowZ at hz5
      rw [hn5] at hz5
      obtain ⟨m0, hm0⟩ : ∃ m0, M[0]? = some m0 := ⟨_, List.getElem?_eq_getElem (by omega)⟩
      obtain ⟨m1, hm1⟩ : ∃ m1, M[1]? = some m1 := ⟨_, List.getElem?_eq_getElem (by omega)⟩
      have y0 : wb.cell? ⟨g5, 0, none⟩ = some (.int .i64 m0) := by rw [hz5.cellAt 0 (by omega), List.getElem?_map, hm0]; rfl
      have y1 : wb.cell? ⟨g5, 1, none⟩ = some (.int .i64 m1) := by rw [hz5.cellAt 1 (by omega), List.getElem?_map, hm1]; rfl
      obtain ⟨cur, hAg, hcs, hnc⟩ := row_at hz5
      have f0 := At.free hAg 0
      have f1 := At.free hAg 1
      have hgB : w0.heap.size ≤ g5 := own_geG hz5 rfl
      have HST : Hid (∀ w', Below wb.heap.size wb w' → CpS w0.heap.size bx 1000 ((w'.setCell ⟨g5, 0, none⟩ (.int .i64 m1)).setCell ⟨g5, 1, none⟩ (.int .i64 m0))) := Lib.hid fun w' hb => by
        have hA9 := At.below' hb hAg
        have s1 := IntStep.set hA9 0 (by omega) m1
        have s2 := IntStep.set (At.set hA9 0 (.int .i64 m1) (by omega)) 1 (by simp; omega) m0
        obtain ⟨V', N', r', M', _, _, _, _, h9⟩ := (hA1.bel hb).step (s1.trans s2)
        exact h9.mk'
      clear hz5 hm0 hm1 hAg
      go_wp2_with fail
      go_region
      all_goals
        go_wp2_with fail
        exact hQ _ _ ⟨rfl, rfl, rfl, rfl, rfl, rfl, rfl, rfl, rfl, rfl, rfl, rfl, rfl⟩ ⟨HST.out _ ((Below.refl _ _).drew), ((HB.out.drew).setCell (p := ⟨g5, 0, none⟩) hgB _).setCell (p := ⟨g5, 1, none⟩) hgB _⟩
    · have e8 : ¬ (1 : Int) < (n5 : Int) := by omega
      have e8b : decide ((1 : Int) < (n5 : Int)) = false := decide_eq_false e8
      have x6 : wb.cell? ⟨bx, 6, none⟩ = some (.slice p5 n5 j5) := hA.box.cell 6 rfl
      go_wp2_with fail
      exact hQ _ _ ⟨rfl, rfl, rfl, rfl, rfl, rfl, rfl, rfl, rfl, rfl, rfl, rfl, rfl⟩ ⟨hA1.mk', HB.out⟩
set_option maxRecDepth 1000000 in
set_option maxHeartbeats 6400000 in
theorem sw8 (w0 wb : World) (bx : Nat) (xbig : Bool) (xptr : Int) (p1 p2 p3 p4 p5 : Option Addr) (n1 n2 n3 n4 n5 j1 j2 j3 j4 j5 : Nat) (V N : List Int) (E : List EX) (r : List TT) (M : List Int) (a : Nat) (ha : a < 50)
    (hn1 : V.length = n1) (hn2 : N.length = n2) (hn3 : E.length = n3) (hn4 : r.length = n4) (hn5 : M.length = n5) (l1 : n1 ≤ 900) (l2 : n2 ≤ 900) (l3 : n3 ≤ 900) (ln4 : n4 ≤ 900) (l5 : n5 ≤ 900)
    (hA : CpA w0.heap.size bx 900 wb xbig xptr (.slice p1 n1 j1) (.slice p2 n2 j2) (.slice p3 n3 j3) (.slice p4 n4 j4) (.slice p5 n5 j5) V N E r M) (hb : Below w0.heap.size w0 wb)
    (t : Array Value) (hF : FrN t 8 a bx) (Q : Exit → Act → World → Prop) (hQ0 : ∀ t' w', KeepN t t' → (CpS w0.heap.size bx 1000 w' ∧ Below w0.heap.size w0 w') → Q .normal ⟨t', []⟩ w') : swC.wp Tryz.prog (NoPanic Q) ⟨t, []⟩ wb := by
  have HB := Lib.hid hb
  have hA1 : CpA w0.heap.size bx 1000 wb xbig xptr (.slice p1 n1 j1) (.slice p2 n2 j2) (.slice p3 n3 j3) (.slice p4 n4 j4) (.slice p5 n5 j5) V N E r M := ⟨hA.box, hA.ge, hA.z1, hA.z2, hA.z3, hA.z4, hA.z5, by omega, by omega, by omega, ⟨by omega, fun t ht => by have := hA.l4.2 t ht; omega⟩, by omega⟩
  obtain ⟨f0, f6, f7, f8, f25⟩ := hF
  have HQ0 := Lib.hid hQ0
  have hQ : ∀ (t' : Array Value) (w' : World), KeepN t t' → (CpS w0.heap.size bx 1000 w' ∧ Below w0.heap.size w0 w') → Q .normal ⟨t', []⟩ w' := HQ0.out
  clear hb hQ0
  rw [open_150 t f0] at hQ ⊢
  simp only [f6, f7, f8, f25] at hQ ⊢
  clear f0 f6 f7 f8 f25 HQ0
  conv => arg 2; whnf
  · -- vars appended to
    have x6 : wb.cell? ⟨bx, 2, none⟩ = some (.slice p1 n1 j1) := hA.box.cell 2 rfl
    have Bn := below_box1 wb (.cells #[.int .i64 (a : Nat)] 3)
    have An := At.new wb #[.int .i64 (a : Nat)] 3
    have hA2 := hA1.bel Bn
    have hbn := HB.out.trans (Bn.mono HB.out.size)
    have HA2 := Lib.hid hA2
    have hzz := hA2.z1
    have hsn := hbn.size
    clear Bn hA2
    go_wp2_with ((at_builtin; refine wpList_append_one rfl _ _ rfl w0.heap.size n1 j1 p1 _ hn1 rfl hzz (by omega) wb.heap.size _ rfl An hsn ?_; intro g6 cap6 w6 hz6 hst6 hb6; obtain ⟨V', N', r', M', f1, f2, f4, f5, hA6⟩ := HA2.out.step hst6; have x7 : w6.cell? ⟨bx, 2, none⟩ = some (.slice p1 n1 j1) := hA6.box.cell 2 rfl; have x8 := At.free hA6.box 2))
    exact hQ _ _ ⟨rfl, rfl, rfl, rfl, rfl, rfl, rfl, rfl, rfl, rfl, rfl, rfl, rfl⟩ ⟨(hA6.setVars hz6 (by rw [List.length_append, hn1]; simp; omega)).mk', (hbn.trans hb6).setCell (p := ⟨bx, 2, none⟩) hA6.ge _⟩
set_option maxRecDepth 1000000 in
set_option maxHeartbeats 6400000 in
theorem sw9 (w0 wb : World) (bx : Nat) (xbig : Bool) (xptr : Int) (p1 p2 p3 p4 p5 : Option Addr) (n1 n2 n3 n4 n5 j1 j2 j3 j4 j5 : Nat) (V N : List Int) (E : List EX) (r : List TT) (M : List Int) (a : Nat) (ha : a < 50)
    (hn1 : V.length = n1) (hn2 : N.length = n2) (hn3 : E.length = n3) (hn4 : r.length = n4) (hn5 : M.length = n5) (l1 : n1 ≤ 900) (l2 : n2 ≤ 900) (l3 : n3 ≤ 900) (ln4 : n4 ≤ 900) (l5 : n5 ≤ 900)
    (hA : CpA w0.heap.size bx 900 wb xbig xptr (.slice p1 n1 j1) (.slice p2 n2 j2) (.slice p3 n3 j3) (.slice p4 n4 j4) (.slice p5 n5 j5) V N E r M) (hb : Below w0.heap.size w0 wb)
    (t : Array Value) (hF : FrN t 9 a bx) (Q : Exit → Act → World → Prop) (hQ0 : ∀ t' w', KeepN t t' → (CpS w0.heap.size bx 1000 w' ∧ Below w0.heap.size w0 w') → Q .normal ⟨t', []⟩ w') : swC.wp Tryz.prog (NoPanic Q) ⟨t, []⟩ wb := by
  have HB := Lib.hid hb
  have hA1 : CpA w0.heap.size bx 1000 wb xbig xptr (.slice p1 n1 j1) (.slice p2 n2 j2) (.slice p3 n3 j3) (.slice p4 n4 j4) (.slice p5 n5 j5) V N E r M := ⟨hA.box, hA.ge, hA.z1, hA.z2, hA.z3, hA.z4, hA.z5, by omega, by omega, by omega, ⟨by omega, fun t ht => by have := hA.l4.2 t ht; omega⟩, by omega⟩
  obtain ⟨f0, f6, f7, f8, f25⟩ := hF
  have HQ0 := Lib.hid hQ0
  have hQ : ∀ (t' : Array Value) (w' : World), KeepN t t' → (CpS w0.heap.size bx 1000 w' ∧ Below w0.heap.size w0 w') → Q .normal ⟨t', []⟩ w' := HQ0.out
  clear hb hQ0
  rw [open_150 t f0] at hQ ⊢
  simp only [f6, f7, f8, f25] at hQ ⊢
  clear f0 f6 f7 f8 f25 HQ0
  conv => arg 2; whnf
  · -- the machine
    obtain ⟨rm, hrm⟩ : ∃ rm, rm = a % 5 := ⟨_, rfl⟩
    have e5 : (a : Int).tmod 5 = (rm : Int) := modC (n := 5) rfl (by decide) hrm
    have x1 : wb.cell? ⟨bx, 1, none⟩ = some (.int .i64 xptr) := hA.box.cell 1 rfl
    have x2 := At.free hA.box 1
    clear hrm
    go_wp2_with fail
    exact hQ _ _ ⟨rfl, rfl, rfl, rfl, rfl, rfl, rfl, rfl, rfl, rfl, rfl, rfl, rfl⟩ ⟨(hA1.setPtr (rm : Nat)).mk', HB.out.setCell (p := ⟨bx, 1, none⟩) hA1.ge _⟩
end Go.Proofs.YtncdbjflfhfddaaGreat
