/- A program copied. -/
import Derived.Test.YtncdbjflfhfddaaGreatGCt
namespace Go.Proofs.YtncdbjflfhfddaaGreat
open Go.ChangeShapes Go.WideShapes Go.ChangeAt Go.RowKit Go.Joins Go.Deep
set_option linter.unusedVariables false

theorem RowE.bel {base : Nat} {l : List EX} {v : Value} {w w' : World} (h : RowE base l v w) (hb : Below w.heap.size w w') : RowE base l v w' := ownsRow_belowG h hb
theorem rowE_mono {base base' : Nat} {l : List EX} {v : Value} {w : World} (h : RowE base l v w) (hb : base' ≤ base) : RowE base' l v w := ownsRow_mono h hb
theorem rowT_mono {base base' : Nat} {r : List (SX × Value × Value)} {v : Value} {w : World} (h : RowT base r v w) (hb : base' ≤ base) : RowT base' r v w := ⟨fun t ht => ⟨rowZ_mono (h.1 t ht).1 hb, rowZ_mono (h.1 t ht).2 hb⟩, ownsRow_mono h.2 hb⟩
theorem rowS_mono {base base' : Nat} {l : List SX} {v : Value} {w : World} (h : RowS base l v w) (hb : base' ≤ base) : RowS base' l v w :=
  let ⟨r, hr, h⟩ := h
  ⟨r, hr, rowT_mono h hb⟩
theorem rowZ_other {w w' : World} {base : Nat} {l : List Int} {v : Value} (h : RowZ base l v w) (hb : ∀ c, base ≤ c → w'.heap[c]? = w.heap[c]?) : RowZ base l v w' := ownsRow_other h hb
theorem rowE_other {w w' : World} {base : Nat} {l : List EX} {v : Value} (h : RowE base l v w) (hb : ∀ c, base ≤ c → w'.heap[c]? = w.heap[c]?) : RowE base l v w' := ownsRow_other h hb
theorem rowS_other {w w' : World} {base : Nat} {l : List SX} {v : Value} (h : RowS base l v w) (hb : ∀ c, base ≤ c → w'.heap[c]? = w.heap[c]?) : RowS base l v w' :=
  let ⟨r, hr, h⟩ := h
  ⟨r, hr, fun t ht => ⟨rowZ_other (h.1 t ht).1 hb, rowZ_other (h.1 t ht).2 hb⟩, ownsRow_other h.2 hb⟩
theorem RowS.form {base : Nat} {l : List SX} {v : Value} {w : World} (h : RowS base l v w) : ∃ q c, v = .slice q l.length c := by
  obtain ⟨r, rfl, h⟩ := h
  obtain ⟨q, c, e⟩ := h.form
  exact ⟨q, c, by rw [List.length_map]; exact e⟩
def CopyPr (big : Bool) (ptr : Int) (V N : List Int) (E : List EX) (S : List SX) (M : List Int) (w : World) (e : Ending) (w' : World) : Prop :=
  ∃ v1 v2 v3 v4 v5, e = .returned (.agg #[.bool big, .int .i64 ptr, v1, v2, v3, v4, v5]) ∧ RowZ w.heap.size V v1 w' ∧ RowZ w.heap.size N v2 w' ∧ RowE w.heap.size E v3 w' ∧ RowS w.heap.size S v4 w' ∧ RowZ w.heap.size M v5 w' ∧ Below w.heap.size w w'
set_option maxRecDepth 100000 in
set_option maxHeartbeats 3200000 in
theorem copyProgram_any (big : Bool) (ptr : Int) (v1 v2 v3 v4 v5 : Value) (V N : List Int) (E : List EX) (S : List SX) (M : List Int) (hV : V.length ≤ 100000) (hN : N.length ≤ 100000) (hE : E.length ≤ 100000) (hS : S.length ≤ 100000) (hM : M.length ≤ 100000) (hst : ∀ s ∈ S, s.body.length ≤ 100000 ∧ s.els.length ≤ 100000)
    (w : World) (i1 : IsIs w v1 V) (i2 : IsIs w v2 N) (i3 : IsEs w v3 E) (i4 : IsSs w v4 S) (i5 : IsIs w v5 M) :
    Calls Tryz.prog 6 #[.agg #[.bool big, .int .i64 ptr, v1, v2, v3, v4, v5]] w (CopyPr big ptr V N E S M w) := by
  obtain ⟨qV, cV, rfl, _⟩ := id i1
  obtain ⟨qN, cN, rfl, _⟩ := id i2
  obtain ⟨qE, cE, rfl, _⟩ := id i3
  obtain ⟨qS, cS, rfl, _⟩ := id i4
  obtain ⟨qM, cM, rfl, _⟩ := id i5
  have hb1 := below_box1 w (.cells #[.bool big, .int .i64 ptr, .slice qV V.length cV, .slice qN N.length cN, .slice qE E.length cE, .slice qS S.length cS, .slice qM M.length cM] 33)
  have hA1 := At.new w #[.bool big, .int .i64 ptr, .slice qV V.length cV, .slice qN N.length cN, .slice qE E.length cE, .slice qS S.length cS, .slice qM M.length cM] 33
  obtain ⟨w1, hw1⟩ : ∃ w1, w.alloc (.cells #[.bool big, .int .i64 ptr, .slice qV V.length cV, .slice qN N.length cN, .slice qE E.length cE, .slice qS S.length cS, .slice qM M.length cM] 33) = w1 := ⟨_, rfl⟩
  rw [hw1] at hb1 hA1
  have hb2 := below_box1 w1 (.cells #[.bool false, .int .i64 0, .slice none 0 0, .slice none 0 0, .slice none 0 0, .slice none 0 0, .slice none 0 0] 33)
  have hA2 := At.new w1 #[.bool false, .int .i64 0, .slice none 0 0, .slice none 0 0, .slice none 0 0, .slice none 0 0, .slice none 0 0] 33
  obtain ⟨w2, hw2⟩ : ∃ w2, w1.alloc (.cells #[.bool false, .int .i64 0, .slice none 0 0, .slice none 0 0, .slice none 0 0, .slice none 0 0, .slice none 0 0] 33) = w2 := ⟨_, rfl⟩
  rw [hw2] at hb2 hA2
  have hb3 := below_box1 w2 (.cells #[.bool big, .int .i64 ptr, .slice qV V.length cV, .slice qN N.length cN, .slice qE E.length cE, .slice qS S.length cS, .slice qM M.length cM] 33)
  have hA3 := At.new w2 #[.bool big, .int .i64 ptr, .slice qV V.length cV, .slice qN N.length cN, .slice qE E.length cE, .slice qS S.length cS, .slice qM M.length cM] 33
  obtain ⟨w3, hw3⟩ : ∃ w3, w2.alloc (.cells #[.bool big, .int .i64 ptr, .slice qV V.length cV, .slice qN N.length cN, .slice qE E.length cE, .slice qS S.length cS, .slice qM M.length cM] 33) = w3 := ⟨_, rfl⟩
  rw [hw3] at hb3 hA3
  have hA1' := At.below' hb2 hA1
  have s0 : w2.cell? ⟨w.heap.size, 0, none⟩ = some (.bool big) := hA1'.cell 0 rfl
  have s1 : w2.cell? ⟨w.heap.size, 1, none⟩ = some (.int .i64 ptr) := hA1'.cell 1 rfl
  have s2 : w2.cell? ⟨w.heap.size, 2, none⟩ = some (.slice qV V.length cV) := hA1'.cell 2 rfl
  have s3 : w2.cell? ⟨w.heap.size, 3, none⟩ = some (.slice qN N.length cN) := hA1'.cell 3 rfl
  have s4 : w2.cell? ⟨w.heap.size, 4, none⟩ = some (.slice qE E.length cE) := hA1'.cell 4 rfl
  have s5 : w2.cell? ⟨w.heap.size, 5, none⟩ = some (.slice qS S.length cS) := hA1'.cell 5 rfl
  have s6 : w2.cell? ⟨w.heap.size, 6, none⟩ = some (.slice qM M.length cM) := hA1'.cell 6 rfl
  have hb13 := hb1.trans ((hb2.trans (hb3.mono hb2.size)).mono hb1.size)
  have B1 := At.below' hb3 hA1'
  have B2 := At.below' hb3 hA2
  have B3 := hA3
  have l12 : w.heap.size < w1.heap.size := hA1.lt
  have l23 : w1.heap.size < w2.heap.size := hA2.lt
  have l34 : w2.heap.size < w3.heap.size := hA3.lt
  have HI := Lib.hid (And.intro i1 (And.intro i2 (And.intro i3 (And.intro i4 i5))))
  have HA := Lib.hid (And.intro B1 (And.intro B2 B3))
  have HB := Lib.hid hb13
  have HL := Lib.hid (And.intro l12 (And.intro l23 l34))
  clear i1 i2 i3 i4 i5 hA1 hA2 hA3 hA1' hb1 hb2 hb3 hb13 B1 B2 B3 l12 l23 l34
  go_enter Tryz.func6, Tryz.ntmps6
  go_upto_region 2 with (fail)
  clear hw1 hw2 hw3 s0 s1 s2 s3 s4 s5 s6
  have A1 := HA.out.1
  have A2 := HA.out.2.1
  have A3 := HA.out.2.2
  have b := Below.refl w2.heap.size w3
  have hz : w3.heap.size ≤ w3.heap.size := Nat.le_refl _
  clear HA
  have c := copyNums_any _ V hV w3 (HI.out.1.below (HB.out.trans (b.mono (by have := HB.out.size; have := HL.out; omega))))
  unfold CopyZ at c
  have x6 : w3.cell? ⟨w.heap.size, 2, none⟩ = some (.slice qV V.length cV) := A1.cell 2 rfl
  go_wp2_with fail
  refine c.mono ?_
  rintro ed y0 ⟨v, rfl, z, bb⟩
  obtain ⟨pV, kV, rfl⟩ := z.form
  replace A1 := At.below' bb A1
  replace A2 := At.below' bb A2
  replace A3 := At.below' bb A3
  have zV := rowZ_mono z hz
  have y5 : y0.cell? ⟨w2.heap.size, 2, none⟩ = some (.slice qV V.length cV) := A3.cell 2 rfl
  have y6 := At.free A3 2
  have ff : ∀ c, w3.heap.size ≤ c → (y0.setCell ⟨w2.heap.size, 2, none⟩ (.slice pV V.length kV)).heap[c]? = y0.heap[c]? := fun c hc => heap_setCell_lt y0 w2.heap.size 2 c _ (by have := HL.out.2.2; omega)
  replace A3 := At.set A3 2 (.slice pV V.length kV) (by simp)
  replace A2 := (heap_setCell_lt y0 w2.heap.size 2 w1.heap.size (.slice pV V.length kV) (by have := HL.out; omega)).trans (show y0.heap[w1.heap.size]? = _ from A2)
  replace A1 := (heap_setCell_lt y0 w2.heap.size 2 w.heap.size (.slice pV V.length kV) (by have := HL.out; omega)).trans (show y0.heap[w.heap.size]? = _ from A1)
  replace zV := rowZ_other zV ff
  have b2 : Below w2.heap.size w3 (y0.setCell ⟨w2.heap.size, 2, none⟩ (.slice pV V.length kV)) := (b.trans (bb.mono (by have := HL.out; omega))).setCell (p := ⟨w2.heap.size, 2, none⟩) (Nat.le_refl _) _
  have hz2 : w3.heap.size ≤ (y0.setCell ⟨w2.heap.size, 2, none⟩ (.slice pV V.length kV)).heap.size := b2.size
  clear z ff x6 c bb b hz
  go_upto_region 3 with (fail)
  obtain ⟨x0, hwc⟩ : ∃ x0, y0.setCell ⟨w2.heap.size, 2, none⟩ (.slice pV V.length kV) = x0 := ⟨_, rfl⟩
  rw [hwc] at A1 A2 A3 b2 hz2 zV
  rw [hwc]
  clear hwc y5 y6
  have b := b2
  have hz := hz2
  clear b2 hz2
  replace A1 : At x0 w.heap.size #[.bool big, .int .i64 ptr, .slice qV V.length cV, .slice qN N.length cN, .slice qE E.length cE, .slice qS S.length cS, .slice qM M.length cM] 33 := A1
  replace A2 : At x0 w1.heap.size #[.bool false, .int .i64 0, .slice none 0 0, .slice none 0 0, .slice none 0 0, .slice none 0 0, .slice none 0 0] 33 := A2
  replace A3 : At x0 w2.heap.size #[.bool big, .int .i64 ptr, .slice pV V.length kV, .slice qN N.length cN, .slice qE E.length cE, .slice qS S.length cS, .slice qM M.length cM] 33 := A3
  have c := copyNums_any _ N hN x0 (HI.out.2.1.below (HB.out.trans (b.mono (by have := HB.out.size; have := HL.out; omega))))
  unfold CopyZ at c
  have x6 : x0.cell? ⟨w.heap.size, 3, none⟩ = some (.slice qN N.length cN) := A1.cell 3 rfl
  go_wp2_with fail
  refine c.mono ?_
  rintro ed y1 ⟨v, rfl, z, bb⟩
  obtain ⟨pN, kN, rfl⟩ := z.form
  replace A1 := At.below' bb A1
  replace A2 := At.below' bb A2
  replace A3 := At.below' bb A3
  have zN := rowZ_mono z hz
  replace zV := zV.bel bb
  have y5 : y1.cell? ⟨w2.heap.size, 3, none⟩ = some (.slice qN N.length cN) := A3.cell 3 rfl
  have y6 := At.free A3 3
  have ff : ∀ c, w3.heap.size ≤ c → (y1.setCell ⟨w2.heap.size, 3, none⟩ (.slice pN N.length kN)).heap[c]? = y1.heap[c]? := fun c hc => heap_setCell_lt y1 w2.heap.size 3 c _ (by have := HL.out.2.2; omega)
  replace A3 := At.set A3 3 (.slice pN N.length kN) (by simp)
  replace A2 := (heap_setCell_lt y1 w2.heap.size 3 w1.heap.size (.slice pN N.length kN) (by have := HL.out; omega)).trans (show y1.heap[w1.heap.size]? = _ from A2)
  replace A1 := (heap_setCell_lt y1 w2.heap.size 3 w.heap.size (.slice pN N.length kN) (by have := HL.out; omega)).trans (show y1.heap[w.heap.size]? = _ from A1)
  replace zV := rowZ_other zV ff
  replace zN := rowZ_other zN ff
  have b2 : Below w2.heap.size w3 (y1.setCell ⟨w2.heap.size, 3, none⟩ (.slice pN N.length kN)) := (b.trans (bb.mono (by have := HL.out; omega))).setCell (p := ⟨w2.heap.size, 3, none⟩) (Nat.le_refl _) _
  have hz2 : w3.heap.size ≤ (y1.setCell ⟨w2.heap.size, 3, none⟩ (.slice pN N.length kN)).heap.size := b2.size
  clear z ff x6 c bb b hz
  go_upto_region 4 with (fail)
  obtain ⟨x1, hwc⟩ : ∃ x1, y1.setCell ⟨w2.heap.size, 3, none⟩ (.slice pN N.length kN) = x1 := ⟨_, rfl⟩
  rw [hwc] at A1 A2 A3 b2 hz2 zV zN
  rw [hwc]
  clear hwc y5 y6
  have b := b2
  have hz := hz2
  clear b2 hz2
  replace A1 : At x1 w.heap.size #[.bool big, .int .i64 ptr, .slice qV V.length cV, .slice qN N.length cN, .slice qE E.length cE, .slice qS S.length cS, .slice qM M.length cM] 33 := A1
  replace A2 : At x1 w1.heap.size #[.bool false, .int .i64 0, .slice none 0 0, .slice none 0 0, .slice none 0 0, .slice none 0 0, .slice none 0 0] 33 := A2
  replace A3 : At x1 w2.heap.size #[.bool big, .int .i64 ptr, .slice pV V.length kV, .slice pN N.length kN, .slice qE E.length cE, .slice qS S.length cS, .slice qM M.length cM] 33 := A3
  have c := copyExprs_any _ E hE x1 (HI.out.2.2.1.below (HB.out.trans (b.mono (by have := HB.out.size; have := HL.out; omega))))
  unfold CopyE at c
  have x6 : x1.cell? ⟨w.heap.size, 4, none⟩ = some (.slice qE E.length cE) := A1.cell 4 rfl
  go_wp2_with fail
  refine c.mono ?_
  rintro ed y2 ⟨v, rfl, z, bb⟩
  obtain ⟨pE, kE, rfl⟩ := z.form
  replace A1 := At.below' bb A1
  replace A2 := At.below' bb A2
  replace A3 := At.below' bb A3
  have zE := rowE_mono z hz
  replace zV := zV.bel bb
  replace zN := zN.bel bb
  have y5 : y2.cell? ⟨w2.heap.size, 4, none⟩ = some (.slice qE E.length cE) := A3.cell 4 rfl
  have y6 := At.free A3 4
  have ff : ∀ c, w3.heap.size ≤ c → (y2.setCell ⟨w2.heap.size, 4, none⟩ (.slice pE E.length kE)).heap[c]? = y2.heap[c]? := fun c hc => heap_setCell_lt y2 w2.heap.size 4 c _ (by have := HL.out.2.2; omega)
  replace A3 := At.set A3 4 (.slice pE E.length kE) (by simp)
  replace A2 := (heap_setCell_lt y2 w2.heap.size 4 w1.heap.size (.slice pE E.length kE) (by have := HL.out; omega)).trans (show y2.heap[w1.heap.size]? = _ from A2)
  replace A1 := (heap_setCell_lt y2 w2.heap.size 4 w.heap.size (.slice pE E.length kE) (by have := HL.out; omega)).trans (show y2.heap[w.heap.size]? = _ from A1)
  replace zV := rowZ_other zV ff
  replace zN := rowZ_other zN ff
  replace zE := rowE_other zE ff
  have b2 : Below w2.heap.size w3 (y2.setCell ⟨w2.heap.size, 4, none⟩ (.slice pE E.length kE)) := (b.trans (bb.mono (by have := HL.out; omega))).setCell (p := ⟨w2.heap.size, 4, none⟩) (Nat.le_refl _) _
  have hz2 : w3.heap.size ≤ (y2.setCell ⟨w2.heap.size, 4, none⟩ (.slice pE E.length kE)).heap.size := b2.size
  clear z ff x6 c bb b hz
  go_upto_region 5 with (fail)
  obtain ⟨x2, hwc⟩ : ∃ x2, y2.setCell ⟨w2.heap.size, 4, none⟩ (.slice pE E.length kE) = x2 := ⟨_, rfl⟩
  rw [hwc] at A1 A2 A3 b2 hz2 zV zN zE
  rw [hwc]
  clear hwc y5 y6
  have b := b2
  have hz := hz2
  clear b2 hz2
  replace A1 : At x2 w.heap.size #[.bool big, .int .i64 ptr, .slice qV V.length cV, .slice qN N.length cN, .slice qE E.length cE, .slice qS S.length cS, .slice qM M.length cM] 33 := A1
  replace A2 : At x2 w1.heap.size #[.bool false, .int .i64 0, .slice none 0 0, .slice none 0 0, .slice none 0 0, .slice none 0 0, .slice none 0 0] 33 := A2
  replace A3 : At x2 w2.heap.size #[.bool big, .int .i64 ptr, .slice pV V.length kV, .slice pN N.length kN, .slice pE E.length kE, .slice qS S.length cS, .slice qM M.length cM] 33 := A3
  have c := copyStmts_any _ S hS hst x2 (HI.out.2.2.2.1.below (HB.out.trans (b.mono (by have := HB.out.size; have := HL.out; omega))))
  unfold CopySs at c
  have x6 : x2.cell? ⟨w.heap.size, 5, none⟩ = some (.slice qS S.length cS) := A1.cell 5 rfl
  go_wp2_with fail
  refine c.mono ?_
  rintro ed y3 ⟨v, rfl, z, bb⟩
  obtain ⟨pS, kS, rfl⟩ := z.form
  replace A1 := At.below' bb A1
  replace A2 := At.below' bb A2
  replace A3 := At.below' bb A3
  have zS := rowS_mono z hz
  replace zV := zV.bel bb
  replace zN := zN.bel bb
  replace zE := zE.bel bb
  have y5 : y3.cell? ⟨w2.heap.size, 5, none⟩ = some (.slice qS S.length cS) := A3.cell 5 rfl
  have y6 := At.free A3 5
  have ff : ∀ c, w3.heap.size ≤ c → (y3.setCell ⟨w2.heap.size, 5, none⟩ (.slice pS S.length kS)).heap[c]? = y3.heap[c]? := fun c hc => heap_setCell_lt y3 w2.heap.size 5 c _ (by have := HL.out.2.2; omega)
  replace A3 := At.set A3 5 (.slice pS S.length kS) (by simp)
  replace A2 := (heap_setCell_lt y3 w2.heap.size 5 w1.heap.size (.slice pS S.length kS) (by have := HL.out; omega)).trans (show y3.heap[w1.heap.size]? = _ from A2)
  replace A1 := (heap_setCell_lt y3 w2.heap.size 5 w.heap.size (.slice pS S.length kS) (by have := HL.out; omega)).trans (show y3.heap[w.heap.size]? = _ from A1)
  replace zV := rowZ_other zV ff
  replace zN := rowZ_other zN ff
  replace zE := rowE_other zE ff
  replace zS := rowS_other zS ff
  have b2 : Below w2.heap.size w3 (y3.setCell ⟨w2.heap.size, 5, none⟩ (.slice pS S.length kS)) := (b.trans (bb.mono (by have := HL.out; omega))).setCell (p := ⟨w2.heap.size, 5, none⟩) (Nat.le_refl _) _
  have hz2 : w3.heap.size ≤ (y3.setCell ⟨w2.heap.size, 5, none⟩ (.slice pS S.length kS)).heap.size := b2.size
  clear z ff x6 c bb b hz
  go_upto_region 6 with (fail)
  obtain ⟨x3, hwc⟩ : ∃ x3, y3.setCell ⟨w2.heap.size, 5, none⟩ (.slice pS S.length kS) = x3 := ⟨_, rfl⟩
  rw [hwc] at A1 A2 A3 b2 hz2 zV zN zE zS
  rw [hwc]
  clear hwc y5 y6
  have b := b2
  have hz := hz2
  clear b2 hz2
  replace A1 : At x3 w.heap.size #[.bool big, .int .i64 ptr, .slice qV V.length cV, .slice qN N.length cN, .slice qE E.length cE, .slice qS S.length cS, .slice qM M.length cM] 33 := A1
  replace A2 : At x3 w1.heap.size #[.bool false, .int .i64 0, .slice none 0 0, .slice none 0 0, .slice none 0 0, .slice none 0 0, .slice none 0 0] 33 := A2
  replace A3 : At x3 w2.heap.size #[.bool big, .int .i64 ptr, .slice pV V.length kV, .slice pN N.length kN, .slice pE E.length kE, .slice pS S.length kS, .slice qM M.length cM] 33 := A3
  have c := copyNums_any _ M hM x3 (HI.out.2.2.2.2.below (HB.out.trans (b.mono (by have := HB.out.size; have := HL.out; omega))))
  unfold CopyZ at c
  have x6 : x3.cell? ⟨w.heap.size, 6, none⟩ = some (.slice qM M.length cM) := A1.cell 6 rfl
  go_wp2_with fail
  refine c.mono ?_
  rintro ed y4 ⟨v, rfl, z, bb⟩
  obtain ⟨pM, kM, rfl⟩ := z.form
  replace A1 := At.below' bb A1
  replace A2 := At.below' bb A2
  replace A3 := At.below' bb A3
  have zM := rowZ_mono z hz
  replace zV := zV.bel bb
  replace zN := zN.bel bb
  replace zE := zE.bel bb
  replace zS := zS.bel bb
  have y5 : y4.cell? ⟨w2.heap.size, 6, none⟩ = some (.slice qM M.length cM) := A3.cell 6 rfl
  have y6 := At.free A3 6
  have ff : ∀ c, w3.heap.size ≤ c → (y4.setCell ⟨w2.heap.size, 6, none⟩ (.slice pM M.length kM)).heap[c]? = y4.heap[c]? := fun c hc => heap_setCell_lt y4 w2.heap.size 6 c _ (by have := HL.out.2.2; omega)
  replace A3 := At.set A3 6 (.slice pM M.length kM) (by simp)
  replace A2 := (heap_setCell_lt y4 w2.heap.size 6 w1.heap.size (.slice pM M.length kM) (by have := HL.out; omega)).trans (show y4.heap[w1.heap.size]? = _ from A2)
  replace A1 := (heap_setCell_lt y4 w2.heap.size 6 w.heap.size (.slice pM M.length kM) (by have := HL.out; omega)).trans (show y4.heap[w.heap.size]? = _ from A1)
  replace zV := rowZ_other zV ff
  replace zN := rowZ_other zN ff
  replace zE := rowE_other zE ff
  replace zS := rowS_other zS ff
  replace zM := rowZ_other zM ff
  have b2 : Below w2.heap.size w3 (y4.setCell ⟨w2.heap.size, 6, none⟩ (.slice pM M.length kM)) := (b.trans (bb.mono (by have := HL.out; omega))).setCell (p := ⟨w2.heap.size, 6, none⟩) (Nat.le_refl _) _
  have hz2 : w3.heap.size ≤ (y4.setCell ⟨w2.heap.size, 6, none⟩ (.slice pM M.length kM)).heap.size := b2.size
  clear z ff x6 c bb b hz
  go_upto_region 7 with (fail)
  obtain ⟨x4, hwc⟩ : ∃ x4, y4.setCell ⟨w2.heap.size, 6, none⟩ (.slice pM M.length kM) = x4 := ⟨_, rfl⟩
  rw [hwc] at A1 A2 A3 b2 hz2 zV zN zE zS zM
  rw [hwc]
  clear hwc y5 y6
  have b := b2
  have hz := hz2
  clear b2 hz2
  replace A1 : At x4 w.heap.size #[.bool big, .int .i64 ptr, .slice qV V.length cV, .slice qN N.length cN, .slice qE E.length cE, .slice qS S.length cS, .slice qM M.length cM] 33 := A1
  replace A2 : At x4 w1.heap.size #[.bool false, .int .i64 0, .slice none 0 0, .slice none 0 0, .slice none 0 0, .slice none 0 0, .slice none 0 0] 33 := A2
  replace A3 : At x4 w2.heap.size #[.bool big, .int .i64 ptr, .slice pV V.length kV, .slice pN N.length kN, .slice pE E.length kE, .slice pS S.length kS, .slice pM M.length kM] 33 := A3
  have d0 : x4.cell? ⟨w2.heap.size, 0, none⟩ = some (.bool big) := A3.cell 0 rfl
  have d1 : x4.cell? ⟨w2.heap.size, 1, none⟩ = some (.int .i64 ptr) := A3.cell 1 rfl
  have d2 : x4.cell? ⟨w2.heap.size, 2, none⟩ = some (.slice pV V.length kV) := A3.cell 2 rfl
  have d3 : x4.cell? ⟨w2.heap.size, 3, none⟩ = some (.slice pN N.length kN) := A3.cell 3 rfl
  have d4 : x4.cell? ⟨w2.heap.size, 4, none⟩ = some (.slice pE E.length kE) := A3.cell 4 rfl
  have d5 : x4.cell? ⟨w2.heap.size, 5, none⟩ = some (.slice pS S.length kS) := A3.cell 5 rfl
  have d6 : x4.cell? ⟨w2.heap.size, 6, none⟩ = some (.slice pM M.length kM) := A3.cell 6 rfl
  have HZ := Lib.hid ((And.intro zV (And.intro zN (And.intro zE (And.intro zS zM)))))
  have HF := Lib.hid b
  have T0 := A2
  clear zV zN zE zS zM b A1 A2 A3 hz
  have u0 : (x4).cell? ⟨w1.heap.size, 0, none⟩ = some (.bool false) := T0.cell 0 rfl
  have g0 := At.free T0 0
  have T1 : At ((x4).setCell ⟨w1.heap.size, 0, none⟩ (.bool big)) w1.heap.size #[.bool big, .int .i64 0, .slice none 0 0, .slice none 0 0, .slice none 0 0, .slice none 0 0, .slice none 0 0] 33 := At.set T0 0 (.bool big) (by simp)
  have k0 : ∀ c, w3.heap.size ≤ c → ((x4).setCell ⟨w1.heap.size, 0, none⟩ (.bool big)).heap[c]? = x4.heap[c]? := fun c hc => (heap_setCell_lt (x4) w1.heap.size 0 c _ (by have := HL.out; omega))
  have u1 : ((x4).setCell ⟨w1.heap.size, 0, none⟩ (.bool big)).cell? ⟨w1.heap.size, 1, none⟩ = some (.int .i64 0) := T1.cell 1 rfl
  have g1 := At.free T1 1
  have T2 : At (((x4).setCell ⟨w1.heap.size, 0, none⟩ (.bool big)).setCell ⟨w1.heap.size, 1, none⟩ (.int .i64 ptr)) w1.heap.size #[.bool big, .int .i64 ptr, .slice none 0 0, .slice none 0 0, .slice none 0 0, .slice none 0 0, .slice none 0 0] 33 := At.set T1 1 (.int .i64 ptr) (by simp)
  have k1 : ∀ c, w3.heap.size ≤ c → (((x4).setCell ⟨w1.heap.size, 0, none⟩ (.bool big)).setCell ⟨w1.heap.size, 1, none⟩ (.int .i64 ptr)).heap[c]? = x4.heap[c]? := fun c hc => (heap_setCell_lt ((x4).setCell ⟨w1.heap.size, 0, none⟩ (.bool big)) w1.heap.size 1 c _ (by have := HL.out; omega)).trans (k0 c hc)
  have u2 : (((x4).setCell ⟨w1.heap.size, 0, none⟩ (.bool big)).setCell ⟨w1.heap.size, 1, none⟩ (.int .i64 ptr)).cell? ⟨w1.heap.size, 2, none⟩ = some (.slice none 0 0) := T2.cell 2 rfl
  have g2 := At.free T2 2
  have T3 : At ((((x4).setCell ⟨w1.heap.size, 0, none⟩ (.bool big)).setCell ⟨w1.heap.size, 1, none⟩ (.int .i64 ptr)).setCell ⟨w1.heap.size, 2, none⟩ (.slice pV V.length kV)) w1.heap.size #[.bool big, .int .i64 ptr, .slice pV V.length kV, .slice none 0 0, .slice none 0 0, .slice none 0 0, .slice none 0 0] 33 := At.set T2 2 (.slice pV V.length kV) (by simp)
  have k2 : ∀ c, w3.heap.size ≤ c → ((((x4).setCell ⟨w1.heap.size, 0, none⟩ (.bool big)).setCell ⟨w1.heap.size, 1, none⟩ (.int .i64 ptr)).setCell ⟨w1.heap.size, 2, none⟩ (.slice pV V.length kV)).heap[c]? = x4.heap[c]? := fun c hc => (heap_setCell_lt (((x4).setCell ⟨w1.heap.size, 0, none⟩ (.bool big)).setCell ⟨w1.heap.size, 1, none⟩ (.int .i64 ptr)) w1.heap.size 2 c _ (by have := HL.out; omega)).trans (k1 c hc)
  have u3 : ((((x4).setCell ⟨w1.heap.size, 0, none⟩ (.bool big)).setCell ⟨w1.heap.size, 1, none⟩ (.int .i64 ptr)).setCell ⟨w1.heap.size, 2, none⟩ (.slice pV V.length kV)).cell? ⟨w1.heap.size, 3, none⟩ = some (.slice none 0 0) := T3.cell 3 rfl
  have g3 := At.free T3 3
  have T4 : At (((((x4).setCell ⟨w1.heap.size, 0, none⟩ (.bool big)).setCell ⟨w1.heap.size, 1, none⟩ (.int .i64 ptr)).setCell ⟨w1.heap.size, 2, none⟩ (.slice pV V.length kV)).setCell ⟨w1.heap.size, 3, none⟩ (.slice pN N.length kN)) w1.heap.size #[.bool big, .int .i64 ptr, .slice pV V.length kV, .slice pN N.length kN, .slice none 0 0, .slice none 0 0, .slice none 0 0] 33 := At.set T3 3 (.slice pN N.length kN) (by simp)
  have k3 : ∀ c, w3.heap.size ≤ c → (((((x4).setCell ⟨w1.heap.size, 0, none⟩ (.bool big)).setCell ⟨w1.heap.size, 1, none⟩ (.int .i64 ptr)).setCell ⟨w1.heap.size, 2, none⟩ (.slice pV V.length kV)).setCell ⟨w1.heap.size, 3, none⟩ (.slice pN N.length kN)).heap[c]? = x4.heap[c]? := fun c hc => (heap_setCell_lt ((((x4).setCell ⟨w1.heap.size, 0, none⟩ (.bool big)).setCell ⟨w1.heap.size, 1, none⟩ (.int .i64 ptr)).setCell ⟨w1.heap.size, 2, none⟩ (.slice pV V.length kV)) w1.heap.size 3 c _ (by have := HL.out; omega)).trans (k2 c hc)
  have u4 : (((((x4).setCell ⟨w1.heap.size, 0, none⟩ (.bool big)).setCell ⟨w1.heap.size, 1, none⟩ (.int .i64 ptr)).setCell ⟨w1.heap.size, 2, none⟩ (.slice pV V.length kV)).setCell ⟨w1.heap.size, 3, none⟩ (.slice pN N.length kN)).cell? ⟨w1.heap.size, 4, none⟩ = some (.slice none 0 0) := T4.cell 4 rfl
  have g4 := At.free T4 4
  have T5 : At ((((((x4).setCell ⟨w1.heap.size, 0, none⟩ (.bool big)).setCell ⟨w1.heap.size, 1, none⟩ (.int .i64 ptr)).setCell ⟨w1.heap.size, 2, none⟩ (.slice pV V.length kV)).setCell ⟨w1.heap.size, 3, none⟩ (.slice pN N.length kN)).setCell ⟨w1.heap.size, 4, none⟩ (.slice pE E.length kE)) w1.heap.size #[.bool big, .int .i64 ptr, .slice pV V.length kV, .slice pN N.length kN, .slice pE E.length kE, .slice none 0 0, .slice none 0 0] 33 := At.set T4 4 (.slice pE E.length kE) (by simp)
  have k4 : ∀ c, w3.heap.size ≤ c → ((((((x4).setCell ⟨w1.heap.size, 0, none⟩ (.bool big)).setCell ⟨w1.heap.size, 1, none⟩ (.int .i64 ptr)).setCell ⟨w1.heap.size, 2, none⟩ (.slice pV V.length kV)).setCell ⟨w1.heap.size, 3, none⟩ (.slice pN N.length kN)).setCell ⟨w1.heap.size, 4, none⟩ (.slice pE E.length kE)).heap[c]? = x4.heap[c]? := fun c hc => (heap_setCell_lt (((((x4).setCell ⟨w1.heap.size, 0, none⟩ (.bool big)).setCell ⟨w1.heap.size, 1, none⟩ (.int .i64 ptr)).setCell ⟨w1.heap.size, 2, none⟩ (.slice pV V.length kV)).setCell ⟨w1.heap.size, 3, none⟩ (.slice pN N.length kN)) w1.heap.size 4 c _ (by have := HL.out; omega)).trans (k3 c hc)
  have u5 : ((((((x4).setCell ⟨w1.heap.size, 0, none⟩ (.bool big)).setCell ⟨w1.heap.size, 1, none⟩ (.int .i64 ptr)).setCell ⟨w1.heap.size, 2, none⟩ (.slice pV V.length kV)).setCell ⟨w1.heap.size, 3, none⟩ (.slice pN N.length kN)).setCell ⟨w1.heap.size, 4, none⟩ (.slice pE E.length kE)).cell? ⟨w1.heap.size, 5, none⟩ = some (.slice none 0 0) := T5.cell 5 rfl
  have g5 := At.free T5 5
  have T6 : At (((((((x4).setCell ⟨w1.heap.size, 0, none⟩ (.bool big)).setCell ⟨w1.heap.size, 1, none⟩ (.int .i64 ptr)).setCell ⟨w1.heap.size, 2, none⟩ (.slice pV V.length kV)).setCell ⟨w1.heap.size, 3, none⟩ (.slice pN N.length kN)).setCell ⟨w1.heap.size, 4, none⟩ (.slice pE E.length kE)).setCell ⟨w1.heap.size, 5, none⟩ (.slice pS S.length kS)) w1.heap.size #[.bool big, .int .i64 ptr, .slice pV V.length kV, .slice pN N.length kN, .slice pE E.length kE, .slice pS S.length kS, .slice none 0 0] 33 := At.set T5 5 (.slice pS S.length kS) (by simp)
  have k5 : ∀ c, w3.heap.size ≤ c → (((((((x4).setCell ⟨w1.heap.size, 0, none⟩ (.bool big)).setCell ⟨w1.heap.size, 1, none⟩ (.int .i64 ptr)).setCell ⟨w1.heap.size, 2, none⟩ (.slice pV V.length kV)).setCell ⟨w1.heap.size, 3, none⟩ (.slice pN N.length kN)).setCell ⟨w1.heap.size, 4, none⟩ (.slice pE E.length kE)).setCell ⟨w1.heap.size, 5, none⟩ (.slice pS S.length kS)).heap[c]? = x4.heap[c]? := fun c hc => (heap_setCell_lt ((((((x4).setCell ⟨w1.heap.size, 0, none⟩ (.bool big)).setCell ⟨w1.heap.size, 1, none⟩ (.int .i64 ptr)).setCell ⟨w1.heap.size, 2, none⟩ (.slice pV V.length kV)).setCell ⟨w1.heap.size, 3, none⟩ (.slice pN N.length kN)).setCell ⟨w1.heap.size, 4, none⟩ (.slice pE E.length kE)) w1.heap.size 5 c _ (by have := HL.out; omega)).trans (k4 c hc)
  have u6 : (((((((x4).setCell ⟨w1.heap.size, 0, none⟩ (.bool big)).setCell ⟨w1.heap.size, 1, none⟩ (.int .i64 ptr)).setCell ⟨w1.heap.size, 2, none⟩ (.slice pV V.length kV)).setCell ⟨w1.heap.size, 3, none⟩ (.slice pN N.length kN)).setCell ⟨w1.heap.size, 4, none⟩ (.slice pE E.length kE)).setCell ⟨w1.heap.size, 5, none⟩ (.slice pS S.length kS)).cell? ⟨w1.heap.size, 6, none⟩ = some (.slice none 0 0) := T6.cell 6 rfl
  have g6 := At.free T6 6
  have T7 : At ((((((((x4).setCell ⟨w1.heap.size, 0, none⟩ (.bool big)).setCell ⟨w1.heap.size, 1, none⟩ (.int .i64 ptr)).setCell ⟨w1.heap.size, 2, none⟩ (.slice pV V.length kV)).setCell ⟨w1.heap.size, 3, none⟩ (.slice pN N.length kN)).setCell ⟨w1.heap.size, 4, none⟩ (.slice pE E.length kE)).setCell ⟨w1.heap.size, 5, none⟩ (.slice pS S.length kS)).setCell ⟨w1.heap.size, 6, none⟩ (.slice pM M.length kM)) w1.heap.size #[.bool big, .int .i64 ptr, .slice pV V.length kV, .slice pN N.length kN, .slice pE E.length kE, .slice pS S.length kS, .slice pM M.length kM] 33 := At.set T6 6 (.slice pM M.length kM) (by simp)
  have k6 : ∀ c, w3.heap.size ≤ c → ((((((((x4).setCell ⟨w1.heap.size, 0, none⟩ (.bool big)).setCell ⟨w1.heap.size, 1, none⟩ (.int .i64 ptr)).setCell ⟨w1.heap.size, 2, none⟩ (.slice pV V.length kV)).setCell ⟨w1.heap.size, 3, none⟩ (.slice pN N.length kN)).setCell ⟨w1.heap.size, 4, none⟩ (.slice pE E.length kE)).setCell ⟨w1.heap.size, 5, none⟩ (.slice pS S.length kS)).setCell ⟨w1.heap.size, 6, none⟩ (.slice pM M.length kM)).heap[c]? = x4.heap[c]? := fun c hc => (heap_setCell_lt (((((((x4).setCell ⟨w1.heap.size, 0, none⟩ (.bool big)).setCell ⟨w1.heap.size, 1, none⟩ (.int .i64 ptr)).setCell ⟨w1.heap.size, 2, none⟩ (.slice pV V.length kV)).setCell ⟨w1.heap.size, 3, none⟩ (.slice pN N.length kN)).setCell ⟨w1.heap.size, 4, none⟩ (.slice pE E.length kE)).setCell ⟨w1.heap.size, 5, none⟩ (.slice pS S.length kS)) w1.heap.size 6 c _ (by have := HL.out; omega)).trans (k5 c hc)
  have b8 : Below w1.heap.size w3 ((((((((x4).setCell ⟨w1.heap.size, 0, none⟩ (.bool big)).setCell ⟨w1.heap.size, 1, none⟩ (.int .i64 ptr)).setCell ⟨w1.heap.size, 2, none⟩ (.slice pV V.length kV)).setCell ⟨w1.heap.size, 3, none⟩ (.slice pN N.length kN)).setCell ⟨w1.heap.size, 4, none⟩ (.slice pE E.length kE)).setCell ⟨w1.heap.size, 5, none⟩ (.slice pS S.length kS)).setCell ⟨w1.heap.size, 6, none⟩ (.slice pM M.length kM)) := ((((((((HF.out.mono (Nat.le_of_lt HL.out.2.1)).setCell (p := ⟨w1.heap.size, 0, none⟩) (Nat.le_refl _) (.bool big)).setCell (p := ⟨w1.heap.size, 1, none⟩) (Nat.le_refl _) (.int .i64 ptr)).setCell (p := ⟨w1.heap.size, 2, none⟩) (Nat.le_refl _) (.slice pV V.length kV)).setCell (p := ⟨w1.heap.size, 3, none⟩) (Nat.le_refl _) (.slice pN N.length kN)).setCell (p := ⟨w1.heap.size, 4, none⟩) (Nat.le_refl _) (.slice pE E.length kE)).setCell (p := ⟨w1.heap.size, 5, none⟩) (Nat.le_refl _) (.slice pS S.length kS)).setCell (p := ⟨w1.heap.size, 6, none⟩) (Nat.le_refl _) (.slice pM M.length kM))
  have zV := rowZ_other HZ.out.1 k6
  have zN := rowZ_other HZ.out.2.1 k6
  have zE := rowE_other HZ.out.2.2.1 k6
  have zS := rowS_other HZ.out.2.2.2.1 k6
  have zM := rowZ_other HZ.out.2.2.2.2 k6
  clear k0 k1 k2 k3 k4 k5 k6 HZ HF HI T0 T1 T2 T3 T4 T5 T6
  go_wp2_with fail
  obtain ⟨w8, hw8⟩ : ∃ w8, (((((((x4).setCell ⟨w1.heap.size, 0, none⟩ (.bool big)).setCell ⟨w1.heap.size, 1, none⟩ (.int .i64 ptr)).setCell ⟨w1.heap.size, 2, none⟩ (.slice pV V.length kV)).setCell ⟨w1.heap.size, 3, none⟩ (.slice pN N.length kN)).setCell ⟨w1.heap.size, 4, none⟩ (.slice pE E.length kE)).setCell ⟨w1.heap.size, 5, none⟩ (.slice pS S.length kS)).setCell ⟨w1.heap.size, 6, none⟩ (.slice pM M.length kM) = w8 := ⟨_, rfl⟩
  rw [hw8] at T7 zV zN zE zS zM b8
  rw [hw8]
  clear hw8 u0 u1 u2 u3 u4 u5 u6 g0 g1 g2 g3 g4 g5 g6
  have r0 : w8.cell? ⟨w1.heap.size, 0, none⟩ = some (.bool big) := T7.cell 0 rfl
  have r1 : w8.cell? ⟨w1.heap.size, 1, none⟩ = some (.int .i64 ptr) := T7.cell 1 rfl
  have r2 : w8.cell? ⟨w1.heap.size, 2, none⟩ = some (.slice pV V.length kV) := T7.cell 2 rfl
  have r3 : w8.cell? ⟨w1.heap.size, 3, none⟩ = some (.slice pN N.length kN) := T7.cell 3 rfl
  have r4 : w8.cell? ⟨w1.heap.size, 4, none⟩ = some (.slice pE E.length kE) := T7.cell 4 rfl
  have r5 : w8.cell? ⟨w1.heap.size, 5, none⟩ = some (.slice pS S.length kS) := T7.cell 5 rfl
  have r6 : w8.cell? ⟨w1.heap.size, 6, none⟩ = some (.slice pM M.length kM) := T7.cell 6 rfl
  have hsz := HB.out.size
  have hl := HL.out
  refine bodyPost_ret (v := .agg #[.bool big, .int .i64 ptr, .slice pV V.length kV, .slice pN N.length kN, .slice pE E.length kE, .slice pS S.length kS, .slice pM M.length kM]) ?_ rfl ⟨_, _, _, _, _, rfl, rowZ_mono zV hsz, rowZ_mono zN hsz, rowE_mono zE hsz, rowS_mono zS hsz, rowZ_mono zM hsz, HB.out.trans (b8.mono (Nat.le_of_lt hl.1))⟩
  simp [results, Tryz.results6, go_sem, r0, r1, r2, r3, r4, r5, r6]
end Go.Proofs.YtncdbjflfhfddaaGreat
