/- A statement copied. -/
import Derived.Test.YtncdbjflfhfddaaGreatGCp
namespace Go.Proofs.YtncdbjflfhfddaaGreat
open Go.ChangeShapes Go.WideShapes Go.ChangeAt Go.RowKit Go.Joins Go.Deep
set_option linter.unusedVariables false

theorem ownsRow_other {w w' : World} {base e size : Nat} {v : Value} {n : Nat} {xs : List Value} (h : w.ownsRow base e size v n xs) (hb : ∀ c, base ≤ c → w'.heap[c]? = w.heap[c]?) : w'.ownsRow base e size v n xs := by
  obtain ⟨hl, ⟨h0, h1⟩ | ⟨g, cap, cur, he, hbb, hg, hn, hm, hc, hx⟩⟩ := h
  · exact ⟨hl, Or.inl ⟨h0, h1⟩⟩
  · exact ⟨hl, Or.inr ⟨g, cap, cur, he, hbb, (hb g hbb).trans hg, hn, hm, hc, hx⟩⟩
theorem ownsRow_mono {w : World} {base base' e size : Nat} {v : Value} {n : Nat} {xs : List Value} (h : w.ownsRow base e size v n xs) (hb : base' ≤ base) : w.ownsRow base' e size v n xs := by
  obtain ⟨hl, ⟨h0, h1⟩ | ⟨g, cap, cur, he, hbb, hg, hn, hm, hc, hx⟩⟩ := h
  · exact ⟨hl, Or.inl ⟨h0, h1⟩⟩
  · exact ⟨hl, Or.inr ⟨g, cap, cur, he, Nat.le_trans hb hbb, hg, hn, hm, hc, hx⟩⟩
def CopySt (bd el : List Int) (op tt k e n : Int) (w : World) (ed : Ending) (w' : World) : Prop :=
  ∃ vb ve, ed = .returned (.agg #[.int .i64 op, .int .i64 tt, .int .i64 k, .int .i64 e, .int .i64 n, vb, ve]) ∧ RowZ w.heap.size bd vb w' ∧ RowZ w.heap.size el ve w' ∧ Below w.heap.size w w'
set_option maxRecDepth 100000 in
set_option maxHeartbeats 3200000 in
theorem copyStmt_any (op tt k e n : Int) (vb ve : Value) (bd el : List Int) (hbl : bd.length ≤ 100000) (hel : el.length ≤ 100000) (w : World) (hb : IsIs w vb bd) (he : IsIs w ve el) :
    Calls Tryz.prog 35 #[.agg #[.int .i64 op, .int .i64 tt, .int .i64 k, .int .i64 e, .int .i64 n, vb, ve]] w (CopySt bd el op tt k e n w) := by
  obtain ⟨qb, cb, rfl, _⟩ := id hb
  obtain ⟨qe, ce, rfl, _⟩ := id he
  have hb1 := below_box1 w (.cells #[.int .i64 op, .int .i64 tt, .int .i64 k, .int .i64 e, .int .i64 n, .slice qb bd.length cb, .slice qe el.length ce] 53)
  have hA1 := At.new w #[.int .i64 op, .int .i64 tt, .int .i64 k, .int .i64 e, .int .i64 n, .slice qb bd.length cb, .slice qe el.length ce] 53
  obtain ⟨w1, hw1⟩ : ∃ w1, w.alloc (.cells #[.int .i64 op, .int .i64 tt, .int .i64 k, .int .i64 e, .int .i64 n, .slice qb bd.length cb, .slice qe el.length ce] 53) = w1 := ⟨_, rfl⟩
  rw [hw1] at hb1 hA1
  have hb2 := below_box1 w1 (.cells #[.int .i64 0, .int .i64 0, .int .i64 0, .int .i64 0, .int .i64 0, .slice none 0 0, .slice none 0 0] 53)
  have hA2 := At.new w1 #[.int .i64 0, .int .i64 0, .int .i64 0, .int .i64 0, .int .i64 0, .slice none 0 0, .slice none 0 0] 53
  obtain ⟨w2, hw2⟩ : ∃ w2, w1.alloc (.cells #[.int .i64 0, .int .i64 0, .int .i64 0, .int .i64 0, .int .i64 0, .slice none 0 0, .slice none 0 0] 53) = w2 := ⟨_, rfl⟩
  rw [hw2] at hb2 hA2
  have hb3 := below_box1 w2 (.cells #[.int .i64 op, .int .i64 tt, .int .i64 k, .int .i64 e, .int .i64 n, .slice qb bd.length cb, .slice qe el.length ce] 53)
  have hA3 := At.new w2 #[.int .i64 op, .int .i64 tt, .int .i64 k, .int .i64 e, .int .i64 n, .slice qb bd.length cb, .slice qe el.length ce] 53
  obtain ⟨w3, hw3⟩ : ∃ w3, w2.alloc (.cells #[.int .i64 op, .int .i64 tt, .int .i64 k, .int .i64 e, .int .i64 n, .slice qb bd.length cb, .slice qe el.length ce] 53) = w3 := ⟨_, rfl⟩
  rw [hw3] at hb3 hA3
  have hA1' := At.below' hb2 hA1
  have s0 : w2.cell? ⟨w.heap.size, 0, none⟩ = some (.int .i64 op) := hA1'.cell 0 rfl
  have s1 : w2.cell? ⟨w.heap.size, 1, none⟩ = some (.int .i64 tt) := hA1'.cell 1 rfl
  have s2 : w2.cell? ⟨w.heap.size, 2, none⟩ = some (.int .i64 k) := hA1'.cell 2 rfl
  have s3 : w2.cell? ⟨w.heap.size, 3, none⟩ = some (.int .i64 e) := hA1'.cell 3 rfl
  have s4 : w2.cell? ⟨w.heap.size, 4, none⟩ = some (.int .i64 n) := hA1'.cell 4 rfl
  have s5 : w2.cell? ⟨w.heap.size, 5, none⟩ = some (.slice qb bd.length cb) := hA1'.cell 5 rfl
  have s6 : w2.cell? ⟨w.heap.size, 6, none⟩ = some (.slice qe el.length ce) := hA1'.cell 6 rfl
  have hb13 := hb1.trans ((hb2.trans (hb3.mono hb2.size)).mono hb1.size)
  have hA13 := At.below' hb3 hA1'
  have hA23 := At.below' hb3 hA2
  have l12 : w.heap.size < w1.heap.size := hA1.lt
  have l23 : w1.heap.size < w2.heap.size := hA2.lt
  have l34 : w2.heap.size < w3.heap.size := hA3.lt
  have cB := copyNums_any _ bd hbl w3 (hb.below hb13)
  have cE := fun w4 (hb4 : Below w3.heap.size w3 w4) => copyNums_any _ el hel w4 (he.below (hb13.trans (hb4.mono hb13.size)))
  unfold CopyZ at cB cE
  have HE := Lib.hid he
  have HA := Lib.hid (And.intro hA13 (And.intro hA23 hA3))
  have HB := Lib.hid hb13
  have HL := Lib.hid (And.intro l12 (And.intro l23 l34))
  clear hb he hA1 hA2 hA1' hb1 hb2 hb3 hA13 hA23 hA3 hb13 l12 l23 l34
  go_enter Tryz.func35, Tryz.ntmps35
  go_upto_region 2 with (fail)
  clear hw1 hw2 hw3 s0 s1 s2 s3 s4 s5 s6
  have x5 : w3.cell? ⟨w.heap.size, 5, none⟩ = some (.slice qb bd.length cb) := HA.out.1.cell 5 rfl
  go_wp2_with fail
  refine cB.mono ?_
  rintro ed w4 ⟨v4, rfl, z4, b4⟩
  have A3 := At.below' b4 HA.out.2.2
  have A1 := At.below' b4 HA.out.1
  have y5 : w4.cell? ⟨w2.heap.size, 5, none⟩ = some (.slice qb bd.length cb) := A3.cell 5 rfl
  have y6 := At.free A3 5
  obtain ⟨q4, c4, rfl⟩ := z4.form
  have f5 : ∀ c, w3.heap.size ≤ c → (w4.setCell ⟨w2.heap.size, 5, none⟩ (.slice q4 bd.length c4)).heap[c]? = w4.heap[c]? := fun c hc => heap_setCell_lt w4 w2.heap.size 5 c _ (by have := HL.out.2.2; omega)
  have A35 := At.set A3 5 (.slice q4 bd.length c4) (by simp)
  have A15 := (heap_setCell_lt w4 w2.heap.size 5 w.heap.size (.slice q4 bd.length c4) (by have := HL.out; omega)).trans (show w4.heap[w.heap.size]? = _ from A1)
  have A25 := (heap_setCell_lt w4 w2.heap.size 5 w1.heap.size (.slice q4 bd.length c4) (by have := HL.out; omega)).trans (show w4.heap[w1.heap.size]? = _ from (At.below' b4 HA.out.2.1))
  have z5 := ownsRow_other z4 f5
  have b5 : Below w2.heap.size w3 (w4.setCell ⟨w2.heap.size, 5, none⟩ (.slice q4 bd.length c4)) := (b4.mono (Nat.le_of_lt HL.out.2.2)).setCell (p := ⟨w2.heap.size, 5, none⟩) (Nat.le_refl _) _
  clear x5 cB A1 A3 z4 f5
  go_upto_region 3 with (fail)
  obtain ⟨w5, hw5⟩ : ∃ w5, w4.setCell ⟨w2.heap.size, 5, none⟩ (.slice q4 bd.length c4) = w5 := ⟨_, rfl⟩
  rw [hw5] at A35 A15 A25 z5 b5
  rw [hw5]
  clear hw5 y5 y6 b4
  replace A15 : At w5 w.heap.size _ _ := A15
  replace A25 : At w5 w1.heap.size _ _ := A25
  have cE2 := copyNums_any _ el hel w5 (show IsIs w5 (.slice qe el.length ce) el from HE.out.below (HB.out.trans (b5.mono (by have := HB.out.size; have := HL.out; omega))))
  unfold CopyZ at cE2
  have x6 : w5.cell? ⟨w.heap.size, 6, none⟩ = some (.slice qe el.length ce) := A15.cell 6 rfl
  clear cE
  go_wp2_with fail
  refine cE2.mono ?_
  rintro ed w6 ⟨v6, rfl, z6, b6⟩
  obtain ⟨q6, c6, rfl⟩ := z6.form
  have A36 := At.below' b6 A35
  have A26 := At.below' b6 A25
  have hs5 : w3.heap.size ≤ w5.heap.size := b5.size
  have z56 := ownsRow_belowG z5 b6
  have z66 := ownsRow_mono z6 hs5
  have y5 : w6.cell? ⟨w2.heap.size, 6, none⟩ = some (.slice qe el.length ce) := A36.cell 6 rfl
  have y6 := At.free A36 6
  have f6 : ∀ c, w3.heap.size ≤ c → (w6.setCell ⟨w2.heap.size, 6, none⟩ (.slice q6 el.length c6)).heap[c]? = w6.heap[c]? := fun c hc => heap_setCell_lt w6 w2.heap.size 6 c _ (by have := HL.out.2.2; omega)
  have A37 := At.set A36 6 (.slice q6 el.length c6) (by simp)
  have A27 := (heap_setCell_lt w6 w2.heap.size 6 w1.heap.size (.slice q6 el.length c6) (by have := HL.out; omega)).trans (show w6.heap[w1.heap.size]? = _ from A26)
  have z57 := ownsRow_other z56 f6
  have z67 := ownsRow_other z66 f6
  have b7 : Below w2.heap.size w3 (w6.setCell ⟨w2.heap.size, 6, none⟩ (.slice q6 el.length c6)) := (b5.trans (b6.mono (by have := HL.out; omega))).setCell (p := ⟨w2.heap.size, 6, none⟩) (Nat.le_refl _) _
  clear cE2 A35 A15 A25 z5 b5 x6 z6 z56 z66 A36 A26 f6
  go_upto_region 4 with (fail)
  obtain ⟨w7, hw7⟩ : ∃ w7, w6.setCell ⟨w2.heap.size, 6, none⟩ (.slice q6 el.length c6) = w7 := ⟨_, rfl⟩
  rw [hw7] at A37 A27 z57 z67 b7
  rw [hw7]
  clear hw7 y5 y6 b6
  replace A27 : At w7 w1.heap.size _ _ := A27
  have d0 : w7.cell? ⟨w2.heap.size, 0, none⟩ = some (.int .i64 op) := A37.cell 0 rfl
  have d1 : w7.cell? ⟨w2.heap.size, 1, none⟩ = some (.int .i64 tt) := A37.cell 1 rfl
  have d2 : w7.cell? ⟨w2.heap.size, 2, none⟩ = some (.int .i64 k) := A37.cell 2 rfl
  have d3 : w7.cell? ⟨w2.heap.size, 3, none⟩ = some (.int .i64 e) := A37.cell 3 rfl
  have d4 : w7.cell? ⟨w2.heap.size, 4, none⟩ = some (.int .i64 n) := A37.cell 4 rfl
  have d5 : w7.cell? ⟨w2.heap.size, 5, none⟩ = some (.slice q4 bd.length c4) := A37.cell 5 rfl
  have d6 : w7.cell? ⟨w2.heap.size, 6, none⟩ = some (.slice q6 el.length c6) := A37.cell 6 rfl
  have HZ := Lib.hid (And.intro z57 z67)
  have HF := Lib.hid b7
  have T0 : At w7 w1.heap.size #[.int .i64 0, .int .i64 0, .int .i64 0, .int .i64 0, .int .i64 0, .slice none 0 0, .slice none 0 0] 53 := A27
  clear z57 z67 b7 A37 A27
  have u0 : (w7).cell? ⟨w1.heap.size, 0, none⟩ = some (.int .i64 0) := T0.cell 0 rfl
  have g0 := At.free T0 0
  have T1 : At (w7.setCell ⟨w1.heap.size, 0, none⟩ (.int .i64 op)) w1.heap.size #[.int .i64 op, .int .i64 0, .int .i64 0, .int .i64 0, .int .i64 0, .slice none 0 0, .slice none 0 0] 53 := At.set T0 0 (.int .i64 op) (by simp)
  have u1 : (w7.setCell ⟨w1.heap.size, 0, none⟩ (.int .i64 op)).cell? ⟨w1.heap.size, 1, none⟩ = some (.int .i64 0) := T1.cell 1 rfl
  have g1 := At.free T1 1
  have T2 : At ((w7.setCell ⟨w1.heap.size, 0, none⟩ (.int .i64 op)).setCell ⟨w1.heap.size, 1, none⟩ (.int .i64 tt)) w1.heap.size #[.int .i64 op, .int .i64 tt, .int .i64 0, .int .i64 0, .int .i64 0, .slice none 0 0, .slice none 0 0] 53 := At.set T1 1 (.int .i64 tt) (by simp)
  have u2 : ((w7.setCell ⟨w1.heap.size, 0, none⟩ (.int .i64 op)).setCell ⟨w1.heap.size, 1, none⟩ (.int .i64 tt)).cell? ⟨w1.heap.size, 2, none⟩ = some (.int .i64 0) := T2.cell 2 rfl
  have g2 := At.free T2 2
  have T3 : At (((w7.setCell ⟨w1.heap.size, 0, none⟩ (.int .i64 op)).setCell ⟨w1.heap.size, 1, none⟩ (.int .i64 tt)).setCell ⟨w1.heap.size, 2, none⟩ (.int .i64 k)) w1.heap.size #[.int .i64 op, .int .i64 tt, .int .i64 k, .int .i64 0, .int .i64 0, .slice none 0 0, .slice none 0 0] 53 := At.set T2 2 (.int .i64 k) (by simp)
  have u3 : (((w7.setCell ⟨w1.heap.size, 0, none⟩ (.int .i64 op)).setCell ⟨w1.heap.size, 1, none⟩ (.int .i64 tt)).setCell ⟨w1.heap.size, 2, none⟩ (.int .i64 k)).cell? ⟨w1.heap.size, 3, none⟩ = some (.int .i64 0) := T3.cell 3 rfl
  have g3 := At.free T3 3
  have T4 : At ((((w7.setCell ⟨w1.heap.size, 0, none⟩ (.int .i64 op)).setCell ⟨w1.heap.size, 1, none⟩ (.int .i64 tt)).setCell ⟨w1.heap.size, 2, none⟩ (.int .i64 k)).setCell ⟨w1.heap.size, 3, none⟩ (.int .i64 e)) w1.heap.size #[.int .i64 op, .int .i64 tt, .int .i64 k, .int .i64 e, .int .i64 0, .slice none 0 0, .slice none 0 0] 53 := At.set T3 3 (.int .i64 e) (by simp)
  have u4 : ((((w7.setCell ⟨w1.heap.size, 0, none⟩ (.int .i64 op)).setCell ⟨w1.heap.size, 1, none⟩ (.int .i64 tt)).setCell ⟨w1.heap.size, 2, none⟩ (.int .i64 k)).setCell ⟨w1.heap.size, 3, none⟩ (.int .i64 e)).cell? ⟨w1.heap.size, 4, none⟩ = some (.int .i64 0) := T4.cell 4 rfl
  have g4 := At.free T4 4
  have T5 : At (((((w7.setCell ⟨w1.heap.size, 0, none⟩ (.int .i64 op)).setCell ⟨w1.heap.size, 1, none⟩ (.int .i64 tt)).setCell ⟨w1.heap.size, 2, none⟩ (.int .i64 k)).setCell ⟨w1.heap.size, 3, none⟩ (.int .i64 e)).setCell ⟨w1.heap.size, 4, none⟩ (.int .i64 n)) w1.heap.size #[.int .i64 op, .int .i64 tt, .int .i64 k, .int .i64 e, .int .i64 n, .slice none 0 0, .slice none 0 0] 53 := At.set T4 4 (.int .i64 n) (by simp)
  have u5 : (((((w7.setCell ⟨w1.heap.size, 0, none⟩ (.int .i64 op)).setCell ⟨w1.heap.size, 1, none⟩ (.int .i64 tt)).setCell ⟨w1.heap.size, 2, none⟩ (.int .i64 k)).setCell ⟨w1.heap.size, 3, none⟩ (.int .i64 e)).setCell ⟨w1.heap.size, 4, none⟩ (.int .i64 n)).cell? ⟨w1.heap.size, 5, none⟩ = some (.slice none 0 0) := T5.cell 5 rfl
  have g5 := At.free T5 5
  have T6 : At ((((((w7.setCell ⟨w1.heap.size, 0, none⟩ (.int .i64 op)).setCell ⟨w1.heap.size, 1, none⟩ (.int .i64 tt)).setCell ⟨w1.heap.size, 2, none⟩ (.int .i64 k)).setCell ⟨w1.heap.size, 3, none⟩ (.int .i64 e)).setCell ⟨w1.heap.size, 4, none⟩ (.int .i64 n)).setCell ⟨w1.heap.size, 5, none⟩ (.slice q4 bd.length c4)) w1.heap.size #[.int .i64 op, .int .i64 tt, .int .i64 k, .int .i64 e, .int .i64 n, .slice q4 bd.length c4, .slice none 0 0] 53 := At.set T5 5 (.slice q4 bd.length c4) (by simp)
  have u6 : ((((((w7.setCell ⟨w1.heap.size, 0, none⟩ (.int .i64 op)).setCell ⟨w1.heap.size, 1, none⟩ (.int .i64 tt)).setCell ⟨w1.heap.size, 2, none⟩ (.int .i64 k)).setCell ⟨w1.heap.size, 3, none⟩ (.int .i64 e)).setCell ⟨w1.heap.size, 4, none⟩ (.int .i64 n)).setCell ⟨w1.heap.size, 5, none⟩ (.slice q4 bd.length c4)).cell? ⟨w1.heap.size, 6, none⟩ = some (.slice none 0 0) := T6.cell 6 rfl
  have g6 := At.free T6 6
  have T7 : At (((((((w7.setCell ⟨w1.heap.size, 0, none⟩ (.int .i64 op)).setCell ⟨w1.heap.size, 1, none⟩ (.int .i64 tt)).setCell ⟨w1.heap.size, 2, none⟩ (.int .i64 k)).setCell ⟨w1.heap.size, 3, none⟩ (.int .i64 e)).setCell ⟨w1.heap.size, 4, none⟩ (.int .i64 n)).setCell ⟨w1.heap.size, 5, none⟩ (.slice q4 bd.length c4)).setCell ⟨w1.heap.size, 6, none⟩ (.slice q6 el.length c6)) w1.heap.size #[.int .i64 op, .int .i64 tt, .int .i64 k, .int .i64 e, .int .i64 n, .slice q4 bd.length c4, .slice q6 el.length c6] 53 := At.set T6 6 (.slice q6 el.length c6) (by simp)
  clear T0 T1 T2 T3 T4 T5 T6
  have k0 : ∀ c, w3.heap.size ≤ c → ((w7).setCell ⟨w1.heap.size, 0, none⟩ (.int .i64 op)).heap[c]? = w7.heap[c]? := fun c hc => (heap_setCell_lt (w7) w1.heap.size 0 c _ (by have := HL.out; omega))
  have k1 : ∀ c, w3.heap.size ≤ c → (((w7).setCell ⟨w1.heap.size, 0, none⟩ (.int .i64 op)).setCell ⟨w1.heap.size, 1, none⟩ (.int .i64 tt)).heap[c]? = w7.heap[c]? := fun c hc => (heap_setCell_lt ((w7).setCell ⟨w1.heap.size, 0, none⟩ (.int .i64 op)) w1.heap.size 1 c _ (by have := HL.out; omega)).trans (k0 c hc)
  have k2 : ∀ c, w3.heap.size ≤ c → ((((w7).setCell ⟨w1.heap.size, 0, none⟩ (.int .i64 op)).setCell ⟨w1.heap.size, 1, none⟩ (.int .i64 tt)).setCell ⟨w1.heap.size, 2, none⟩ (.int .i64 k)).heap[c]? = w7.heap[c]? := fun c hc => (heap_setCell_lt (((w7).setCell ⟨w1.heap.size, 0, none⟩ (.int .i64 op)).setCell ⟨w1.heap.size, 1, none⟩ (.int .i64 tt)) w1.heap.size 2 c _ (by have := HL.out; omega)).trans (k1 c hc)
  have k3 : ∀ c, w3.heap.size ≤ c → (((((w7).setCell ⟨w1.heap.size, 0, none⟩ (.int .i64 op)).setCell ⟨w1.heap.size, 1, none⟩ (.int .i64 tt)).setCell ⟨w1.heap.size, 2, none⟩ (.int .i64 k)).setCell ⟨w1.heap.size, 3, none⟩ (.int .i64 e)).heap[c]? = w7.heap[c]? := fun c hc => (heap_setCell_lt ((((w7).setCell ⟨w1.heap.size, 0, none⟩ (.int .i64 op)).setCell ⟨w1.heap.size, 1, none⟩ (.int .i64 tt)).setCell ⟨w1.heap.size, 2, none⟩ (.int .i64 k)) w1.heap.size 3 c _ (by have := HL.out; omega)).trans (k2 c hc)
  have k4 : ∀ c, w3.heap.size ≤ c → ((((((w7).setCell ⟨w1.heap.size, 0, none⟩ (.int .i64 op)).setCell ⟨w1.heap.size, 1, none⟩ (.int .i64 tt)).setCell ⟨w1.heap.size, 2, none⟩ (.int .i64 k)).setCell ⟨w1.heap.size, 3, none⟩ (.int .i64 e)).setCell ⟨w1.heap.size, 4, none⟩ (.int .i64 n)).heap[c]? = w7.heap[c]? := fun c hc => (heap_setCell_lt (((((w7).setCell ⟨w1.heap.size, 0, none⟩ (.int .i64 op)).setCell ⟨w1.heap.size, 1, none⟩ (.int .i64 tt)).setCell ⟨w1.heap.size, 2, none⟩ (.int .i64 k)).setCell ⟨w1.heap.size, 3, none⟩ (.int .i64 e)) w1.heap.size 4 c _ (by have := HL.out; omega)).trans (k3 c hc)
  have k5 : ∀ c, w3.heap.size ≤ c → (((((((w7).setCell ⟨w1.heap.size, 0, none⟩ (.int .i64 op)).setCell ⟨w1.heap.size, 1, none⟩ (.int .i64 tt)).setCell ⟨w1.heap.size, 2, none⟩ (.int .i64 k)).setCell ⟨w1.heap.size, 3, none⟩ (.int .i64 e)).setCell ⟨w1.heap.size, 4, none⟩ (.int .i64 n)).setCell ⟨w1.heap.size, 5, none⟩ (.slice q4 bd.length c4)).heap[c]? = w7.heap[c]? := fun c hc => (heap_setCell_lt ((((((w7).setCell ⟨w1.heap.size, 0, none⟩ (.int .i64 op)).setCell ⟨w1.heap.size, 1, none⟩ (.int .i64 tt)).setCell ⟨w1.heap.size, 2, none⟩ (.int .i64 k)).setCell ⟨w1.heap.size, 3, none⟩ (.int .i64 e)).setCell ⟨w1.heap.size, 4, none⟩ (.int .i64 n)) w1.heap.size 5 c _ (by have := HL.out; omega)).trans (k4 c hc)
  have k6 : ∀ c, w3.heap.size ≤ c → ((((((((w7).setCell ⟨w1.heap.size, 0, none⟩ (.int .i64 op)).setCell ⟨w1.heap.size, 1, none⟩ (.int .i64 tt)).setCell ⟨w1.heap.size, 2, none⟩ (.int .i64 k)).setCell ⟨w1.heap.size, 3, none⟩ (.int .i64 e)).setCell ⟨w1.heap.size, 4, none⟩ (.int .i64 n)).setCell ⟨w1.heap.size, 5, none⟩ (.slice q4 bd.length c4)).setCell ⟨w1.heap.size, 6, none⟩ (.slice q6 el.length c6)).heap[c]? = w7.heap[c]? := fun c hc => (heap_setCell_lt (((((((w7).setCell ⟨w1.heap.size, 0, none⟩ (.int .i64 op)).setCell ⟨w1.heap.size, 1, none⟩ (.int .i64 tt)).setCell ⟨w1.heap.size, 2, none⟩ (.int .i64 k)).setCell ⟨w1.heap.size, 3, none⟩ (.int .i64 e)).setCell ⟨w1.heap.size, 4, none⟩ (.int .i64 n)).setCell ⟨w1.heap.size, 5, none⟩ (.slice q4 bd.length c4)) w1.heap.size 6 c _ (by have := HL.out; omega)).trans (k5 c hc)
  have b8 : Below w1.heap.size w3 ((((((((w7).setCell ⟨w1.heap.size, 0, none⟩ (.int .i64 op)).setCell ⟨w1.heap.size, 1, none⟩ (.int .i64 tt)).setCell ⟨w1.heap.size, 2, none⟩ (.int .i64 k)).setCell ⟨w1.heap.size, 3, none⟩ (.int .i64 e)).setCell ⟨w1.heap.size, 4, none⟩ (.int .i64 n)).setCell ⟨w1.heap.size, 5, none⟩ (.slice q4 bd.length c4)).setCell ⟨w1.heap.size, 6, none⟩ (.slice q6 el.length c6)) := ((((((((HF.out.mono (Nat.le_of_lt HL.out.2.1)).setCell (p := ⟨w1.heap.size, 0, none⟩) (Nat.le_refl _) (.int .i64 op)).setCell (p := ⟨w1.heap.size, 1, none⟩) (Nat.le_refl _) (.int .i64 tt)).setCell (p := ⟨w1.heap.size, 2, none⟩) (Nat.le_refl _) (.int .i64 k)).setCell (p := ⟨w1.heap.size, 3, none⟩) (Nat.le_refl _) (.int .i64 e)).setCell (p := ⟨w1.heap.size, 4, none⟩) (Nat.le_refl _) (.int .i64 n)).setCell (p := ⟨w1.heap.size, 5, none⟩) (Nat.le_refl _) (.slice q4 bd.length c4)).setCell (p := ⟨w1.heap.size, 6, none⟩) (Nat.le_refl _) (.slice q6 el.length c6))
  have zb := ownsRow_other HZ.out.1 k6
  have ze := ownsRow_other HZ.out.2 k6
  clear k0 k1 k2 k3 k4 k5 k6 HZ HF HE HA
  go_wp2_with fail
  obtain ⟨w8, hw8⟩ : ∃ w8, (((((((w7).setCell ⟨w1.heap.size, 0, none⟩ (.int .i64 op)).setCell ⟨w1.heap.size, 1, none⟩ (.int .i64 tt)).setCell ⟨w1.heap.size, 2, none⟩ (.int .i64 k)).setCell ⟨w1.heap.size, 3, none⟩ (.int .i64 e)).setCell ⟨w1.heap.size, 4, none⟩ (.int .i64 n)).setCell ⟨w1.heap.size, 5, none⟩ (.slice q4 bd.length c4)).setCell ⟨w1.heap.size, 6, none⟩ (.slice q6 el.length c6) = w8 := ⟨_, rfl⟩
  rw [hw8] at T7 zb ze b8
  rw [hw8]
  clear hw8 u0 u1 u2 u3 u4 u5 u6 g0 g1 g2 g3 g4 g5 g6
  have r0 : w8.cell? ⟨w1.heap.size, 0, none⟩ = some (.int .i64 op) := T7.cell 0 rfl
  have r1 : w8.cell? ⟨w1.heap.size, 1, none⟩ = some (.int .i64 tt) := T7.cell 1 rfl
  have r2 : w8.cell? ⟨w1.heap.size, 2, none⟩ = some (.int .i64 k) := T7.cell 2 rfl
  have r3 : w8.cell? ⟨w1.heap.size, 3, none⟩ = some (.int .i64 e) := T7.cell 3 rfl
  have r4 : w8.cell? ⟨w1.heap.size, 4, none⟩ = some (.int .i64 n) := T7.cell 4 rfl
  have r5 : w8.cell? ⟨w1.heap.size, 5, none⟩ = some (.slice q4 bd.length c4) := T7.cell 5 rfl
  have r6 : w8.cell? ⟨w1.heap.size, 6, none⟩ = some (.slice q6 el.length c6) := T7.cell 6 rfl
  have hsz := HB.out.size
  have hl := HL.out
  refine bodyPost_ret (v := .agg #[.int .i64 op, .int .i64 tt, .int .i64 k, .int .i64 e, .int .i64 n, .slice q4 bd.length c4, .slice q6 el.length c6]) ?_ rfl ⟨_, _, rfl, ownsRow_mono zb hsz, ownsRow_mono ze hsz, HB.out.trans (b8.mono (Nat.le_of_lt hl.1))⟩
  simp [results, Tryz.results35, go_sem, r0, r1, r2, r3, r4, r5, r6]
end Go.Proofs.YtncdbjflfhfddaaGreat
