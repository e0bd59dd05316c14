/- The document's Move; what Move tells. -/
import Derived.Test.YtcppmibeiilgbaaGreatKMove
import Derived.Test.YtcppmibeiilgbaaGreatKRLoad
import Derived.Test.YtcppmibeiilgbaaGreatKRReach
import Derived.Test.YtcppmibeiilgbaaGreatVQuiet
namespace Go.Proofs.YtcppmibeiilgbaaGreat
open Go.ChangeShapes Go.WideShapes Go.ChangeAt Go.RowKit Go.Joins Go.Deep
set_option linter.unusedVariables false

/-- where a pointer is moved to, and what goes wrong -/
def moveS (m : List BK) (p : SC) (n : Int) : SC × Int :=
  if (((atM m p).st == 1) || (p.b == 0 && n == 0)) then
    (if p.o + viewI n 32 < 0 ∨ ((atM m p).ys.length : Int) < p.o + viewI n 32 then (noS, 1) else (⟨p.p, p.n, p.b, p.o + viewI n 32⟩, 0))
  else (noS, 2)
def CanV (m : List BK) (p : SC) (n : Int) : Prop := isN n 32 ∧ hasM m p = true
theorem Move_all (q : Option Addr) (len cap : Nat) (m : List BK) (p : SC) (n : Int) : ∃ (R : SC) (bad ev : Int), (∀ w, IsMem w q len m → Calls Tryz.prog 9 #[.slice q len cap, scV p, .int .i64 n] w (LoadPost R bad ev w)) ∧
    ((CanV m p n ∧ ev = 0 ∧ moveS m p n = (R, bad)) ∨ (¬ CanV m p n ∧ ev = 1 ∧ R = noS ∧ bad = 0)) := by
  by_cases hn : isN n 32
  · cases hH : hasM m p
    · exact ⟨noS, 0, 1, fun w hx => Move_no2 q len cap m p n hn hH w hx, Or.inr ⟨(fun h => by (rw [h.2] at hH; cases hH)), rfl, rfl, rfl⟩⟩
    · cases hg : (((atM m p).st == 1) || (p.b == 0 && n == 0))
      · have e1 : ((atM m p).st == 1) = false := by revert hg; cases ((atM m p).st == 1) <;> simp
        have e2 : (p.b == 0 && n == 0) = false := by revert hg; cases (p.b == 0 && n == 0) <;> simp
        exact ⟨noS, 2, 0, fun w hx => Move_null q len cap m p n hn hH e1 e2 w hx, Or.inl ⟨⟨hn, hH⟩, rfl, by unfold moveS; rw [hg]; rfl⟩⟩
      · by_cases h1 : p.o + viewI n 32 < 0
        · exact ⟨noS, 1, 0, fun w hx => Move_neg q len cap m p n hn hH hg h1 w hx, Or.inl ⟨⟨hn, hH⟩, rfl, by unfold moveS; rw [hg, if_pos rfl, if_pos (Or.inl h1)]⟩⟩
        · by_cases h2 : ((atM m p).ys.length : Int) < p.o + viewI n 32
          · exact ⟨noS, 1, 0, fun w hx => Move_far q len cap m p n hn hH hg ⟨h1, h2⟩ w hx, Or.inl ⟨⟨hn, hH⟩, rfl, by unfold moveS; rw [hg, if_pos rfl, if_pos (Or.inr h2)]⟩⟩
          · exact ⟨⟨p.p, p.n, p.b, p.o + viewI n 32⟩, 0, 0, fun w hx => Move_ok q len cap m p n hn hH hg ⟨h1, h2⟩ w hx, Or.inl ⟨⟨hn, hH⟩, rfl, by unfold moveS; rw [hg, if_pos rfl, if_neg (by rintro (h | h); exact h1 h; exact h2 h)]⟩⟩
  · exact ⟨noS, 0, 1, fun w hx => Move_no1 q len cap m p n hn w hx, Or.inr ⟨fun h => hn h.1, rfl, rfl, rfl⟩⟩
theorem view_zero {n : Int} (hn : isN n 32) : (viewI n 32 == 0) = (n == 0) := by
  simp only [isN, Int.reduceToNat, Int.reducePow] at hn
  unfold viewI
  simp only [Int.reduceToNat, Int.reducePow, Nat.reduceSub]
  rw [Bool.eq_iff_iff, beq_iff_eq, beq_iff_eq]
  split <;> omega
theorem null_off {m : List BK} {p : SC} (h : hasM m p = true) (hb : p.b = 0) : p.o = 0 := by
  unfold hasM at h
  simp only [Bool.and_eq_true] at h
  have h2 := h.2.1
  unfold mayS at h2
  rw [if_pos rfl] at h2
  unfold mayP at h2
  rw [if_pos hb] at h2
  have := eqS_iff.1 h2
  rw [this]
set_option maxRecDepth 100000 in
set_option maxHeartbeats 6400000 in
theorem rMove_any (q : Option Addr) (len cap : Nat) (m : List BK) (p : SC) (n : Int) (hn : isN n 32) (hH : hasM m p = true) (w : World) (hx : IsMem w q len m) :
    Calls Tryz.prog 11 #[.slice q len cap, scV p, .int .i64 n] w (RLoadPost (moveS m p n).1 (moveS m p n).2 w) := by
  have cV := fun w => rView_any n 32 (by unfold isW; decide) hn w
  have hvz := view_zero hn
  have hv : -4294967296 ≤ viewI n 32 ∧ viewI n 32 ≤ 4294967296 := by simp only [isN, Int.reduceToNat, Int.reducePow] at hn; unfold viewI; simp only [Int.reduceToNat, Int.reducePow, Nat.reduceSub]; split <;> omega
  have ho := InM.off hH
  have hno := null_off hH
  obtain ⟨j, hj, hjl⟩ := InM.of hH
  have hjl2 : j < len := by rw [← hx.2.1]; exact hjl
  obtain ⟨b, off, rfl, hcell⟩ := at_cells hx hj hjl2
  have cN := fun a b w => Num_any a b w
  unfold moveS
  rw [← hvz]
  generalize viewI n 32 = v at *
  generalize atM m p = x at *
  obtain ⟨s, xq, xc, ys⟩ := x
  obtain ⟨p0, p1, p2, p3⟩ := p
  dsimp only at *
  subst hj
  rw [scV_eq]
  have hL : ys.length ≤ 1000 := hcell.2.2.1.1
  have hjl3 : (j : Int) < (len : Int) := by omega
  obtain ⟨c0, c1, _, _⟩ := hcell
  dsimp only at c0 c1
  have dP := At.alloc (At.new w #[.bool p0, .int .i64 p1, .int .i64 (j : Nat), .int .i64 p3] 35) (.cells #[.bool false, .int .i64 0, .int .i64 0, .int .i64 0] 35)
  have dS := At.new2 w (.cells #[.bool p0, .int .i64 p1, .int .i64 (j : Nat), .int .i64 p3] 35) #[.bool false, .int .i64 0, .int .i64 0, .int .i64 0] 35
  have hb0 := below_box2 w (.cells #[.bool p0, .int .i64 p1, .int .i64 (j : Nat), .int .i64 p3] 35) (.cells #[.bool false, .int .i64 0, .int .i64 0, .int .i64 0] 35)
  have C0 := cell_below c0 hb0
  have C1 := cell_below c1 hb0
  clear hx hn hH hjl hvz c0 c1
  generalize ys.length = Ly at *
  have z0 := dP.cell 0 rfl
  have z1 := dP.cell 1 rfl
  have z2 := dP.cell 2 rfl
  have z3 := dP.cell 3 rfl
  cases hz : ((j : Int) == 0 && v == 0)
  · have hcase : ((j : Int) == 0) = false ∨ (((j : Int) == 0) = true ∧ (v == 0) = false) := by
      revert hz; cases ((j : Int) == 0) <;> cases (v == 0) <;> simp
    have HZ := Lib.hid hz
    rw [Bool.or_false]
    clear hz
    by_cases hs : s = 1
    · skip
      subst hs
      rw [show ((1 : Int) == 1) = true from rfl, if_pos rfl]
      obtain ⟨t, ht⟩ : ∃ t, t = p3 + v := ⟨_, rfl⟩
      rw [← ht]
      have i1 : IntKind.i64.wrap (p3 + v) = t := by rw [IntKind.wrap_i64, ht]; omega
      have i2 : wrap64 (p3 + v) = t := by unfold wrap64; rw [ht]; omega
      have i3 : p3 + v = t := ht.symm
      have i4 : IntKind.i64.wrap t = t := by rw [IntKind.wrap_i64, ht]; omega
      have i5 : wrap64 t = t := by unfold wrap64; rw [ht]; omega
      have HT := Lib.hid ht
      clear ht hno
      have cN1 := fun w => cN t (Ly : Int) w
      by_cases hb : t < 0 ∨ (Ly : Int) < t
      · rw [if_pos hb]
        have hu : upTo t 0 (Ly : Int) = false := by unfold upTo; rcases hb with h | h; rw [decide_eq_false (by omega)]; rfl; rw [Bool.and_eq_false_iff]; right; exact decide_eq_false (by omega)
        rw [hu] at cN1
        clear hu hb cN
        rcases hcase with hc | ⟨hc, hc2⟩
        all_goals
          go_enter Tryz.func11, Tryz.ntmps11
          go_wp2_with fail
          refine (cV _).mono ?_
          rintro e w1 ⟨rfl, rfl⟩
          clear cV
          generalize ((w.alloc (.cells #[.bool p0, .int .i64 p1, .int .i64 (j : Nat), .int .i64 p3] 35)).alloc (.cells #[.bool false, .int .i64 0, .int .i64 0, .int .i64 0] 35)) = w1 at *
          have p0q := fun p : BelowBy w1 => p.cell z0
          have p1q := fun p : BelowBy w1 => p.cell z1
          have p2q := fun p : BelowBy w1 => p.cell z2
          have p3q := fun p : BelowBy w1 => p.cell z3
          have p4q := fun p : BelowBy w1 => p.cell C0
          have p5q := fun p : BelowBy w1 => p.cell C1
          go_wp2_with fail
          refine wp_region_quiet_below (by kernel_rfl) (by kernel_rfl) ?_
          repeat (go_big_quiet_step ((go_at_call 23; (with_reducible exact Calls.below_same (cN1 _)))))
          refine wpQuiet_nil ?_
          intro w5 hw'
          have hbB : Below w1.heap.size w1 w5 := by (obtain ⟨⟨_, h⟩, h2⟩ := hw'; rw [h2]; exact h)
          clear hw' p0q p1q p2q p3q p4q p5q
          replace dS := At.below' hbB dS
          replace dP := At.below' hbB dP
          replace hb0 := hb0.trans (hbB.mono hb0.size)
          clear hbB z0 z1 z2 z3 C0 C1
          have st := store4 dS (.bool false) (.int .i64 0) (.int .i64 0) (.int .i64 0)
          have E1 := store4_at dS (.bool false) (.int .i64 0) (.int .i64 0) (.int .i64 0)
          have E2 := store4_below hb0 (show w.heap.size ≤ w.heap.size + 1 by omega) (.bool false) (.int .i64 0) (.int .i64 0) (.int .i64 0)
          clear dS hb0 dP
          go_wp2_with fail
          generalize ((((w5.setCell ⟨(w.heap.size + 1), 0, none⟩ (.bool false)).setCell ⟨(w.heap.size + 1), 1, none⟩ (.int .i64 0)).setCell ⟨(w.heap.size + 1), 2, none⟩ (.int .i64 0)).setCell ⟨(w.heap.size + 1), 3, none⟩ (.int .i64 0)) = wz at E1 E2 ⊢
          have g0 : wz.cell? ⟨w.heap.size + 1, 0, none⟩ = some (.bool false) := E1.cell 0 rfl
          have g1 : wz.cell? ⟨w.heap.size + 1, 1, none⟩ = some (.int .i64 0) := E1.cell 1 rfl
          have g2 : wz.cell? ⟨w.heap.size + 1, 2, none⟩ = some (.int .i64 0) := E1.cell 2 rfl
          have g3 : wz.cell? ⟨w.heap.size + 1, 3, none⟩ = some (.int .i64 0) := E1.cell 3 rfl
          exact bodyPost_ret (v := .tuple #[.agg #[.bool false, .int .i64 0, .int .i64 0, .int .i64 0], .int .i64 1]) (by simp [results, Tryz.results11, go_sem, g0, g1, g2, g3]) rfl ⟨rfl, E2⟩
      · rw [if_neg hb]
        have hu : upTo t 0 (Ly : Int) = true := by unfold upTo; rw [decide_eq_true (by omega), decide_eq_true (by omega)]; rfl
        rw [hu] at cN1
        clear hu hb cN
        rcases hcase with hc | ⟨hc, hc2⟩
        all_goals
          go_enter Tryz.func11, Tryz.ntmps11
          go_wp2_with fail
          refine (cV _).mono ?_
          rintro e w1 ⟨rfl, rfl⟩
          clear cV
          generalize ((w.alloc (.cells #[.bool p0, .int .i64 p1, .int .i64 (j : Nat), .int .i64 p3] 35)).alloc (.cells #[.bool false, .int .i64 0, .int .i64 0, .int .i64 0] 35)) = w1 at *
          have p0q := fun p : BelowBy w1 => p.cell z0
          have p1q := fun p : BelowBy w1 => p.cell z1
          have p2q := fun p : BelowBy w1 => p.cell z2
          have p3q := fun p : BelowBy w1 => p.cell z3
          have p4q := fun p : BelowBy w1 => p.cell C0
          have p5q := fun p : BelowBy w1 => p.cell C1
          go_wp2_with fail
          refine wp_region_quiet_below (by kernel_rfl) (by kernel_rfl) ?_
          repeat (go_big_quiet_step ((go_at_call 23; (with_reducible exact Calls.below_same (cN1 _)))))
          refine wpQuiet_nil ?_
          intro w5 hw'
          have hbB : Below w1.heap.size w1 w5 := by (obtain ⟨⟨_, h⟩, h2⟩ := hw'; rw [h2]; exact h)
          clear hw' p0q p1q p2q p3q p4q p5q
          replace dS := At.below' hbB dS
          replace dP := At.below' hbB dP
          replace hb0 := hb0.trans (hbB.mono hb0.size)
          clear hbB z0 z1 z2 z3 C0 C1
          have x0 : w5.cell? ⟨w.heap.size, 0, none⟩ = some (.bool p0) := dP.cell 0 rfl
          have x1 : w5.cell? ⟨w.heap.size, 1, none⟩ = some (.int .i64 p1) := dP.cell 1 rfl
          have x2 : w5.cell? ⟨w.heap.size, 2, none⟩ = some (.int .i64 (j : Nat)) := dP.cell 2 rfl
          have x3 : w5.cell? ⟨w.heap.size, 3, none⟩ = some (.int .i64 p3) := dP.cell 3 rfl
          have f3 := dP.free 3
          have dP2 : At (w5.setCell ⟨w.heap.size, 3, none⟩ (.int .i64 t)) w.heap.size #[.bool p0, .int .i64 p1, .int .i64 (j : Nat), .int .i64 t] 35 := At.set dP 3 _ (by simp)
          have hb2 : Below w.heap.size w (w5.setCell ⟨w.heap.size, 3, none⟩ (.int .i64 t)) := hb0.setCell (p := ⟨w.heap.size, 3, none⟩) (Nat.le_refl _) _
          have dS2 : At (w5.setCell ⟨w.heap.size, 3, none⟩ (.int .i64 t)) (w.heap.size + 1) #[.bool false, .int .i64 0, .int .i64 0, .int .i64 0] 35 := (Below.heap_setCell w5 ⟨w.heap.size, 3, none⟩ _ (w.heap.size + 1) (by simp)).trans dS
          have y0 : (w5.setCell ⟨w.heap.size, 3, none⟩ (.int .i64 t)).cell? ⟨w.heap.size, 0, none⟩ = some (.bool p0) := dP2.cell 0 rfl
          have y1 : (w5.setCell ⟨w.heap.size, 3, none⟩ (.int .i64 t)).cell? ⟨w.heap.size, 1, none⟩ = some (.int .i64 p1) := dP2.cell 1 rfl
          have y2 : (w5.setCell ⟨w.heap.size, 3, none⟩ (.int .i64 t)).cell? ⟨w.heap.size, 2, none⟩ = some (.int .i64 (j : Nat)) := dP2.cell 2 rfl
          have y3 : (w5.setCell ⟨w.heap.size, 3, none⟩ (.int .i64 t)).cell? ⟨w.heap.size, 3, none⟩ = some (.int .i64 t) := dP2.cell 3 rfl
          clear dP dS hb0
          have st := store4 dS2 (.bool p0) (.int .i64 p1) (.int .i64 (j : Nat)) (.int .i64 t)
          have E1 := store4_at dS2 (.bool p0) (.int .i64 p1) (.int .i64 (j : Nat)) (.int .i64 t)
          have E2 := store4_below hb2 (show w.heap.size ≤ w.heap.size + 1 by omega) (.bool p0) (.int .i64 p1) (.int .i64 (j : Nat)) (.int .i64 t)
          clear dS2 hb2 dP2
          go_wp2_with fail
          generalize (((((w5.setCell ⟨w.heap.size, 3, none⟩ (.int .i64 t)).setCell ⟨(w.heap.size + 1), 0, none⟩ (.bool p0)).setCell ⟨(w.heap.size + 1), 1, none⟩ (.int .i64 p1)).setCell ⟨(w.heap.size + 1), 2, none⟩ (.int .i64 (j : Nat))).setCell ⟨(w.heap.size + 1), 3, none⟩ (.int .i64 t)) = wz at E1 E2 ⊢
          have g0 : wz.cell? ⟨w.heap.size + 1, 0, none⟩ = some (.bool p0) := E1.cell 0 rfl
          have g1 : wz.cell? ⟨w.heap.size + 1, 1, none⟩ = some (.int .i64 p1) := E1.cell 1 rfl
          have g2 : wz.cell? ⟨w.heap.size + 1, 2, none⟩ = some (.int .i64 (j : Nat)) := E1.cell 2 rfl
          have g3 : wz.cell? ⟨w.heap.size + 1, 3, none⟩ = some (.int .i64 t) := E1.cell 3 rfl
          exact bodyPost_ret (v := .tuple #[.agg #[.bool p0, .int .i64 p1, .int .i64 (j : Nat), .int .i64 t], .int .i64 0]) (by simp [results, Tryz.results11, go_sem, g0, g1, g2, g3]) rfl ⟨by first | rfl | (rw [HT.out]; rfl), E2⟩
    · have hs2 : (s == 1) = false := by simpa using hs
      have hs3 : (s != 1) = true := by simpa using hs
      rw [hs2]
      simp only [Bool.false_eq_true, if_false]
      clear hs cN hno
      rcases hcase with hc | ⟨hc, hc2⟩
      all_goals
        go_enter Tryz.func11, Tryz.ntmps11
        go_wp2_with fail
        refine (cV _).mono ?_
        rintro e w1 ⟨rfl, rfl⟩
        clear cV
        generalize ((w.alloc (.cells #[.bool p0, .int .i64 p1, .int .i64 (j : Nat), .int .i64 p3] 35)).alloc (.cells #[.bool false, .int .i64 0, .int .i64 0, .int .i64 0] 35)) = w1 at *
        clear z0 z1 z3
        have st := store4 dS (.bool false) (.int .i64 0) (.int .i64 0) (.int .i64 0)
        have E1 := store4_at dS (.bool false) (.int .i64 0) (.int .i64 0) (.int .i64 0)
        have E2 := store4_below hb0 (show w.heap.size ≤ w.heap.size + 1 by omega) (.bool false) (.int .i64 0) (.int .i64 0) (.int .i64 0)
        clear dS hb0 dP
        go_wp2_with fail
        generalize ((((w1.setCell ⟨(w.heap.size + 1), 0, none⟩ (.bool false)).setCell ⟨(w.heap.size + 1), 1, none⟩ (.int .i64 0)).setCell ⟨(w.heap.size + 1), 2, none⟩ (.int .i64 0)).setCell ⟨(w.heap.size + 1), 3, none⟩ (.int .i64 0)) = wz at E1 E2 ⊢
        have g0 : wz.cell? ⟨w.heap.size + 1, 0, none⟩ = some (.bool false) := E1.cell 0 rfl
        have g1 : wz.cell? ⟨w.heap.size + 1, 1, none⟩ = some (.int .i64 0) := E1.cell 1 rfl
        have g2 : wz.cell? ⟨w.heap.size + 1, 2, none⟩ = some (.int .i64 0) := E1.cell 2 rfl
        have g3 : wz.cell? ⟨w.heap.size + 1, 3, none⟩ = some (.int .i64 0) := E1.cell 3 rfl
        exact bodyPost_ret (v := .tuple #[.agg #[.bool false, .int .i64 0, .int .i64 0, .int .i64 0], .int .i64 2]) (by simp [results, Tryz.results11, go_sem, g0, g1, g2, g3]) rfl ⟨rfl, E2⟩
  · have hj0 : ((j : Int) == 0) = true := by revert hz; cases ((j : Int) == 0) <;> simp
    have hv0 : (v == 0) = true := by revert hz; cases (v == 0) <;> simp
    obtain rfl : j = 0 := by simpa using hj0
    obtain rfl : v = 0 := by simpa using hv0
    have h3 : p3 = 0 := hno rfl
    subst h3
    rw [Bool.or_true, if_pos rfl, if_neg (by omega)]
    clear hz hno cN
    go_enter Tryz.func11, Tryz.ntmps11
    go_wp2_with fail
    refine (cV _).mono ?_
    rintro e w1 ⟨rfl, rfl⟩
    clear cV
    generalize ((w.alloc (.cells #[.bool p0, .int .i64 p1, .int .i64 ((0 : Nat) : Int), .int .i64 0] 35)).alloc (.cells #[.bool false, .int .i64 0, .int .i64 0, .int .i64 0] 35)) = w1 at *
    have st := store4 dS (.bool p0) (.int .i64 p1) (.int .i64 0) (.int .i64 0)
    have E1 := store4_at dS (.bool p0) (.int .i64 p1) (.int .i64 0) (.int .i64 0)
    have E2 := store4_below hb0 (show w.heap.size ≤ w.heap.size + 1 by omega) (.bool p0) (.int .i64 p1) (.int .i64 0) (.int .i64 0)
    clear dS hb0 dP
    go_wp2_with fail
    generalize ((((w1.setCell ⟨(w.heap.size + 1), 0, none⟩ (.bool p0)).setCell ⟨(w.heap.size + 1), 1, none⟩ (.int .i64 p1)).setCell ⟨(w.heap.size + 1), 2, none⟩ (.int .i64 0)).setCell ⟨(w.heap.size + 1), 3, none⟩ (.int .i64 0)) = wz at E1 E2 ⊢
    have g0 : wz.cell? ⟨w.heap.size + 1, 0, none⟩ = some (.bool p0) := E1.cell 0 rfl
    have g1 : wz.cell? ⟨w.heap.size + 1, 1, none⟩ = some (.int .i64 p1) := E1.cell 1 rfl
    have g2 : wz.cell? ⟨w.heap.size + 1, 2, none⟩ = some (.int .i64 0) := E1.cell 2 rfl
    have g3 : wz.cell? ⟨w.heap.size + 1, 3, none⟩ = some (.int .i64 0) := E1.cell 3 rfl
    exact bodyPost_ret (v := .tuple #[.agg #[.bool p0, .int .i64 p1, .int .i64 0, .int .i64 0], .int .i64 0]) (by simp [results, Tryz.results11, go_sem, g0, g1, g2, g3]) rfl ⟨rfl, E2⟩
end Go.Proofs.YtcppmibeiilgbaaGreat
