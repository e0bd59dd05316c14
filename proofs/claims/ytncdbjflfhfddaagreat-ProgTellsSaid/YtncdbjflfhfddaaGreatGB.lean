/- Layer 12: what is played; what wakes. -/
import Derived.Test.YtncdbjflfhfddaaGreatGW
namespace Go.Proofs.YtncdbjflfhfddaaGreat
open Go.ChangeShapes Go.WideShapes Go.ChangeAt Go.RowKit Go.Joins Go.Deep
set_option linter.unusedVariables false

theorem num12_any (n : Int) (w : World) : Calls Tryz.prog 14 #[.int .i64 n] w fun e w' => e = .returned (.int .i64 n) ∧ w = w' := by
  go_enter Tryz.func14, Tryz.ntmps14
  go_wp2
  go_ret
  exact ⟨rfl, rfl⟩
set_option maxHeartbeats 1600000 in
theorem pweight_any (P : PX) (v1 v2 v3 v4 v5 : Value) (w : World) (h : IsPr w v1 v2 v3 v4 v5 P) : Calls Tryz.prog 20 #[.agg #[.bool P.big, .int .i64 P.ptr, v1, v2, v3, v4, v5]] w fun e w' => (∃ m : Int, e = .returned (.int .i64 m)) ∧ Below w.heap.size w w' := by
  have hb0 := below_box1 w (.cells #[.bool P.big, .int .i64 P.ptr, v1, v2, v3, v4, v5] 33)
  have hA := pgBox P v1 v2 v3 v4 v5 w
  obtain ⟨w1, hw1⟩ : ∃ w1, w.alloc (.cells #[.bool P.big, .int .i64 P.ptr, v1, v2, v3, v4, v5] 33) = w1 := ⟨_, rfl⟩
  rw [hw1] at hb0 hA
  have h1 := h.below hb0
  obtain ⟨q1, k1, rfl, _⟩ := id h.1
  obtain ⟨q2, k2, rfl, _⟩ := id h.2.1
  obtain ⟨q3, k3, rfl, _⟩ := id h.2.2.1
  obtain ⟨q5, k5, rfl, _⟩ := id h.2.2.2.2
  obtain ⟨q4, k4, rfl, hl4, hk4, hc4⟩ := id h1.2.2.2.1
  have a2 : w1.cell? ⟨w.heap.size, 2, none⟩ = some (.slice q1 P.vars.length k1) := hA.cell 2 rfl
  have a3 : w1.cell? ⟨w.heap.size, 3, none⟩ = some (.slice q2 P.news.length k2) := hA.cell 3 rfl
  have a4 : w1.cell? ⟨w.heap.size, 4, none⟩ = some (.slice q3 P.exs.length k3) := hA.cell 4 rfl
  have a5 : w1.cell? ⟨w.heap.size, 5, none⟩ = some (.slice q4 P.sts.length k4) := hA.cell 5 rfl
  have a6 : w1.cell? ⟨w.heap.size, 6, none⟩ = some (.slice q5 P.main.length k5) := hA.cell 6 rfl
  have HB0 := Lib.hid hb0
  obtain ⟨ns, hns⟩ : ∃ ns, ns = P.sts.length := ⟨_, rfl⟩
  rw [← hns] at hl4 hk4 hc4 a5 hw1 ⊢
  have HNS := Lib.hid hns
  have HC4 := Lib.hid hc4
  unfold maxLen at hl4
  clear h h1 hb0 hA hc4 hns
  generalize P.vars.length = nv at *
  generalize P.news.length = nn at *
  generalize P.exs.length = nx at *
  generalize P.main.length = nm at *
  go_enter Tryz.func20, Tryz.ntmps20
  go_wp2
  go_loopw [4, 3] (fun v v3 wr => ∃ (i : Nat) (m : Int), i ≤ ns ∧ v = .int .i64 (i : Nat) ∧ v3 = .int .i64 m ∧ Below w1.heap.size w1 wr) (fun v _ _ => ns - (intOf v).toNat)
  case atStart => exact ⟨0, _, Nat.zero_le _, rfl, rfl, Below.refl _ _⟩
  case round =>
    obtain ⟨i, m, hi, rfl, rfl, hbr⟩ := hrel
    have c5 := cell_below a5 hbr
    by_cases hlt : i < ns
    · have hj3 : (i : Int) < (ns : Int) := by omega
      by_cases hm : m < 1048576
      · have hmd : decide (m < 1048576) = true := decide_eq_true hm
        obtain ⟨b, off, rfl, hb, hcell⟩ := HC4.out (by omega)
        obtain ⟨x, hx⟩ : ∃ x, P.sts[i]? = some x := ⟨_, List.getElem?_eq_getElem (by rw [← HNS.out]; exact hlt)⟩
        obtain ⟨vb, ve, _, _, _, _, _, s5, s6, ib, ie⟩ := QS.below _ _ _ _ _ hbr (hcell i x hx)
        obtain ⟨qb, cb, rfl, _⟩ := ib
        obtain ⟨qe, ce, rfl, _⟩ := ie
        generalize x.body.length = nb at *
        generalize x.els.length = ne at *
        clear hcell hx a2 a3 a4 a5 a6
        go_wp2
        go_quiet (fail)
        go_wp2
        go_roundw
        case rel => exact ⟨i + 1, _, by omega, by go_num, rfl, hbr.trans (Joins.below_draws _ _ _)⟩
        case measure => simp [intOf]; omega
      · have hmd : decide (m < 1048576) = false := decide_eq_false hm
        clear a2 a3 a4 a5 a6
        go_wp2
        go_ret
        exact ⟨⟨m, rfl⟩, HB0.out.trans (hbr.mono HB0.out.size)⟩
    · obtain rfl : i = ns := by omega
      clear a2 a3 a4 a5 a6
      go_wp2
      go_ret
      exact ⟨⟨m, rfl⟩, HB0.out.trans (hbr.mono HB0.out.size)⟩
def HeavyP12 (w : World) (e : Ending) (w' : World) : Prop := ∃ hv : Bool, e = .returned (.bool hv) ∧ Below w.heap.size w w'
set_option maxHeartbeats 1600000 in
theorem heavy12_any (vP vN : Value) (xs : List PX) (ns : List Int) (w : World) (hP : IsPs w vP xs) (hN : IsIs w vN ns) : Calls Tryz.prog 4 #[.agg #[vP, vN]] w (HeavyP12 w) := by
  have hb0 := below_box1 w (.cells #[vP, vN] 25)
  have hA := At.new w #[vP, vN] 25
  obtain ⟨w1, hw1⟩ : ∃ w1, w.alloc (.cells #[vP, vN] 25) = w1 := ⟨_, rfl⟩
  rw [hw1] at hb0 hA
  obtain ⟨qn, cn, rfl, _⟩ := id hN
  obtain ⟨qp, cp, rfl, hlp, hkp, hcp⟩ := id (hP.below hb0)
  have a0 : w1.cell? ⟨w.heap.size, 0, none⟩ = some (.slice qp xs.length cp) := hA.cell 0 rfl
  have a1 : w1.cell? ⟨w.heap.size, 1, none⟩ = some (.slice qn ns.length cn) := hA.cell 1 rfl
  have HB0 := Lib.hid hb0
  obtain ⟨np, hnp⟩ : ∃ np, np = xs.length := ⟨_, rfl⟩
  rw [← hnp] at hlp hkp hcp a0 hw1 ⊢
  have HNP := Lib.hid hnp
  have HCP := Lib.hid hcp
  unfold maxLen at hlp
  clear hP hN hb0 hA hcp hnp
  generalize ns.length = nn at *
  go_enter Tryz.func4, Tryz.ntmps4
  go_wp2
  go_loopw [4, 3] (fun v v3 wr => ∃ (i : Nat) (m : Int), i ≤ np ∧ v = .int .i64 (i : Nat) ∧ v3 = .int .i64 m ∧ Below w1.heap.size w1 wr) (fun v _ _ => np - (intOf v).toNat)
  case atStart => exact ⟨0, _, Nat.zero_le _, rfl, rfl, Below.refl _ _⟩
  case round =>
    obtain ⟨i, m, hi, rfl, rfl, hbr⟩ := hrel
    have c0 := cell_below a0 hbr
    by_cases hlt : i < np
    · have hj3 : (i : Int) < (np : Int) := by omega
      by_cases hm : m < 1048576
      · have hmd : decide (m < 1048576) = true := decide_eq_true hm
        obtain ⟨b, off, rfl, hb, hcell⟩ := HCP.out (by omega)
        obtain ⟨x, hx⟩ : ∃ x, xs[i]? = some x := ⟨_, List.getElem?_eq_getElem (by rw [← HNP.out]; exact hlt)⟩
        obtain ⟨v1, v2, v3, v4, v5, p0, p1, p2, p3, p4, p5, p6, hpr⟩ := QP.below _ _ _ _ _ hbr (hcell i x hx)
        have cW := pweight_any x v1 v2 v3 v4 v5 wr hpr
        generalize x.big = xb at *
        generalize x.ptr = xp at *
        obtain ⟨q1, k1, rfl, _⟩ := id hpr.1
        obtain ⟨q2, k2, rfl, _⟩ := id hpr.2.1
        obtain ⟨q3, k3, rfl, _⟩ := id hpr.2.2.1
        obtain ⟨q4, k4, rfl, _⟩ := id hpr.2.2.2.1
        obtain ⟨q5, k5, rfl, _⟩ := id hpr.2.2.2.2
        clear hcell hx a0 a1 hpr
        go_wp2_with (go_at_call 20; refine cW.mono ?_; rintro e w2 ⟨⟨kk, rfl⟩, hb2⟩)
        go_roundw
        case rel => exact ⟨i + 1, _, by omega, by go_num, rfl, hbr.trans (hb2.mono hbr.size)⟩
        case measure => simp [intOf]; omega
      · have hmd : decide (m < 1048576) = false := decide_eq_false hm
        clear a0 a1
        go_wp2
        go_ret
        exact ⟨_, rfl, HB0.out.trans (hbr.mono HB0.out.size)⟩
    · obtain rfl : i = np := by omega
      clear a0 a1
      go_wp2
      go_ret
      exact ⟨_, rfl, HB0.out.trans (hbr.mono HB0.out.size)⟩
def pW : PX := ⟨false, 4, [], [], [], [⟨7, 0, 0, 0, 0, [], []⟩], [0]⟩
def p0 : PX := ⟨false, 0, [], [], [], [], []⟩
theorem pW_ok : progB pW = true := by decide
theorem pW_in : innerL pW = [0] := by decide
theorem p0_no : progB p0 = false := by decide
theorem is_nil (w : World) : IsIs w (.slice none 0 0) [] := ⟨none, 0, rfl, Nat.zero_le _, Nat.zero_le _, fun h => absurd h (Nat.lt_irrefl 0)⟩
theorem isE_nil (w : World) : IsEs w (.slice none 0 0) [] := ⟨none, 0, rfl, Nat.zero_le _, Nat.zero_le _, fun h => absurd h (Nat.lt_irrefl 0)⟩
theorem isS_nil (w : World) : IsSs w (.slice none 0 0) [] := ⟨none, 0, rfl, Nat.zero_le _, Nat.zero_le _, fun h => absurd h (Nat.lt_irrefl 0)⟩
theorem isS_one {w : World} {b : Nat} {t : TypeId} (h : At w b #[.int .i64 7, .int .i64 0, .int .i64 0, .int .i64 0, .int .i64 0, .slice none 0 0, .slice none 0 0] t) : IsSs w (.slice (some ⟨b, 0, none⟩) 1 1) [⟨7, 0, 0, 0, 0, [], []⟩] :=
  ⟨_, _, rfl, by decide, Nat.le_refl _, fun _ => ⟨b, 0, rfl, h.lt, fun i x hx => by
    cases i with
    | zero =>
      obtain rfl : ⟨7, 0, 0, 0, 0, [], []⟩ = x := by simpa using hx
      exact ⟨_, _, h.cell 0 rfl, h.cell 1 rfl, h.cell 2 rfl, h.cell 3 rfl, h.cell 4 rfl, h.cell 5 rfl, h.cell 6 rfl, is_nil _, is_nil _⟩
    | succ i => simp at hx⟩⟩
theorem pr_p0 (w : World) : IsPr w (.slice none 0 0) (.slice none 0 0) (.slice none 0 0) (.slice none 0 0) (.slice none 0 0) p0 := ⟨is_nil _, is_nil _, isE_nil _, isS_nil _, is_nil _⟩
def WakesP (w : World) (e : Ending) (w' : World) : Prop := e = .returned (.bool true) ∧ Below w.heap.size w w'
set_option maxHeartbeats 1600000 in
theorem wakes12_any (w : World) : Calls Tryz.prog 19 #[] w (WakesP w) := by
  have cN := fun n w => num12_any n w
  go_enter Tryz.func19, Tryz.ntmps19
  go_upto_region 2 with (fail)
  have hs1 : (w.alloc (.cells #[.int .i64 7, .int .i64 0, .int .i64 0, .int .i64 0, .int .i64 0, .slice none 0 0, .slice none 0 0] 53)).heap.size = w.heap.size + 1 := World.size_alloc _ _
  have hA1 := At.new w #[.int .i64 7, .int .i64 0, .int .i64 0, .int .i64 0, .int .i64 0, .slice none 0 0, .slice none 0 0] 53
  have hb1 := below_box1 w (.cells #[.int .i64 7, .int .i64 0, .int .i64 0, .int .i64 0, .int .i64 0, .slice none 0 0, .slice none 0 0] 53)
  obtain ⟨w1, hw1⟩ : ∃ w1, w.alloc (.cells #[.int .i64 7, .int .i64 0, .int .i64 0, .int .i64 0, .int .i64 0, .slice none 0 0, .slice none 0 0] 53) = w1 := ⟨_, rfl⟩
  rw [hw1] at hs1 hA1 hb1
  rw [hw1]
  have hs2 : (w1.alloc (.cells #[.int .i64 0] 3)).heap.size = w.heap.size + 1 + 1 := by rw [World.size_alloc, hs1]
  have hA2 : At (w1.alloc (.cells #[.int .i64 0] 3)) (w.heap.size + 1) (intA [0]) 3 := by rw [← hs1]; exact At.new _ _ _
  have hb2 := below_box1 w1 (.cells #[.int .i64 0] 3)
  obtain ⟨w2, hw2⟩ : ∃ w2, w1.alloc (.cells #[.int .i64 0] 3) = w2 := ⟨_, rfl⟩
  rw [hw2] at hs2 hA2 hb2
  rw [hw2]
  have hA3 := At.new w2 #[.bool false, .int .i64 4, .slice none 0 0, .slice none 0 0, .slice none 0 0, .slice (some ⟨w.heap.size, 0, none⟩) 1 1, .slice (some ⟨w.heap.size + 1, 0, none⟩) 1 1] 33
  rw [hs2] at hA3
  have hb3 := below_box1 w2 (.cells #[.bool false, .int .i64 4, .slice none 0 0, .slice none 0 0, .slice none 0 0, .slice (some ⟨w.heap.size, 0, none⟩) 1 1, .slice (some ⟨w.heap.size + 1, 0, none⟩) 1 1] 33)
  obtain ⟨w3, hw3⟩ : ∃ w3, w2.alloc (.cells #[.bool false, .int .i64 4, .slice none 0 0, .slice none 0 0, .slice none 0 0, .slice (some ⟨w.heap.size, 0, none⟩) 1 1, .slice (some ⟨w.heap.size + 1, 0, none⟩) 1 1] 33) = w3 := ⟨_, rfl⟩
  rw [hw3] at hA3 hb3
  rw [hw3]
  have hB13 := hb2.trans (hb3.mono hb2.size)
  have hB03 := hb1.trans (hB13.mono hb1.size)
  have hpr : IsPr w3 (.slice none 0 0) (.slice none 0 0) (.slice none 0 0) (.slice (some ⟨w.heap.size, 0, none⟩) 1 1) (.slice (some ⟨w.heap.size + 1, 0, none⟩) 1 1) pW :=
    ⟨is_nil _, is_nil _, isE_nil _, isS_one (At.below' hB13 hA1), (At.below' hb3 hA2).isIs (by decide)⟩
  have cI := Inner_prog pW _ _ _ _ _ w3 hpr
  have cC : ∀ w4, Below w3.heap.size w3 w4 → Calls Tryz.prog 15 #[.agg #[.bool false, .int .i64 4, .slice none 0 0, .slice none 0 0, .slice none 0 0, .slice (some ⟨w.heap.size, 0, none⟩) 1 1, .slice (some ⟨w.heap.size + 1, 0, none⟩) 1 1]] w4 fun e w' => e = .returned (.int .i64 0) ∧ Below w4.heap.size w4 w' := fun w4 hb => (Check_prog pW _ _ _ _ _ w4 (hpr.below hb)).mono (by
    rintro e w' ⟨k, rfl, hk, hb'⟩
    rw [if_pos pW_ok] at hk
    subst hk
    exact ⟨rfl, hb'⟩)
  have cZ : ∀ w4, Calls Tryz.prog 15 #[.agg #[.bool false, .int .i64 0, .slice none 0 0, .slice none 0 0, .slice none 0 0, .slice none 0 0, .slice none 0 0]] w4 fun e w' => e = .returned (.int .i64 1) ∧ Below w4.heap.size w4 w' := fun w4 => (Check_prog p0 _ _ _ _ _ w4 (pr_p0 w4)).mono (by
    rintro e w' ⟨k, rfl, hk, hb'⟩
    rw [if_neg (by rw [p0_no]; decide)] at hk
    subst hk
    exact ⟨rfl, hb'⟩)
  unfold InnerP at cI
  simp only [pW] at cI
  have a0 : w3.cell? ⟨w.heap.size + 1 + 1, 0, none⟩ = some (.bool false) := hA3.cell 0 rfl
  have a1 : w3.cell? ⟨w.heap.size + 1 + 1, 1, none⟩ = some (.int .i64 4) := hA3.cell 1 rfl
  have a2 : w3.cell? ⟨w.heap.size + 1 + 1, 2, none⟩ = some (.slice none 0 0) := hA3.cell 2 rfl
  have a3 : w3.cell? ⟨w.heap.size + 1 + 1, 3, none⟩ = some (.slice none 0 0) := hA3.cell 3 rfl
  have a4 : w3.cell? ⟨w.heap.size + 1 + 1, 4, none⟩ = some (.slice none 0 0) := hA3.cell 4 rfl
  have a5 : w3.cell? ⟨w.heap.size + 1 + 1, 5, none⟩ = some (.slice (some ⟨w.heap.size, 0, none⟩) 1 1) := hA3.cell 5 rfl
  have a6 : w3.cell? ⟨w.heap.size + 1 + 1, 6, none⟩ = some (.slice (some ⟨w.heap.size + 1, 0, none⟩) 1 1) := hA3.cell 6 rfl
  have HB := Lib.hid hB03
  clear hw1 hw2 hw3 hs1 hs2 hA1 hA2 hA3 hb1 hb2 hb3 hB13 hB03 hpr
  go_wp2_with fail
  refine cI.mono ?_
  rintro e w4 ⟨v, k, rfl, hb4, _, hy⟩
  obtain ⟨rfl, hi4, _⟩ := hy pW_ok
  rw [show innerL (⟨false, 4, [], [], [], [⟨7, 0, 0, 0, 0, [], []⟩], [0]⟩ : PX) = [0] from pW_in] at hi4
  obtain ⟨qv, cv, rfl, _⟩ := hi4
  have b0 := cell_below a0 hb4
  have b1 := cell_below a1 hb4
  have b2 := cell_below a2 hb4
  have b3 := cell_below a3 hb4
  have b4 := cell_below a4 hb4
  have b5 := cell_below a5 hb4
  have b6 := cell_below a6 hb4
  have c1 := cC w4 hb4
  have HB4 := Lib.hid (HB.out.trans (hb4.mono HB.out.size))
  clear cI cC a0 a1 a2 a3 a4 a5 a6 hb4
  generalize w.heap.size + 1 + 1 = bx at *
  go_wp2_with fail
  refine c1.mono ?_
  rintro e w5 ⟨rfl, hb5⟩
  clear c1
  go_wp2_with (first | (go_at_call 14; refine (cN _ _).mono ?_; rintro e w' ⟨rfl, rfl⟩) | (go_at_call 15; refine (cZ _).mono ?_; rintro e w6 ⟨rfl, hb6⟩))
  go_ret
  exact ⟨rfl, (HB4.out.trans (hb5.mono HB4.out.size)).trans (hb6.mono (Nat.le_trans HB4.out.size hb5.size))⟩
end Go.Proofs.YtncdbjflfhfddaaGreat
