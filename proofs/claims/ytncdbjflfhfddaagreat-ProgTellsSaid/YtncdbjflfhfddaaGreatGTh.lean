/- Layer 12: what is played is small. -/
import Derived.Test.YtncdbjflfhfddaaGreatGB
import Derived.Test.YtncdbjflfhfddaaGreatGPw
namespace Go.Proofs.YtncdbjflfhfddaaGreat
open Go.ChangeShapes Go.WideShapes Go.ChangeAt Go.RowKit Go.Joins Go.Deep
set_option linter.unusedVariables false

def PWeightQ (P : PX) (w : World) (e : Ending) (w' : World) : Prop := ∃ m : Nat, e = .returned (.int .i64 (m : Nat)) ∧ m ≤ 1125899906842624 ∧ (m ≤ 900 → LeP 900 P) ∧ Below w.heap.size w w'
def RelPw (P : PX) (v v3 : Value) : Prop := ∃ i m : Nat, i ≤ P.sts.length ∧ v = .int .i64 (i : Nat) ∧ v3 = .int .i64 (m : Nat) ∧ m ≤ 1125899906842624 ∧ P.vars.length + P.news.length + P.exs.length + P.sts.length + P.main.length ≤ m ∧ ∀ (j : Nat) (s : SX), j < i → P.sts[j]? = some s → s.body.length + s.els.length ≤ m
set_option maxHeartbeats 1600000 in
theorem pweightB_any (P : PX) (v1 v2 v3 v4 v5 : Value) (hL : LeP 140737488355328 P) (w : World) (h : IsPr w v1 v2 v3 v4 v5 P) : Calls Tryz.prog 20 #[.agg #[.bool P.big, .int .i64 P.ptr, v1, v2, v3, v4, v5]] w (PWeightQ P w) := by
  have hb0 := below_box1 w (.cells #[.bool P.big, .int .i64 P.ptr, v1, v2, v3, v4, v5] 33)
  have hA := pgBox P v1 v2 v3 v4 v5 w
  obtain ⟨w1, hw1⟩ : ∃ w1, w.alloc (.cells #[.bool P.big, .int .i64 P.ptr, v1, v2, v3, v4, v5] 33) = w1 := ⟨_, rfl⟩
  rw [hw1] at hb0 hA
  have h1 := h.below hb0
  obtain ⟨q1, k1, rfl, _⟩ := id h.1
  obtain ⟨q2, k2, rfl, _⟩ := id h.2.1
  obtain ⟨q3, k3, rfl, _⟩ := id h.2.2.1
  obtain ⟨q5, k5, rfl, _⟩ := id h.2.2.2.2
  obtain ⟨q4, k4, rfl, hl4, hk4, hc4⟩ := id h1.2.2.2.1
  have a2 : w1.cell? ⟨w.heap.size, 2, none⟩ = some (.slice q1 P.vars.length k1) := hA.cell 2 rfl
  have a3 : w1.cell? ⟨w.heap.size, 3, none⟩ = some (.slice q2 P.news.length k2) := hA.cell 3 rfl
  have a4 : w1.cell? ⟨w.heap.size, 4, none⟩ = some (.slice q3 P.exs.length k3) := hA.cell 4 rfl
  have a5 : w1.cell? ⟨w.heap.size, 5, none⟩ = some (.slice q4 P.sts.length k4) := hA.cell 5 rfl
  have a6 : w1.cell? ⟨w.heap.size, 6, none⟩ = some (.slice q5 P.main.length k5) := hA.cell 6 rfl
  have HB0 := Lib.hid hb0
  obtain ⟨lv, ln, lx, ls, lm, lst⟩ := hL
  have HLS := Lib.hid lst
  have HREL : Hid (∀ (i m : Nat) v v3, i ≤ P.sts.length → v = .int .i64 (i : Nat) → v3 = .int .i64 (m : Nat) → m ≤ 1125899906842624 → P.vars.length + P.news.length + P.exs.length + P.sts.length + P.main.length ≤ m → (∀ (j : Nat) (s : SX), j < i → P.sts[j]? = some s → s.body.length + s.els.length ≤ m) → RelPw P v v3) := Lib.hid fun i m v v3 a b c d e f => ⟨i, m, a, b, c, d, e, f⟩
  have HC4 := Lib.hid hc4
  clear h h1 hb0 hA hc4 lst hl4 hk4
  obtain ⟨nv, hnv⟩ : ∃ n, n = P.vars.length := ⟨_, rfl⟩
  obtain ⟨nn, hnn⟩ : ∃ n, n = P.news.length := ⟨_, rfl⟩
  obtain ⟨nx, hnx⟩ : ∃ n, n = P.exs.length := ⟨_, rfl⟩
  obtain ⟨nm, hnm⟩ : ∃ n, n = P.main.length := ⟨_, rfl⟩
  obtain ⟨ns, hns⟩ : ∃ n, n = P.sts.length := ⟨_, rfl⟩
  rw [← hnv] at a2 lv hw1 ⊢
  rw [← hnn] at a3 ln hw1 ⊢
  rw [← hnx] at a4 lx hw1 ⊢
  rw [← hnm] at a6 lm hw1 ⊢
  rw [← hns] at a5 ls hw1 ⊢
  have HNN := Lib.hid (And.intro hnv (And.intro hnn (And.intro hnx (And.intro hnm hns))))
  clear hnv hnn hnx hnm hns
  go_enter Tryz.func20, Tryz.ntmps20
  go_wp2
  go_loopw [4, 3] (fun v v3 wr => RelPw P v v3 ∧ Below w1.heap.size w1 wr) (fun v _ _ => ns - (intOf v).toNat)
  case atStart => exact ⟨HREL.out 0 (nv + nn + nx + ns + nm) _ _ (Nat.zero_le _) rfl (by go_num) (by omega) (by have := HNN.out; omega) (fun j s hj => absurd hj (Nat.not_lt_zero _)), Below.refl _ _⟩
  case round =>
    obtain ⟨⟨i, m, hi, rfl, rfl, hm0, hms, hall⟩, hbr⟩ := hrel
    have c5 := cell_below a5 hbr
    rw [← HNN.out.2.2.2.2] at hi
    by_cases hlt : i < ns
    · have hj3 : (i : Int) < (ns : Int) := by omega
      by_cases hm : m < 1048576
      · have hmd : (m : Int) < 1048576 := by omega
        obtain ⟨b, off, rfl, hb, hcell⟩ := HC4.out (by rw [← HNN.out.2.2.2.2]; omega)
        obtain ⟨x, hx⟩ : ∃ x, P.sts[i]? = some x := ⟨_, List.getElem?_eq_getElem (by rw [← HNN.out.2.2.2.2]; exact hlt)⟩
        obtain ⟨vb, ve, _, _, _, _, _, s5, s6, ib, ie⟩ := QS.below _ _ _ _ _ hbr (hcell i x hx)
        obtain ⟨lb, le⟩ := HLS.out x (List.mem_of_getElem? hx)
        obtain ⟨qb, cb, rfl, _⟩ := ib
        obtain ⟨qe, ce, rfl, _⟩ := ie
        obtain ⟨nb, hnb⟩ : ∃ n, n = x.body.length := ⟨_, rfl⟩
        obtain ⟨ne, hne⟩ : ∃ n, n = x.els.length := ⟨_, rfl⟩
        rw [← hnb] at s5 lb
        rw [← hne] at s6 le
        have HF : Hid (∀ v v3, v = .int .i64 ((i + 1 : Nat) : Int) → v3 = .int .i64 ((m + nb + ne : Nat) : Int) → RelPw P v v3) := Lib.hid fun v v3 hv hv3 => HREL.out (i + 1) (m + nb + ne) v v3 (by rw [← HNN.out.2.2.2.2]; omega) hv hv3 (by omega) (by omega) (fun j s hj hs => by
          by_cases hji : j = i
          · subst hji
            rw [hx] at hs
            injection hs with hs
            rw [← hs, ← hnb, ← hne]; omega
          · have := hall j s (by omega) hs; omega)
        clear hcell hx a2 a3 a4 a5 a6 hall hms hnb hne
        go_wp2
        go_quiet (fail)
        go_wp2
        go_roundw
        case rel => exact ⟨HF.out _ _ (by go_num) (by go_num), hbr.trans (Joins.below_draws _ _ _)⟩
        case measure => simp [intOf]; omega
      · have hmd : decide ((m : Int) < 1048576) = false := decide_eq_false (by omega)
        have hmn : ¬ (m : Int) < 1048576 := by omega
        have FIN : Hid (PWeightQ P w (.returned (.int .i64 (m : Nat))) wr) := Lib.hid ⟨m, rfl, hm0, fun h => by omega, HB0.out.trans (hbr.mono HB0.out.size)⟩
        clear a2 a3 a4 a5 a6 hall hms
        go_wp2
        go_ret
        exact FIN.out
    · obtain rfl : i = ns := by omega
      have FIN : Hid (PWeightQ P w (.returned (.int .i64 (m : Nat))) wr) := Lib.hid ⟨m, rfl, hm0, fun h => ⟨by omega, by omega, by omega, by omega, by omega, fun s hs => by
        obtain ⟨j, hj⟩ := List.mem_iff_getElem?.1 hs
        have := hall j s (by rw [HNN.out.2.2.2.2]; exact (List.getElem?_eq_some_iff.1 hj).1) hj
        exact ⟨by omega, by omega⟩⟩, HB0.out.trans (hbr.mono HB0.out.size)⟩
      clear a2 a3 a4 a5 a6 hall hms
      go_wp2
      go_ret
      exact FIN.out
def HeavyQ12 (np nn : Nat) (xs : List PX) (w : World) (e : Ending) (w' : World) : Prop := ∃ hv : Bool, e = .returned (.bool hv) ∧ (hv = false → np ≤ 900 ∧ nn ≤ 900 ∧ ∀ x ∈ xs, LeP 900 x) ∧ Below w.heap.size w w'
def RelHv (np nn : Nat) (xs : List PX) (v v3 : Value) : Prop := ∃ i m : Nat, i ≤ np ∧ v = .int .i64 (i : Nat) ∧ v3 = .int .i64 (m : Nat) ∧ m ≤ 2251799813685248 ∧ np + nn ≤ m ∧ (m ≤ 900 → ∀ (j : Nat) (x : PX), j < i → xs[j]? = some x → LeP 900 x)
set_option maxHeartbeats 1600000 in
theorem heavyB_any (vP vN : Value) (xs : List PX) (ns : List Int) (hlP : xs.length ≤ 140737488355328) (hlN : ns.length ≤ 140737488355328) (hL : ∀ x ∈ xs, LeP 140737488355328 x) (w : World) (hP : IsPs w vP xs) (hN : IsIs w vN ns) : Calls Tryz.prog 4 #[.agg #[vP, vN]] w (HeavyQ12 xs.length ns.length xs w) := by
  have hb0 := below_box1 w (.cells #[vP, vN] 25)
  have hA := At.new w #[vP, vN] 25
  obtain ⟨w1, hw1⟩ : ∃ w1, w.alloc (.cells #[vP, vN] 25) = w1 := ⟨_, rfl⟩
  rw [hw1] at hb0 hA
  obtain ⟨qn, cn, rfl, _⟩ := id hN
  obtain ⟨qp, cp, rfl, hlp, hkp, hcp⟩ := id (hP.below hb0)
  have a0 : w1.cell? ⟨w.heap.size, 0, none⟩ = some (.slice qp xs.length cp) := hA.cell 0 rfl
  have a1 : w1.cell? ⟨w.heap.size, 1, none⟩ = some (.slice qn ns.length cn) := hA.cell 1 rfl
  have HB0 := Lib.hid hb0
  obtain ⟨np, hnp⟩ : ∃ np, np = xs.length := ⟨_, rfl⟩
  rw [← hnp] at hlp hkp hcp a0 hw1 hlP ⊢
  have HNP := Lib.hid hnp
  have HCP := Lib.hid hcp
  have HLL := Lib.hid hL
  clear hP hN hb0 hA hcp hnp hlp hkp hL
  generalize ns.length = nn at *
  go_enter Tryz.func4, Tryz.ntmps4
  go_wp2
  go_loopw [4, 3] (fun v v3 wr => RelHv np nn xs v v3 ∧ Below w1.heap.size w1 wr) (fun v _ _ => np - (intOf v).toNat)
  case atStart => exact ⟨⟨0, np + nn, Nat.zero_le _, rfl, by go_num, by omega, Nat.le_refl _, fun _ j x hj => absurd hj (Nat.not_lt_zero _)⟩, Below.refl _ _⟩
  case round =>
    obtain ⟨⟨i, m, hi, rfl, rfl, hm0, hms, hall⟩, hbr⟩ := hrel
    have c0 := cell_below a0 hbr
    by_cases hlt : i < np
    · have hj3 : (i : Int) < (np : Int) := by omega
      by_cases hm : m < 1048576
      · have hmd : (m : Int) < 1048576 := by omega
        obtain ⟨b, off, rfl, hb, hcell⟩ := HCP.out (by omega)
        obtain ⟨x, hx⟩ : ∃ x, xs[i]? = some x := ⟨_, List.getElem?_eq_getElem (by rw [← HNP.out]; exact hlt)⟩
        obtain ⟨v1, v2, v3, v4, v5, p0, p1, p2, p3, p4, p5, p6, hpr⟩ := QP.below _ _ _ _ _ hbr (hcell i x hx)
        have cW := pweightB_any x v1 v2 v3 v4 v5 (HLL.out x (List.mem_of_getElem? hx)) wr hpr
        unfold PWeightQ at cW
        have HALL := Lib.hid (And.intro hall hx)
        obtain ⟨lep, hlep⟩ : ∃ p : Prop, p = LeP 900 x := ⟨_, rfl⟩
        rw [← hlep] at cW
        have HLEP := Lib.hid hlep
        generalize x.big = xb at *
        generalize x.ptr = xp at *
        obtain ⟨q1, k1, rfl, _⟩ := id hpr.1
        obtain ⟨q2, k2, rfl, _⟩ := id hpr.2.1
        obtain ⟨q3, k3, rfl, _⟩ := id hpr.2.2.1
        obtain ⟨q4, k4, rfl, _⟩ := id hpr.2.2.2.1
        obtain ⟨q5, k5, rfl, _⟩ := id hpr.2.2.2.2
        clear hcell hx a0 a1 hpr hall hlep
        go_wp2_with (go_at_call 20; refine cW.mono ?_; rintro e w2 ⟨kk, rfl, hk1, hk2, hb2⟩)
        go_roundw
        case rel => exact ⟨⟨i + 1, m + kk, by omega, by go_num, by go_num, by omega, by omega, fun hmm j y hj hy => by
          by_cases hji : j = i
          · subst hji
            rw [HALL.out.2] at hy
            injection hy with hy
            subst hy
            rw [← HLEP.out]
            exact hk2 (by omega)
          · exact HALL.out.1 (by omega) j y (by omega) hy⟩, hbr.trans (hb2.mono hbr.size)⟩
        case measure => simp [intOf]; omega
      · have hmd : decide ((m : Int) < 1048576) = false := decide_eq_false (by omega)
        have hmn : ¬ (m : Int) < 1048576 := by omega
        have hm9 : decide ((900 : Int) < (m : Int)) = true := decide_eq_true (by omega)
        have hm9n : (900 : Int) < (m : Int) := by omega
        have FIN : Hid (HeavyQ12 np nn xs w (.returned (.bool true)) wr) := Lib.hid ⟨true, rfl, fun h => by (cases h), HB0.out.trans (hbr.mono HB0.out.size)⟩
        clear a0 a1 hall
        go_wp2
        go_ret
        exact FIN.out
    · obtain rfl : i = np := by omega
      obtain ⟨bb, hbb⟩ : ∃ bb, bb = decide ((900 : Int) < (m : Int)) := ⟨_, rfl⟩
      have FIN : Hid (HeavyQ12 i nn xs w (.returned (.bool bb)) wr) := Lib.hid ⟨bb, rfl, fun h => by
        rw [hbb] at h
        have := of_decide_eq_false h
        refine ⟨by omega, by omega, fun x hx => ?_⟩
        obtain ⟨j, hj⟩ := List.mem_iff_getElem?.1 hx
        exact hall (by omega) j x (by rw [HNP.out]; exact (List.getElem?_eq_some_iff.1 hj).1) hj, HB0.out.trans (hbr.mono HB0.out.size)⟩
      rw [hbb] at FIN
      clear a0 a1 hall
      go_wp2
      go_ret
      exact FIN.out
end Go.Proofs.YtncdbjflfhfddaaGreat
