/- Package mem: what goes wrong with so many bytes at a pointer. -/
import Derived.Test.YtnhbaigagphpmaaKBlock
import Derived.Deep.RegionHeld3
namespace Go.Proofs.Ytnhbaigagphpmaa
open Go.ChangeShapes Go.WideShapes Go.ChangeAt Go.RowKit Go.Joins Go.Deep
set_option linter.unusedVariables false

theorem InM.off {m : List BK} {p : SC} (h : hasM m p = true) : 0 ≤ p.o ∧ p.o ≤ 32 := by
  unfold hasM at h
  simp only [Bool.and_eq_true, decide_eq_true_eq] at h
  obtain ⟨hm, hp, hb⟩ := h
  obtain ⟨pp, pn, pb, po⟩ := p
  rw [mayS7, mayP_eq] at hp
  simp [upTo] at hp
  dsimp only
  omega
theorem reach_null {m : List BK} {p : SC} {n : Nat} (h : (atM m p).st ≠ 1) : reachM m p n = 2 := by unfold reachM; rw [if_pos h]
theorem reach_bounds {m : List BK} {p : SC} {n : Nat} (h : (atM m p).st = 1) (h1 : (atM m p).ys.length < p.o + n) : reachM m p n = 1 := by unfold reachM; rw [if_neg (by simpa using h), if_pos h1]
theorem reach_align {m : List BK} {p : SC} {n : Nat} (h : (atM m p).st = 1) (h1 : ¬ ((atM m p).ys.length < p.o + n)) (h2 : p.o % n ≠ 0) : reachM m p n = 3 := by unfold reachM; rw [if_neg (by simpa using h), if_neg h1, if_pos h2]
theorem reach_ok {m : List BK} {p : SC} {n : Nat} (h : (atM m p).st = 1) (h1 : ¬ ((atM m p).ys.length < p.o + n)) (h2 : p.o % n = 0) : reachM m p n = 0 := by unfold reachM; rw [if_neg (by simpa using h), if_neg h1, if_neg (by simpa using h2)]
def ReachPost (v : Int) (w : World) (e : Ending) (w' : World) : Prop := e = .returned (.int .i64 v) ∧ Below w.heap.size w w'
set_option maxRecDepth 100000 in
set_option maxHeartbeats 3200000 in
theorem reach_any (rb : Nat) (q : Option Addr) (len cap : Nat) (m : List BK) (p : SC) (n : Nat) (hn : n = 1 ∨ n = 2 ∨ n = 4) (hp : InM m p) (ho : 0 ≤ p.o ∧ p.o ≤ 32) (w : World) (hx : IsMem w q len m) (h : MemDone w rb (.slice q len cap) m) :
    Calls Try.prog 46 #[.pointer (some ⟨rb, 0, none⟩), scV p, .int .i64 (n : Nat)] w (ReachPost (reachM m p n) w) := by
  have hln : (atM m p).ys.length ≤ 1000 := by
    obtain ⟨k, hk, hkl⟩ := hp
    rw [atM_eq hk]
    obtain ⟨hl, hlen, hc⟩ := hx
    obtain ⟨b, off, rfl, hbb, hcells⟩ := hc (by omega)
    exact (hcells k (by omega)).2.2.1.1
  have cA := fun w hx h => isAlive_any rb q len cap m p hp w hx h
  have cB := fun w hx h => block_any rb q len cap m p hp w hx h
  have hb0 := below_box1 w (.cells #[.bool p.p, .int .i64 p.n, .int .i64 p.b, .int .i64 p.o] 33)
  have dX := At.new w #[.bool p.p, .int .i64 p.n, .int .i64 p.b, .int .i64 p.o] 33
  have hx1 := hx.below hb0
  have hd1 := MemDone.below h hb0 h.lt
  have rN := fun h => reach_null (m := m) (p := p) (n := n) h
  have rB := fun h h1 => reach_bounds (m := m) (p := p) (n := n) h h1
  have rA := fun h h1 h2 => reach_align (m := m) (p := p) (n := n) h h1 h2
  have rO := fun h h1 h2 => reach_ok (m := m) (p := p) (n := n) h h1 h2
  have hf1 := fun x y w => fld1 x y w
  have HX := Lib.hid hx1
  have HD := Lib.hid hd1
  have HS := hd1.lt
  clear hx h hx1 hd1 hp
  generalize atM m p = x at *
  generalize reachM m p n = rv at *
  obtain ⟨s, xq, xc, ys⟩ := x
  obtain ⟨pp, pn, pb, po⟩ := p
  rw [scV_eq] at *
  unfold bkV at cB
  dsimp only at *
  generalize ys.length = L at *
  by_cases hs : s = 1
  · have t1 : (s == 1) = true := by rw [hs]; rfl
    rw [t1] at cA
    have hcase : (L : Int) < po + n ∨ (¬ (L : Int) < po + n ∧ po % (n : Int) = 0) ∨ (¬ (L : Int) < po + n ∧ po % (n : Int) ≠ 0) := by
      by_cases h1 : (L : Int) < po + n
      · exact Or.inl h1
      · by_cases h2 : po % (n : Int) = 0
        · exact Or.inr (Or.inl ⟨h1, h2⟩)
        · exact Or.inr (Or.inr ⟨h1, h2⟩)
    have iw : IntKind.i64.wrap (po + (n : Int)) = po + n := by rw [IntKind.wrap_i64]; omega
    have hpo1 : 0 ≤ po := ho.1
    have hpo2 : po ≤ 32 := ho.2
    have ht : po.tmod (n : Int) = po % (n : Int) := Int.tmod_eq_emod_of_nonneg hpo1
    have hn4 : n ≤ 4 := by omega
    have hn1 : 1 ≤ n := by omega
    have hn0 : ((n : Int) == 0) = false := by rw [beq_eq_false_iff_ne]; omega
    have hn00 : ¬ ((n : Int) = 0) := by omega
    have HN := Lib.hid hn
    clear hn ho
    rcases hcase with h1 | ⟨h1, h2⟩ | ⟨h1, h2⟩
    · obtain rfl := rB hs h1
      clear rN rB rA rO hs t1 ht
      go_enter Try.func46, Try.ntmps46
      go_wp2_with fail
      refine (cA _ HX.out HD.out).mono ?_
      rintro e w2 ⟨rfl, hb2⟩
      have dX2 := At.below' hb2 dX
      have x0 : w2.cell? ⟨w.heap.size, 0, none⟩ = some (.bool pp) := dX2.cell 0 rfl
      have x1 : w2.cell? ⟨w.heap.size, 1, none⟩ = some (.int .i64 pn) := dX2.cell 1 rfl
      have x2 : w2.cell? ⟨w.heap.size, 2, none⟩ = some (.int .i64 pb) := dX2.cell 2 rfl
      have x3 : w2.cell? ⟨w.heap.size, 3, none⟩ = some (.int .i64 po) := dX2.cell 3 rfl
      have cB2 := fun w2' (h : Below w2.heap.size w2 w2') => cB w2' ((HX.out.below hb2).below h) ((HD.out.below hb2 HS).below h (Nat.lt_of_lt_of_le HS hb2.size))
      go_wp2_with fail
      go_region_with (first
        | (go_at_call 70; (refine (cB2 _ ((Below.refl _ _).drew)).mono ?_); rintro e w3 ⟨rfl, hb3⟩
           have dX3 := At.below' hb3 dX2.drew
           have z0 : w3.cell? ⟨w.heap.size, 0, none⟩ = some (.bool pp) := dX3.cell 0 rfl
           have z1 : w3.cell? ⟨w.heap.size, 1, none⟩ = some (.int .i64 pn) := dX3.cell 1 rfl
           have z2 : w3.cell? ⟨w.heap.size, 2, none⟩ = some (.int .i64 pb) := dX3.cell 2 rfl
           have z3 : w3.cell? ⟨w.heap.size, 3, none⟩ = some (.int .i64 po) := dX3.cell 3 rfl))
      all_goals
        go_wp2
        go_ret
        exact ⟨rfl, ((hb0.trans (hb2.mono hb0.size)).drew).trans (hb3.mono (Nat.le_trans hb0.size hb2.size))⟩
    · obtain rfl := rO hs h1 h2
      clear rN rB rA rO hs t1 ht
      go_enter Try.func46, Try.ntmps46
      go_wp2_with fail
      refine (cA _ HX.out HD.out).mono ?_
      rintro e w2 ⟨rfl, hb2⟩
      have dX2 := At.below' hb2 dX
      have x0 : w2.cell? ⟨w.heap.size, 0, none⟩ = some (.bool pp) := dX2.cell 0 rfl
      have x1 : w2.cell? ⟨w.heap.size, 1, none⟩ = some (.int .i64 pn) := dX2.cell 1 rfl
      have x2 : w2.cell? ⟨w.heap.size, 2, none⟩ = some (.int .i64 pb) := dX2.cell 2 rfl
      have x3 : w2.cell? ⟨w.heap.size, 3, none⟩ = some (.int .i64 po) := dX2.cell 3 rfl
      have cB2 := fun w2' (h : Below w2.heap.size w2 w2') => cB w2' ((HX.out.below hb2).below h) ((HD.out.below hb2 HS).below h (Nat.lt_of_lt_of_le HS hb2.size))
      go_wp2_with fail
      go_region_with (first
        | (go_at_call 70; (refine (cB2 _ ((Below.refl _ _).drew)).mono ?_); rintro e w3 ⟨rfl, hb3⟩
           have dX3 := At.below' hb3 dX2.drew
           have z0 : w3.cell? ⟨w.heap.size, 0, none⟩ = some (.bool pp) := dX3.cell 0 rfl
           have z1 : w3.cell? ⟨w.heap.size, 1, none⟩ = some (.int .i64 pn) := dX3.cell 1 rfl
           have z2 : w3.cell? ⟨w.heap.size, 2, none⟩ = some (.int .i64 pb) := dX3.cell 2 rfl
           have z3 : w3.cell? ⟨w.heap.size, 3, none⟩ = some (.int .i64 po) := dX3.cell 3 rfl))
      all_goals
        go_wp2
        go_ret
        exact ⟨rfl, ((hb0.trans (hb2.mono hb0.size)).drew).trans (hb3.mono (Nat.le_trans hb0.size hb2.size))⟩
    · obtain rfl := rA hs h1 h2
      clear rN rB rA rO hs t1 ht
      go_enter Try.func46, Try.ntmps46
      go_wp2_with fail
      refine (cA _ HX.out HD.out).mono ?_
      rintro e w2 ⟨rfl, hb2⟩
      have dX2 := At.below' hb2 dX
      have x0 : w2.cell? ⟨w.heap.size, 0, none⟩ = some (.bool pp) := dX2.cell 0 rfl
      have x1 : w2.cell? ⟨w.heap.size, 1, none⟩ = some (.int .i64 pn) := dX2.cell 1 rfl
      have x2 : w2.cell? ⟨w.heap.size, 2, none⟩ = some (.int .i64 pb) := dX2.cell 2 rfl
      have x3 : w2.cell? ⟨w.heap.size, 3, none⟩ = some (.int .i64 po) := dX2.cell 3 rfl
      have cB2 := fun w2' (h : Below w2.heap.size w2 w2') => cB w2' ((HX.out.below hb2).below h) ((HD.out.below hb2 HS).below h (Nat.lt_of_lt_of_le HS hb2.size))
      go_wp2_with fail
      go_region_with (first
        | (go_at_call 70; (refine (cB2 _ ((Below.refl _ _).drew)).mono ?_); rintro e w3 ⟨rfl, hb3⟩
           have dX3 := At.below' hb3 dX2.drew
           have z0 : w3.cell? ⟨w.heap.size, 0, none⟩ = some (.bool pp) := dX3.cell 0 rfl
           have z1 : w3.cell? ⟨w.heap.size, 1, none⟩ = some (.int .i64 pn) := dX3.cell 1 rfl
           have z2 : w3.cell? ⟨w.heap.size, 2, none⟩ = some (.int .i64 pb) := dX3.cell 2 rfl
           have z3 : w3.cell? ⟨w.heap.size, 3, none⟩ = some (.int .i64 po) := dX3.cell 3 rfl))
      all_goals
        go_wp2
        go_ret
        exact ⟨rfl, ((hb0.trans (hb2.mono hb0.size)).drew).trans (hb3.mono (Nat.le_trans hb0.size hb2.size))⟩
  · obtain rfl := rN hs
    have t1 : (s == 1) = false := by rw [beq_eq_false_iff_ne]; exact hs
    rw [t1] at cA
    clear rN rB rA rO hs t1 cB
    go_enter Try.func46, Try.ntmps46
    go_wp2_with fail
    refine (cA _ HX.out HD.out).mono ?_
    rintro e w2 ⟨rfl, hb2⟩
    go_wp2
    go_ret
    exact ⟨rfl, hb0.trans (hb2.mono hb0.size)⟩
end Go.Proofs.Ytnhbaigagphpmaa
