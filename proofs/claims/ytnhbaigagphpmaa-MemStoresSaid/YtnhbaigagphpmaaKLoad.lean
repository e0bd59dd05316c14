/- Package mem: Load. -/
import Derived.Test.YtnhbaigagphpmaaKReach
import Derived.Test.YtnhbaigagphpmaaBGet
import Derived.Deep.Cut
import Derived.Deep.CutRange
import Derived.Deep.RegionHeld3
namespace Go.Proofs.Ytnhbaigagphpmaa
open Go.ChangeShapes Go.WideShapes Go.ChangeAt Go.RowKit Go.Joins Go.Deep
set_option linter.unusedVariables false

def LoadPost (s : SC) (bad ev : Int) (w : World) (e : Ending) (w' : World) : Prop := e = .returned (.tuple #[scA s, .int .i64 bad, .int .i64 ev]) ∧ Below w.heap.size w w'
/-- the bytes that lie there -/
def partM (m : List BK) (p : SC) (n : Nat) : List BY := ((atM m p).ys.drop p.o.toNat).take n
def loadS (big : Bool) (pp k : Int) (m : List BK) (p : SC) : SC × Int :=
  if reachM m p (sizN pp k) ≠ 0 then (noS, reachM m p (sizN pp k)) else getS big k (partM m p (sizN pp k))
/-- what stays as it was while Load's last region runs -/
def LSt (A P rb : Nat) (big : Bool) (pp : Int) (p0 : Bool) (p1 p2 p3 : Int) (sl : Value) (m : List BK) (wl w : World) : Prop :=
  At w A #[.bool big, .int .i64 pp] 38 ∧ At w P #[.bool p0, .int .i64 p1, .int .i64 p2, .int .i64 p3] 33 ∧ MemDone w rb sl m ∧ Below wl.heap.size wl w
theorem LSt.all {A P rb : Nat} {big : Bool} {pp : Int} {p0 : Bool} {p1 p2 p3 : Int} {sl : Value} {m : List BK} {wl w : World} (h : LSt A P rb big pp p0 p1 p2 p3 sl m wl w) : w.cell? ⟨A, 0, none⟩ = some (.bool big) ∧ w.cell? ⟨A, 1, none⟩ = some (.int .i64 pp) ∧ w.cell? ⟨P, 0, none⟩ = some (.bool p0) ∧ w.cell? ⟨P, 1, none⟩ = some (.int .i64 p1) ∧ w.cell? ⟨P, 2, none⟩ = some (.int .i64 p2) ∧ w.cell? ⟨P, 3, none⟩ = some (.int .i64 p3) ∧ LSt A P rb big pp p0 p1 p2 p3 sl m wl w :=
  ⟨h.1.cell 0 rfl, h.1.cell 1 rfl, h.2.1.cell 0 rfl, h.2.1.cell 1 rfl, h.2.1.cell 2 rfl, h.2.1.cell 3 rfl, h⟩
theorem LSt.of {A P rb : Nat} {big : Bool} {pp : Int} {p0 : Bool} {p1 p2 p3 : Int} {sl : Value} {m : List BK} {wl w : World} (h : w.cell? ⟨A, 0, none⟩ = some (.bool big) ∧ w.cell? ⟨A, 1, none⟩ = some (.int .i64 pp) ∧ w.cell? ⟨P, 0, none⟩ = some (.bool p0) ∧ w.cell? ⟨P, 1, none⟩ = some (.int .i64 p1) ∧ w.cell? ⟨P, 2, none⟩ = some (.int .i64 p2) ∧ w.cell? ⟨P, 3, none⟩ = some (.int .i64 p3) ∧ LSt A P rb big pp p0 p1 p2 p3 sl m wl w) : LSt A P rb big pp p0 p1 p2 p3 sl m wl w := h.2.2.2.2.2.2
theorem LSt.bel {A P rb : Nat} {big : Bool} {pp : Int} {p0 : Bool} {p1 p2 p3 : Int} {sl : Value} {m : List BK} {wl w : World} (h : w.cell? ⟨A, 0, none⟩ = some (.bool big) ∧ w.cell? ⟨A, 1, none⟩ = some (.int .i64 pp) ∧ w.cell? ⟨P, 0, none⟩ = some (.bool p0) ∧ w.cell? ⟨P, 1, none⟩ = some (.int .i64 p1) ∧ w.cell? ⟨P, 2, none⟩ = some (.int .i64 p2) ∧ w.cell? ⟨P, 3, none⟩ = some (.int .i64 p3) ∧ LSt A P rb big pp p0 p1 p2 p3 sl m wl w) : Below wl.heap.size wl w := (LSt.of h).2.2.2
theorem LSt.don {A P rb : Nat} {big : Bool} {pp : Int} {p0 : Bool} {p1 p2 p3 : Int} {sl : Value} {m : List BK} {wl w : World} (h : w.cell? ⟨A, 0, none⟩ = some (.bool big) ∧ w.cell? ⟨A, 1, none⟩ = some (.int .i64 pp) ∧ w.cell? ⟨P, 0, none⟩ = some (.bool p0) ∧ w.cell? ⟨P, 1, none⟩ = some (.int .i64 p1) ∧ w.cell? ⟨P, 2, none⟩ = some (.int .i64 p2) ∧ w.cell? ⟨P, 3, none⟩ = some (.int .i64 p3) ∧ LSt A P rb big pp p0 p1 p2 p3 sl m wl w) : MemDone w rb sl m := (LSt.of h).2.2.1
theorem keepLd {A P rb : Nat} {big : Bool} {pp : Int} {p0 : Bool} {p1 p2 p3 : Int} {sl : Value} {m : List BK} {wl w w' : World} (h : w.cell? ⟨A, 0, none⟩ = some (.bool big) ∧ w.cell? ⟨A, 1, none⟩ = some (.int .i64 pp) ∧ w.cell? ⟨P, 0, none⟩ = some (.bool p0) ∧ w.cell? ⟨P, 1, none⟩ = some (.int .i64 p1) ∧ w.cell? ⟨P, 2, none⟩ = some (.int .i64 p2) ∧ w.cell? ⟨P, 3, none⟩ = some (.int .i64 p3) ∧ LSt A P rb big pp p0 p1 p2 p3 sl m wl w) (hb : Below w.heap.size w w') : w'.cell? ⟨A, 0, none⟩ = some (.bool big) ∧ w'.cell? ⟨A, 1, none⟩ = some (.int .i64 pp) ∧ w'.cell? ⟨P, 0, none⟩ = some (.bool p0) ∧ w'.cell? ⟨P, 1, none⟩ = some (.int .i64 p1) ∧ w'.cell? ⟨P, 2, none⟩ = some (.int .i64 p2) ∧ w'.cell? ⟨P, 3, none⟩ = some (.int .i64 p3) ∧ LSt A P rb big pp p0 p1 p2 p3 sl m wl w' := by
  obtain ⟨a, b, c, d⟩ := LSt.of h
  exact LSt.all ⟨At.below' hb a, At.below' hb b, At.below' hb c, d.trans (hb.mono d.size)⟩
theorem keepLs {A P rb : Nat} {big : Bool} {pp : Int} {p0 : Bool} {p1 p2 p3 : Int} {sl : Value} {m : List BK} {wl w : World} (h : w.cell? ⟨A, 0, none⟩ = some (.bool big) ∧ w.cell? ⟨A, 1, none⟩ = some (.int .i64 pp) ∧ w.cell? ⟨P, 0, none⟩ = some (.bool p0) ∧ w.cell? ⟨P, 1, none⟩ = some (.int .i64 p1) ∧ w.cell? ⟨P, 2, none⟩ = some (.int .i64 p2) ∧ w.cell? ⟨P, 3, none⟩ = some (.int .i64 p3) ∧ LSt A P rb big pp p0 p1 p2 p3 sl m wl w) {B i : Nat} {x : Value} (h1 : A ≠ B) (h2 : P ≠ B) (h3 : rb ≠ B) (h4 : wl.heap.size ≤ B) : (w.setCell ⟨B, i, none⟩ x).cell? ⟨A, 0, none⟩ = some (.bool big) ∧ (w.setCell ⟨B, i, none⟩ x).cell? ⟨A, 1, none⟩ = some (.int .i64 pp) ∧ (w.setCell ⟨B, i, none⟩ x).cell? ⟨P, 0, none⟩ = some (.bool p0) ∧ (w.setCell ⟨B, i, none⟩ x).cell? ⟨P, 1, none⟩ = some (.int .i64 p1) ∧ (w.setCell ⟨B, i, none⟩ x).cell? ⟨P, 2, none⟩ = some (.int .i64 p2) ∧ (w.setCell ⟨B, i, none⟩ x).cell? ⟨P, 3, none⟩ = some (.int .i64 p3) ∧ LSt A P rb big pp p0 p1 p2 p3 sl m wl (w.setCell ⟨B, i, none⟩ x) := by
  obtain ⟨a, b, c, d⟩ := LSt.of h
  exact LSt.all ⟨(Below.heap_setCell w ⟨B, i, none⟩ x A h1).trans a, (Below.heap_setCell w ⟨B, i, none⟩ x P h2).trans b, (Below.heap_setCell w ⟨B, i, none⟩ x rb h3).trans c, d.setCell (p := ⟨B, i, none⟩) h4 x⟩
theorem wrapT_1 {o n t : Nat} (h : t = o + n) (h2 : t ≤ 2000) : IntKind.i64.wrap ((o : Int) + (n : Int)) = (t : Int) := by rw [IntKind.wrap_i64]; omega
theorem wrapT_2 {o n t : Nat} (h : t = o + n) (h2 : t ≤ 2000) : wrap64 ((o : Int) + (n : Int)) = (t : Int) := by unfold wrap64; omega
theorem wrapT_3 {o n t : Nat} (h : t = o + n) : (o : Int) + (n : Int) = (t : Int) := by omega
theorem wrapT_4 {t : Nat} (h2 : t ≤ 2000) : IntKind.i64.wrap (t : Int) = (t : Int) := by rw [IntKind.wrap_i64]; omega
theorem wrapT_5 {t : Nat} (h2 : t ≤ 2000) : wrap64 (t : Int) = (t : Int) := by unfold wrap64; omega
theorem below_box3 (w : World) (o o' o'' : Obj) : Below w.heap.size w (((w.alloc o).alloc o').alloc o'') := (below_box2 w o o').alloc (by simp; omega) _
theorem At.new3 (w : World) (o o' : Obj) (cs : Array Value) (t : TypeId) : At (((w.alloc o).alloc o').alloc (.cells cs t)) (w.heap.size + 2) cs t := by simpa using At.new ((w.alloc o).alloc o') cs t
theorem reach_cases {m : List BK} {p : SC} {n : Nat} : reachM m p n = 0 ∨ reachM m p n = 1 ∨ reachM m p n = 2 ∨ reachM m p n = 3 := by
  unfold reachM; split
  · exact Or.inr (Or.inr (Or.inl rfl))
  · split
    · exact Or.inr (Or.inl rfl)
    · split
      · exact Or.inr (Or.inr (Or.inr rfl))
      · exact Or.inl rfl
theorem reach_0 {m : List BK} {p : SC} {n : Nat} (h : reachM m p n = 0) : (atM m p).st = 1 ∧ p.o + n ≤ (atM m p).ys.length ∧ p.o % n = 0 := by
  unfold reachM at h
  split at h
  · simp at h
  · rename_i h1
    split at h
    · simp at h
    · rename_i h2
      split at h
      · simp at h
      · rename_i h3
        exact ⟨by simpa using h1, by omega, by simpa using h3⟩
set_option maxRecDepth 100000 in
set_option maxHeartbeats 3200000 in
theorem Load_no1 (big : Bool) (pp k : Int) (q : Option Addr) (len cap : Nat) (m : List BK) (p : SC) (h : ¬ (mayA pp ∧ 1 ≤ k ∧ k ≤ 7)) (w : World) (hx : IsMem w q len m) :
    Calls Try.prog 51 #[.agg #[.bool big, .int .i64 pp], .slice q len cap, scV p, .int .i64 k] w (LoadPost noS 0 1 w) := by
  have cS := fun w => Size_no big pp k h w
  clear h
  obtain ⟨p0, p1, p2, p3⟩ := p
  rw [scV_eq] at *
  try dsimp only at *
  have dA := At.alloc (At.alloc (At.new w #[.bool big, .int .i64 pp] 38) (.cells #[.bool p0, .int .i64 p1, .int .i64 p2, .int .i64 p3] 33)) (.cells #[.bool false, .int .i64 0, .int .i64 0, .int .i64 0] 33)
  have dP := At.alloc (At.new2 w (.cells #[.bool big, .int .i64 pp] 38) #[.bool p0, .int .i64 p1, .int .i64 p2, .int .i64 p3] 33) (.cells #[.bool false, .int .i64 0, .int .i64 0, .int .i64 0] 33)
  have dS := At.new3 w (.cells #[.bool big, .int .i64 pp] 38) (.cells #[.bool p0, .int .i64 p1, .int .i64 p2, .int .i64 p3] 33) #[.bool false, .int .i64 0, .int .i64 0, .int .i64 0] 33
  have hb0 := below_box3 w (.cells #[.bool big, .int .i64 pp] 38) (.cells #[.bool p0, .int .i64 p1, .int .i64 p2, .int .i64 p3] 33) (.cells #[.bool false, .int .i64 0, .int .i64 0, .int .i64 0] 33)
  have cT := fun w => take_any q len cap w
  have HX := Lib.hid hx
  clear hx
  go_enter Try.func51, Try.ntmps51
  go_wp2_with fail
  refine (cT _).mono ?_
  rintro e w1 ⟨rb, rfl, hge, hM, hb2⟩
  replace dA := At.below' hb2 dA
  replace dP := At.below' hb2 dP
  replace dS := At.below' hb2 dS
  have hrb : w.heap.size + 2 < rb := by have := hge; simp at this; omega
  replace hb0 := hb0.trans (hb2.mono hb0.size)
  clear hb2 hge cT
  have a0 : w1.cell? ⟨w.heap.size, 0, none⟩ = some (.bool big) := dA.cell 0 rfl
  have a1 : w1.cell? ⟨w.heap.size, 1, none⟩ = some (.int .i64 pp) := dA.cell 1 rfl
  go_wp2_with fail
  refine (cS _).mono ?_
  rintro e w2 ⟨rfl, hb2⟩
  replace dA := At.below' hb2 dA
  replace dP := At.below' hb2 dP
  replace dS := At.below' hb2 dS
  replace hM : MemNew w2 rb (.slice q len cap) := At.below' hb2 hM
  replace hb0 := hb0.trans (hb2.mono hb0.size)
  clear hb2 cS a0 a1
  have st := store4 dS (.bool false) (.int .i64 0) (.int .i64 0) (.int .i64 0)
  have E1 := store4_at dS (.bool false) (.int .i64 0) (.int .i64 0) (.int .i64 0)
  have E2 := store4_below hb0 (show w.heap.size ≤ w.heap.size + 2 by omega) (.bool false) (.int .i64 0) (.int .i64 0) (.int .i64 0)
  clear dS hb0
  go_wp2_with fail
  generalize ((((w2.setCell ⟨(w.heap.size + 2), 0, none⟩ (.bool false)).setCell ⟨(w.heap.size + 2), 1, none⟩ (.int .i64 0)).setCell ⟨(w.heap.size + 2), 2, none⟩ (.int .i64 0)).setCell ⟨(w.heap.size + 2), 3, none⟩ (.int .i64 0)) = wz at E1 E2 ⊢
  have g0 : wz.cell? ⟨w.heap.size + 2, 0, none⟩ = some (.bool false) := E1.cell 0 rfl
  have g1 : wz.cell? ⟨w.heap.size + 2, 1, none⟩ = some (.int .i64 0) := E1.cell 1 rfl
  have g2 : wz.cell? ⟨w.heap.size + 2, 2, none⟩ = some (.int .i64 0) := E1.cell 2 rfl
  have g3 : wz.cell? ⟨w.heap.size + 2, 3, none⟩ = some (.int .i64 0) := E1.cell 3 rfl
  exact bodyPost_ret (v := .tuple #[.agg #[.bool false, .int .i64 0, .int .i64 0, .int .i64 0], .int .i64 0, .int .i64 1]) (by simp [results, Try.results51, go_sem, g0, g1, g2, g3]) rfl ⟨rfl, E2⟩
set_option maxRecDepth 100000 in
set_option maxHeartbeats 3200000 in
theorem Load_no2 (big : Bool) (pp k : Int) (q : Option Addr) (len cap : Nat) (m : List BK) (p : SC) (hp : mayA pp) (hk : 1 ≤ k ∧ k ≤ 7) (hH : hasM m p = false) (w : World) (hx : IsMem w q len m) :
    Calls Try.prog 51 #[.agg #[.bool big, .int .i64 pp], .slice q len cap, scV p, .int .i64 k] w (LoadPost noS 0 1 w) := by
  have cS := fun w => Size_yes big pp k hp hk w
  clear hp hk
  obtain ⟨p0, p1, p2, p3⟩ := p
  rw [scV_eq] at *
  try dsimp only at *
  have dA := At.alloc (At.alloc (At.new w #[.bool big, .int .i64 pp] 38) (.cells #[.bool p0, .int .i64 p1, .int .i64 p2, .int .i64 p3] 33)) (.cells #[.bool false, .int .i64 0, .int .i64 0, .int .i64 0] 33)
  have dP := At.alloc (At.new2 w (.cells #[.bool big, .int .i64 pp] 38) #[.bool p0, .int .i64 p1, .int .i64 p2, .int .i64 p3] 33) (.cells #[.bool false, .int .i64 0, .int .i64 0, .int .i64 0] 33)
  have dS := At.new3 w (.cells #[.bool big, .int .i64 pp] 38) (.cells #[.bool p0, .int .i64 p1, .int .i64 p2, .int .i64 p3] 33) #[.bool false, .int .i64 0, .int .i64 0, .int .i64 0] 33
  have hb0 := below_box3 w (.cells #[.bool big, .int .i64 pp] 38) (.cells #[.bool p0, .int .i64 p1, .int .i64 p2, .int .i64 p3] 33) (.cells #[.bool false, .int .i64 0, .int .i64 0, .int .i64 0] 33)
  have cT := fun w => take_any q len cap w
  have HX := Lib.hid hx
  clear hx
  go_enter Try.func51, Try.ntmps51
  go_wp2_with fail
  refine (cT _).mono ?_
  rintro e w1 ⟨rb, rfl, hge, hM, hb2⟩
  replace dA := At.below' hb2 dA
  replace dP := At.below' hb2 dP
  replace dS := At.below' hb2 dS
  have hrb : w.heap.size + 2 < rb := by have := hge; simp at this; omega
  replace hb0 := hb0.trans (hb2.mono hb0.size)
  clear hb2 hge cT
  have a0 : w1.cell? ⟨w.heap.size, 0, none⟩ = some (.bool big) := dA.cell 0 rfl
  have a1 : w1.cell? ⟨w.heap.size, 1, none⟩ = some (.int .i64 pp) := dA.cell 1 rfl
  go_wp2_with fail
  refine (cS _).mono ?_
  rintro e w2 ⟨rfl, hb2⟩
  replace dA := At.below' hb2 dA
  replace dP := At.below' hb2 dP
  replace dS := At.below' hb2 dS
  replace hM : MemNew w2 rb (.slice q len cap) := At.below' hb2 hM
  replace hb0 := hb0.trans (hb2.mono hb0.size)
  clear hb2 cS a0 a1
  have hlt := At.lt hM
  have hcH := hasM_first rb q len cap m ⟨p0, p1, p2, p3⟩ w w2 HX.out hb0 (by omega) hM
  unfold HasMPost at hcH
  rw [hH] at hcH
  rw [scV_eq] at hcH
  have x0 : w2.cell? ⟨w.heap.size + 1, 0, none⟩ = some (.bool p0) := dP.cell 0 rfl
  have x1 : w2.cell? ⟨w.heap.size + 1, 1, none⟩ = some (.int .i64 p1) := dP.cell 1 rfl
  have x2 : w2.cell? ⟨w.heap.size + 1, 2, none⟩ = some (.int .i64 p2) := dP.cell 2 rfl
  have x3 : w2.cell? ⟨w.heap.size + 1, 3, none⟩ = some (.int .i64 p3) := dP.cell 3 rfl
  go_wp2_with fail
  refine hcH.mono ?_
  rintro e w3 ⟨rfl, hd, hO⟩
  replace dA := hO.at dA (by omega)
  replace dP := hO.at dP (by omega)
  replace dS := hO.at dS (by omega)
  replace hb0 := hb0.trans (hO.1.mono (by omega))
  clear hcH hO hM x0 x1 x2 x3
  clear hd
  have st := store4 dS (.bool false) (.int .i64 0) (.int .i64 0) (.int .i64 0)
  have E1 := store4_at dS (.bool false) (.int .i64 0) (.int .i64 0) (.int .i64 0)
  have E2 := store4_below hb0 (show w.heap.size ≤ w.heap.size + 2 by omega) (.bool false) (.int .i64 0) (.int .i64 0) (.int .i64 0)
  clear dS hb0
  go_wp2_with fail
  generalize ((((w3.setCell ⟨(w.heap.size + 2), 0, none⟩ (.bool false)).setCell ⟨(w.heap.size + 2), 1, none⟩ (.int .i64 0)).setCell ⟨(w.heap.size + 2), 2, none⟩ (.int .i64 0)).setCell ⟨(w.heap.size + 2), 3, none⟩ (.int .i64 0)) = wz at E1 E2 ⊢
  have g0 : wz.cell? ⟨w.heap.size + 2, 0, none⟩ = some (.bool false) := E1.cell 0 rfl
  have g1 : wz.cell? ⟨w.heap.size + 2, 1, none⟩ = some (.int .i64 0) := E1.cell 1 rfl
  have g2 : wz.cell? ⟨w.heap.size + 2, 2, none⟩ = some (.int .i64 0) := E1.cell 2 rfl
  have g3 : wz.cell? ⟨w.heap.size + 2, 3, none⟩ = some (.int .i64 0) := E1.cell 3 rfl
  exact bodyPost_ret (v := .tuple #[.agg #[.bool false, .int .i64 0, .int .i64 0, .int .i64 0], .int .i64 0, .int .i64 1]) (by simp [results, Try.results51, go_sem, g0, g1, g2, g3]) rfl ⟨rfl, E2⟩
set_option maxRecDepth 100000 in
set_option maxHeartbeats 3200000 in
theorem Load_bad (big : Bool) (pp k : Int) (q : Option Addr) (len cap : Nat) (m : List BK) (p : SC) (hp : mayA pp) (hk : 1 ≤ k ∧ k ≤ 7) (hH : hasM m p = true) (v : Int) (hR : reachM m p (sizN pp k) = v) (hv : v ≠ 0) (w : World) (hx : IsMem w q len m) :
    Calls Try.prog 51 #[.agg #[.bool big, .int .i64 pp], .slice q len cap, scV p, .int .i64 k] w (LoadPost noS v 0 w) := by
  have cS := fun w => Size_yes big pp k hp hk w
  have hn := siz_cases hp hk
  have HI := Lib.hid (InM.of hH)
  have HO := Lib.hid (InM.off hH)
  have HMM := Lib.hid (show mayM m = true by unfold hasM at hH; simp only [Bool.and_eq_true] at hH; exact hH.1)
  generalize sizN pp k = n at *
  have HN := Lib.hid hn
  clear hp hk hn
  obtain ⟨p0, p1, p2, p3⟩ := p
  rw [scV_eq] at *
  try dsimp only at *
  have dA := At.alloc (At.alloc (At.new w #[.bool big, .int .i64 pp] 38) (.cells #[.bool p0, .int .i64 p1, .int .i64 p2, .int .i64 p3] 33)) (.cells #[.bool false, .int .i64 0, .int .i64 0, .int .i64 0] 33)
  have dP := At.alloc (At.new2 w (.cells #[.bool big, .int .i64 pp] 38) #[.bool p0, .int .i64 p1, .int .i64 p2, .int .i64 p3] 33) (.cells #[.bool false, .int .i64 0, .int .i64 0, .int .i64 0] 33)
  have dS := At.new3 w (.cells #[.bool big, .int .i64 pp] 38) (.cells #[.bool p0, .int .i64 p1, .int .i64 p2, .int .i64 p3] 33) #[.bool false, .int .i64 0, .int .i64 0, .int .i64 0] 33
  have hb0 := below_box3 w (.cells #[.bool big, .int .i64 pp] 38) (.cells #[.bool p0, .int .i64 p1, .int .i64 p2, .int .i64 p3] 33) (.cells #[.bool false, .int .i64 0, .int .i64 0, .int .i64 0] 33)
  have cT := fun w => take_any q len cap w
  have HX := Lib.hid hx
  clear hx
  go_enter Try.func51, Try.ntmps51
  go_wp2_with fail
  refine (cT _).mono ?_
  rintro e w1 ⟨rb, rfl, hge, hM, hb2⟩
  replace dA := At.below' hb2 dA
  replace dP := At.below' hb2 dP
  replace dS := At.below' hb2 dS
  have hrb : w.heap.size + 2 < rb := by have := hge; simp at this; omega
  replace hb0 := hb0.trans (hb2.mono hb0.size)
  clear hb2 hge cT
  have a0 : w1.cell? ⟨w.heap.size, 0, none⟩ = some (.bool big) := dA.cell 0 rfl
  have a1 : w1.cell? ⟨w.heap.size, 1, none⟩ = some (.int .i64 pp) := dA.cell 1 rfl
  go_wp2_with fail
  refine (cS _).mono ?_
  rintro e w2 ⟨rfl, hb2⟩
  replace dA := At.below' hb2 dA
  replace dP := At.below' hb2 dP
  replace dS := At.below' hb2 dS
  replace hM : MemNew w2 rb (.slice q len cap) := At.below' hb2 hM
  replace hb0 := hb0.trans (hb2.mono hb0.size)
  clear hb2 cS a0 a1
  have hlt := At.lt hM
  have hcH := hasM_first rb q len cap m ⟨p0, p1, p2, p3⟩ w w2 HX.out hb0 (by omega) hM
  unfold HasMPost at hcH
  rw [hH] at hcH
  rw [scV_eq] at hcH
  have x0 : w2.cell? ⟨w.heap.size + 1, 0, none⟩ = some (.bool p0) := dP.cell 0 rfl
  have x1 : w2.cell? ⟨w.heap.size + 1, 1, none⟩ = some (.int .i64 p1) := dP.cell 1 rfl
  have x2 : w2.cell? ⟨w.heap.size + 1, 2, none⟩ = some (.int .i64 p2) := dP.cell 2 rfl
  have x3 : w2.cell? ⟨w.heap.size + 1, 3, none⟩ = some (.int .i64 p3) := dP.cell 3 rfl
  go_wp2_with fail
  refine hcH.mono ?_
  rintro e w3 ⟨rfl, hd, hO⟩
  replace dA := hO.at dA (by omega)
  replace dP := hO.at dP (by omega)
  replace dS := hO.at dS (by omega)
  replace hb0 := hb0.trans (hO.1.mono (by omega))
  clear hcH hO hM x0 x1 x2 x3
  have hd2 := hd (HMM.out)
  have hlt3 := hd2.lt
  clear hd hlt
  have cR := reach_any rb q len cap m ⟨p0, p1, p2, p3⟩ n HN.out HI.out HO.out w3 (HX.out.below hb0) hd2
  rw [scV_eq] at cR
  have x0 : w3.cell? ⟨w.heap.size + 1, 0, none⟩ = some (.bool p0) := dP.cell 0 rfl
  have x1 : w3.cell? ⟨w.heap.size + 1, 1, none⟩ = some (.int .i64 p1) := dP.cell 1 rfl
  have x2 : w3.cell? ⟨w.heap.size + 1, 2, none⟩ = some (.int .i64 p2) := dP.cell 2 rfl
  have x3 : w3.cell? ⟨w.heap.size + 1, 3, none⟩ = some (.int .i64 p3) := dP.cell 3 rfl
  rw [hR] at cR
  have tv : (v == 0) = false := by rw [beq_eq_false_iff_ne]; exact hv
  clear hR hv
  go_wp2_with fail
  refine cR.mono ?_
  rintro e w4 ⟨rfl, hb2⟩
  replace dS := At.below' hb2 dS
  replace hb0 := hb0.trans (hb2.mono hb0.size)
  clear hb2 x0 x1 x2 x3 dA dP
  have st := store4 dS (.bool false) (.int .i64 0) (.int .i64 0) (.int .i64 0)
  have E1 := store4_at dS (.bool false) (.int .i64 0) (.int .i64 0) (.int .i64 0)
  have E2 := store4_below hb0 (show w.heap.size ≤ w.heap.size + 2 by omega) (.bool false) (.int .i64 0) (.int .i64 0) (.int .i64 0)
  clear dS hb0
  go_wp2_with fail
  generalize ((((w4.setCell ⟨(w.heap.size + 2), 0, none⟩ (.bool false)).setCell ⟨(w.heap.size + 2), 1, none⟩ (.int .i64 0)).setCell ⟨(w.heap.size + 2), 2, none⟩ (.int .i64 0)).setCell ⟨(w.heap.size + 2), 3, none⟩ (.int .i64 0)) = wz at E1 E2 ⊢
  have g0 : wz.cell? ⟨w.heap.size + 2, 0, none⟩ = some (.bool false) := E1.cell 0 rfl
  have g1 : wz.cell? ⟨w.heap.size + 2, 1, none⟩ = some (.int .i64 0) := E1.cell 1 rfl
  have g2 : wz.cell? ⟨w.heap.size + 2, 2, none⟩ = some (.int .i64 0) := E1.cell 2 rfl
  have g3 : wz.cell? ⟨w.heap.size + 2, 3, none⟩ = some (.int .i64 0) := E1.cell 3 rfl
  exact bodyPost_ret (v := .tuple #[.agg #[.bool false, .int .i64 0, .int .i64 0, .int .i64 0], .int .i64 v, .int .i64 0]) (by simp [results, Try.results51, go_sem, g0, g1, g2, g3]) rfl ⟨rfl, E2⟩
set_option maxRecDepth 100000 in
set_option maxHeartbeats 3200000 in
theorem Load_ok (big : Bool) (pp k : Int) (q : Option Addr) (len cap : Nat) (m : List BK) (p : SC) (hp : mayA pp) (hk : 1 ≤ k ∧ k ≤ 7) (hH : hasM m p = true) (hR : reachM m p (sizN pp k) = 0) (R : SC × Int) (hRR : getS big k (partM m p (sizN pp k)) = R) (w : World) (hx : IsMem w q len m) :
    Calls Try.prog 51 #[.agg #[.bool big, .int .i64 pp], .slice q len cap, scV p, .int .i64 k] w (LoadPost R.1 R.2 0 w) := by
  obtain ⟨⟨rp, rn, rbk, ro⟩, rbad⟩ := R
  have cS := fun w => Size_yes big pp k hp hk w
  have hn := siz_cases hp hk
  have HI := Lib.hid (InM.of hH)
  have HO := Lib.hid (InM.off hH)
  have HMM := Lib.hid (show mayM m = true by unfold hasM at hH; simp only [Bool.and_eq_true] at hH; exact hH.1)
  have HPK := Lib.hid (And.intro hp hk)
  have hr := reach_0 hR
  have hms : maysY (atM m p).ys = true := (mayK_len (mayM_at HMM.out _ (show p.b.toNat < m.length by obtain ⟨j, hj, hl⟩ := HI.out; omega))).2
  generalize hnn : sizN pp k = n at *
  have HNN := Lib.hid hnn
  have HN := Lib.hid hn
  have hn4 : n ≤ 4 := by omega
  have hn1 : 1 ≤ n := by omega
  clear hp hk hn hnn
  obtain ⟨p0, p1, p2, p3⟩ := p
  rw [scV_eq] at *
  try dsimp only at *
  have dA := At.alloc (At.alloc (At.new w #[.bool big, .int .i64 pp] 38) (.cells #[.bool p0, .int .i64 p1, .int .i64 p2, .int .i64 p3] 33)) (.cells #[.bool false, .int .i64 0, .int .i64 0, .int .i64 0] 33)
  have dP := At.alloc (At.new2 w (.cells #[.bool big, .int .i64 pp] 38) #[.bool p0, .int .i64 p1, .int .i64 p2, .int .i64 p3] 33) (.cells #[.bool false, .int .i64 0, .int .i64 0, .int .i64 0] 33)
  have dS := At.new3 w (.cells #[.bool big, .int .i64 pp] 38) (.cells #[.bool p0, .int .i64 p1, .int .i64 p2, .int .i64 p3] 33) #[.bool false, .int .i64 0, .int .i64 0, .int .i64 0] 33
  have hb0 := below_box3 w (.cells #[.bool big, .int .i64 pp] 38) (.cells #[.bool p0, .int .i64 p1, .int .i64 p2, .int .i64 p3] 33) (.cells #[.bool false, .int .i64 0, .int .i64 0, .int .i64 0] 33)
  have cT := fun w => take_any q len cap w
  have HX := Lib.hid hx
  clear hx
  go_enter Try.func51, Try.ntmps51
  go_wp2_with fail
  refine (cT _).mono ?_
  rintro e w1 ⟨rb, rfl, hge, hM, hb2⟩
  replace dA := At.below' hb2 dA
  replace dP := At.below' hb2 dP
  replace dS := At.below' hb2 dS
  have hrb : w.heap.size + 2 < rb := by have := hge; simp at this; omega
  replace hb0 := hb0.trans (hb2.mono hb0.size)
  clear hb2 hge cT
  have a0 : w1.cell? ⟨w.heap.size, 0, none⟩ = some (.bool big) := dA.cell 0 rfl
  have a1 : w1.cell? ⟨w.heap.size, 1, none⟩ = some (.int .i64 pp) := dA.cell 1 rfl
  go_wp2_with fail
  refine (cS _).mono ?_
  rintro e w2 ⟨rfl, hb2⟩
  replace dA := At.below' hb2 dA
  replace dP := At.below' hb2 dP
  replace dS := At.below' hb2 dS
  replace hM : MemNew w2 rb (.slice q len cap) := At.below' hb2 hM
  replace hb0 := hb0.trans (hb2.mono hb0.size)
  clear hb2 cS a0 a1
  have hlt := At.lt hM
  have hcH := hasM_first rb q len cap m ⟨p0, p1, p2, p3⟩ w w2 HX.out hb0 (by omega) hM
  unfold HasMPost at hcH
  rw [hH] at hcH
  rw [scV_eq] at hcH
  have x0 : w2.cell? ⟨w.heap.size + 1, 0, none⟩ = some (.bool p0) := dP.cell 0 rfl
  have x1 : w2.cell? ⟨w.heap.size + 1, 1, none⟩ = some (.int .i64 p1) := dP.cell 1 rfl
  have x2 : w2.cell? ⟨w.heap.size + 1, 2, none⟩ = some (.int .i64 p2) := dP.cell 2 rfl
  have x3 : w2.cell? ⟨w.heap.size + 1, 3, none⟩ = some (.int .i64 p3) := dP.cell 3 rfl
  go_wp2_with fail
  refine hcH.mono ?_
  rintro e w3 ⟨rfl, hd, hO⟩
  replace dA := hO.at dA (by omega)
  replace dP := hO.at dP (by omega)
  replace dS := hO.at dS (by omega)
  replace hb0 := hb0.trans (hO.1.mono (by omega))
  clear hcH hO hM x0 x1 x2 x3
  have hd2 := hd (HMM.out)
  have hlt3 := hd2.lt
  clear hd hlt
  have cR := reach_any rb q len cap m ⟨p0, p1, p2, p3⟩ n HN.out HI.out HO.out w3 (HX.out.below hb0) hd2
  rw [scV_eq] at cR
  have x0 : w3.cell? ⟨w.heap.size + 1, 0, none⟩ = some (.bool p0) := dP.cell 0 rfl
  have x1 : w3.cell? ⟨w.heap.size + 1, 1, none⟩ = some (.int .i64 p1) := dP.cell 1 rfl
  have x2 : w3.cell? ⟨w.heap.size + 1, 2, none⟩ = some (.int .i64 p2) := dP.cell 2 rfl
  have x3 : w3.cell? ⟨w.heap.size + 1, 3, none⟩ = some (.int .i64 p3) := dP.cell 3 rfl
  rw [hR] at cR
  clear hR
  go_wp2_with fail
  refine cR.mono ?_
  rintro e w4 ⟨rfl, hb2⟩
  replace dA := At.below' hb2 dA
  replace dP := At.below' hb2 dP
  replace dS := At.below' hb2 dS
  replace hb0 := hb0.trans (hb2.mono hb0.size)
  replace hd2 := MemDone.below hd2 hb2 hlt3
  clear hb2 x0 x1 x2 x3
  have hbk : IsBys w (atM m ⟨p0, p1, p2, p3⟩).q (atM m ⟨p0, p1, p2, p3⟩).ys.length (atM m ⟨p0, p1, p2, p3⟩).ys ∧ (atM m ⟨p0, p1, p2, p3⟩).ys.length ≤ (atM m ⟨p0, p1, p2, p3⟩).c := by
    obtain ⟨j, hj, hl⟩ := HI.out
    rw [atM_eq hj]
    obtain ⟨_, hlen, hc⟩ := HX.out
    obtain ⟨b, off, rfl, hbb, hcells⟩ := hc (by omega)
    have := hcells j (by omega)
    exact ⟨this.2.2.1, this.2.2.2.1⟩
  have cB := fun w hx h => block_any rb q len cap m ⟨p0, p1, p2, p3⟩ HI.out w hx h
  unfold partM at *
  generalize atM m ⟨p0, p1, p2, p3⟩ = xk at *
  obtain ⟨s, xq, xc, ys⟩ := xk
  unfold bkV at cB
  rw [scV_eq] at cB
  try dsimp only at *
  obtain ⟨hr1, hr2, hr3⟩ := hr
  have ho := HO.out
  try dsimp only at ho
  obtain ⟨o, rfl⟩ : ∃ o : Nat, p3 = (o : Nat) := ⟨p3.toNat, by omega⟩
  obtain ⟨hys, hcap⟩ := hbk
  obtain ⟨yb, yo, rfl, hyb, _⟩ := hys.2.2 (by omega)
  have hpart := hys.part o n (by omega)
  have hmp := mays_part hms o n
  rw [Int.toNat_natCast] at hRR
  have hlenP : ys.length ≤ 1000 := hys.1
  have cG := fun w h => Get_any big pp k (some ⟨yb, yo + o * 5, none⟩) n (xc - o) ((ys.drop o).take n) HPK.out.1 HPK.out.2 HNN.out w h hmp
  rw [hRR] at cG
  unfold GetPost scA at cG
  try dsimp only at *
  generalize (ys.drop o).take n = xs at *
  generalize ys.length = Ly at *
  have HPT := Lib.hid hpart
  have hf1 := fun x y w => fld1 x y w
  obtain ⟨t, ht⟩ : ∃ t : Nat, t = o + n := ⟨_, rfl⟩
  have k1 : (0 : Int) ≤ (o : Int) := by omega
  have k2 : (o : Int) ≤ (t : Int) := by omega
  have k3 : (t : Int) ≤ (xc : Int) := by omega
  have k4 : o ≤ t := by omega
  have k5 : t ≤ xc := by omega
  have k6 : t - o = n := by omega
  have k7 : ¬ xc = o := by omega
  have k8 : o < xc := by omega
  have ht2 : t ≤ 2000 := by omega
  have i1 := wrapT_1 ht ht2
  have i2 := wrapT_2 ht ht2
  have i3 := wrapT_3 ht
  have i4 := wrapT_4 ht2
  have i5 := wrapT_5 ht2
  have HTT := Lib.hid ht
  clear ht
  have HSL := hd2.lt
  have hSd := LSt.all (show LSt w.heap.size (w.heap.size + 1) rb big pp p0 p1 p2 (o : Nat) (.slice q len cap) m w w4.drew from ⟨dA.drew, dP.drew, MemDone.below hd2 ((Below.refl w4.heap.size w4).drew) HSL, hb0.drew⟩)
  have dSw := dS.drew
  have n1 : w.heap.size ≠ w.heap.size + 2 := by omega
  have n2 : w.heap.size + 1 ≠ w.heap.size + 2 := by omega
  have n3 : rb ≠ w.heap.size + 2 := by omega
  have n4 : w.heap.size ≤ w.heap.size + 2 := by omega
  clear dA dP dS hd2 hpart hys hyb hcap hr1 hr2 hr3 hms hmp ho hlt3 hRR i1 i2 i3 i4 i5
  have i1 := wrapT_1 HTT.out ht2
  have i2 := wrapT_2 HTT.out ht2
  have i3 := wrapT_3 HTT.out
  have i4 := wrapT_4 ht2
  have i5 := wrapT_5 ht2
  go_wp2_with fail
  go_region_held3 (fun w' => w'.cell? ⟨w.heap.size, 0, none⟩ = some (.bool big) ∧ w'.cell? ⟨w.heap.size, 1, none⟩ = some (.int .i64 pp) ∧ w'.cell? ⟨w.heap.size + 1, 0, none⟩ = some (.bool p0) ∧ w'.cell? ⟨w.heap.size + 1, 1, none⟩ = some (.int .i64 p1) ∧ w'.cell? ⟨w.heap.size + 1, 2, none⟩ = some (.int .i64 p2) ∧ w'.cell? ⟨w.heap.size + 1, 3, none⟩ = some (.int .i64 (o : Nat)) ∧ LSt w.heap.size (w.heap.size + 1) rb big pp p0 p1 p2 (o : Nat) (.slice q len cap) m w w')
    (first
      | with_reducible exact hSd
      | with_reducible exact keepLd hSd hb5
      | with_reducible exact keepLd (keepLd hSd hb5) hb6
      | with_reducible exact keepLs (keepLs (keepLs (keepLs (keepLd (keepLd hSd hb5) hb6) n1 n2 n3 n4) n1 n2 n3 n4) n1 n2 n3 n4) n1 n2 n3 n4
      | exact keepLs (keepLs (keepLs (keepLs (keepLd (keepLd hSd hb5) hb6) n1 n2 n3 n4) n1 n2 n3 n4) n1 n2 n3 n4) n1 n2 n3 n4)
    ((first
      | (go_at_call 70; (refine (cB _ (HX.out.below (LSt.bel (by assumption))) (LSt.don (by assumption))).mono ?_); rintro e w5 ⟨rfl, hb5⟩
         have dS5 := At.below' hb5 dSw)
      | (go_at_call 9; (refine (cG _ (HPT.out.below (LSt.bel (by assumption)))).mono ?_); rintro e w6 ⟨rfl, hb6⟩
         have dS6 := At.below' hb6 dS5
         have st := store4 dS6 (.bool rp) (.int .i64 rn) (.int .i64 rbk) (.int .i64 ro)
         have E1 := store4_at dS6 (.bool rp) (.int .i64 rn) (.int .i64 rbk) (.int .i64 ro))))
  all_goals
    have E2 := store4_below (LSt.bel (keepLd (keepLd hSd hb5) hb6)) n4 (.bool rp) (.int .i64 rn) (.int .i64 rbk) (.int .i64 ro)
    clear st hSd dS5 dS6 dSw
    generalize ((((w6.setCell ⟨(w.heap.size + 2), 0, none⟩ (.bool rp)).setCell ⟨(w.heap.size + 2), 1, none⟩ (.int .i64 rn)).setCell ⟨(w.heap.size + 2), 2, none⟩ (.int .i64 rbk)).setCell ⟨(w.heap.size + 2), 3, none⟩ (.int .i64 ro)) = wz at E1 E2 ⊢
    have g0 : wz.cell? ⟨w.heap.size + 2, 0, none⟩ = some (.bool rp) := E1.cell 0 rfl
    have g1 : wz.cell? ⟨w.heap.size + 2, 1, none⟩ = some (.int .i64 rn) := E1.cell 1 rfl
    have g2 : wz.cell? ⟨w.heap.size + 2, 2, none⟩ = some (.int .i64 rbk) := E1.cell 2 rfl
    have g3 : wz.cell? ⟨w.heap.size + 2, 3, none⟩ = some (.int .i64 ro) := E1.cell 3 rfl
    go_wp2
    exact bodyPost_ret (v := .tuple #[.agg #[.bool rp, .int .i64 rn, .int .i64 rbk, .int .i64 ro], .int .i64 rbad, .int .i64 0]) (by simp [results, Try.results51, go_sem, g0, g1, g2, g3]) rfl ⟨rfl, E2⟩
theorem Load_yes (big : Bool) (pp k : Int) (q : Option Addr) (len cap : Nat) (m : List BK) (p : SC) (hp : mayA pp) (hk : 1 ≤ k ∧ k ≤ 7) (hH : hasM m p = true) (w : World) (hx : IsMem w q len m) :
    Calls Try.prog 51 #[.agg #[.bool big, .int .i64 pp], .slice q len cap, scV p, .int .i64 k] w (LoadPost (loadS big pp k m p).1 (loadS big pp k m p).2 0 w) := by
  unfold loadS
  by_cases hR : reachM m p (sizN pp k) = 0
  · rw [if_neg (by simpa using hR)]
    exact Load_ok big pp k q len cap m p hp hk hH hR _ rfl w hx
  · rw [if_pos hR]
    exact Load_bad big pp k q len cap m p hp hk hH _ rfl hR w hx
theorem Load_no (big : Bool) (pp k : Int) (q : Option Addr) (len cap : Nat) (m : List BK) (p : SC) (h : ¬ (mayA pp ∧ (1 ≤ k ∧ k ≤ 7) ∧ hasM m p = true)) (w : World) (hx : IsMem w q len m) :
    Calls Try.prog 51 #[.agg #[.bool big, .int .i64 pp], .slice q len cap, scV p, .int .i64 k] w (LoadPost noS 0 1 w) := by
  by_cases h1 : mayA pp ∧ 1 ≤ k ∧ k ≤ 7
  · cases hH : hasM m p
    · exact Load_no2 big pp k q len cap m p h1.1 h1.2 hH w hx
    · exact absurd ⟨h1.1, h1.2, hH⟩ h
  · exact Load_no1 big pp k q len cap m p h1 w hx
end Go.Proofs.Ytnhbaigagphpmaa
