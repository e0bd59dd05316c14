/- Package mem: Move. -/
import Derived.Test.YtcppmibeiilgbaaKLoad
import Derived.Test.YtcppmibeiilgbaaVQuiet
namespace Go.Proofs.Ytcppmibeiilgbaa
open Go.ChangeShapes Go.WideShapes Go.ChangeAt Go.RowKit Go.Joins Go.Deep
set_option linter.unusedVariables false

theorem View_no32 (n : Int) (hn : ¬ isN n 32) (wd : World) : Calls Try.prog 58 #[.int .i64 n, .int .i64 32] wd fun e w' => e = .returned (.tuple #[.int .i64 0, .int .i64 1]) ∧ wd = w' := by
  simp only [isN, Int.reduceToNat, Int.reducePow] at hn
  by_cases h0 : n < 0
  · go_enter Try.func58, Try.ntmps58
    go_wp2
    go_ret2
    exact ⟨rfl, rfl⟩
  · have h1 : decide (n < 0) = false := by simpa using h0
    have h2 : (4294967296 : Int) ≤ n := by omega
    go_enter Try.func58, Try.ntmps58
    go_wp2
    go_ret2
    exact ⟨rfl, rfl⟩
set_option maxRecDepth 100000 in
set_option maxHeartbeats 3200000 in
theorem Move_no1 (q : Option Addr) (len cap : Nat) (m : List BK) (p : SC) (n : Int) (hn : ¬ isN n 32) (w : World) (hx : IsMem w q len m) :
    Calls Try.prog 33 #[.slice q len cap, scV p, .int .i64 n] w (LoadPost noS 0 1 w) := by
  have cV := fun w => View_no32 n hn w
  clear hn
  obtain ⟨p0, p1, p2, p3⟩ := p
  rw [scV_eq] at *
  try dsimp only at *
  have dP := At.alloc (At.new w #[.bool p0, .int .i64 p1, .int .i64 p2, .int .i64 p3] 33) (.cells #[.bool false, .int .i64 0, .int .i64 0, .int .i64 0] 33)
  have dS := At.new2 w (.cells #[.bool p0, .int .i64 p1, .int .i64 p2, .int .i64 p3] 33) #[.bool false, .int .i64 0, .int .i64 0, .int .i64 0] 33
  have hb0 := below_box2 w (.cells #[.bool p0, .int .i64 p1, .int .i64 p2, .int .i64 p3] 33) (.cells #[.bool false, .int .i64 0, .int .i64 0, .int .i64 0] 33)
  have cT := fun w => take_any q len cap w
  have HX := Lib.hid hx
  clear hx
  go_enter Try.func33, Try.ntmps33
  go_wp2_with fail
  refine (cT _).mono ?_
  rintro e w1 ⟨rb, rfl, hge, hM, hb2⟩
  replace dP := At.below' hb2 dP
  replace dS := At.below' hb2 dS
  have hrb : w.heap.size + 1 < rb := by have := hge; simp at this; omega
  replace hb0 := hb0.trans (hb2.mono hb0.size)
  clear hb2 hge cT
  go_wp2_with fail
  refine (cV _).mono ?_
  rintro e w2 ⟨rfl, rfl⟩
  clear cV
  clear dP hM
  have st := store4 dS (.bool false) (.int .i64 0) (.int .i64 0) (.int .i64 0)
  have E1 := store4_at dS (.bool false) (.int .i64 0) (.int .i64 0) (.int .i64 0)
  have E2 := store4_below hb0 (show w.heap.size ≤ w.heap.size + 1 by omega) (.bool false) (.int .i64 0) (.int .i64 0) (.int .i64 0)
  clear dS hb0
  go_wp2_with fail
  generalize ((((w1.setCell ⟨(w.heap.size + 1), 0, none⟩ (.bool false)).setCell ⟨(w.heap.size + 1), 1, none⟩ (.int .i64 0)).setCell ⟨(w.heap.size + 1), 2, none⟩ (.int .i64 0)).setCell ⟨(w.heap.size + 1), 3, none⟩ (.int .i64 0)) = wz at E1 E2 ⊢
  have g0 : wz.cell? ⟨w.heap.size + 1, 0, none⟩ = some (.bool false) := E1.cell 0 rfl
  have g1 : wz.cell? ⟨w.heap.size + 1, 1, none⟩ = some (.int .i64 0) := E1.cell 1 rfl
  have g2 : wz.cell? ⟨w.heap.size + 1, 2, none⟩ = some (.int .i64 0) := E1.cell 2 rfl
  have g3 : wz.cell? ⟨w.heap.size + 1, 3, none⟩ = some (.int .i64 0) := E1.cell 3 rfl
  exact bodyPost_ret (v := .tuple #[.agg #[.bool false, .int .i64 0, .int .i64 0, .int .i64 0], .int .i64 0, .int .i64 1]) (by simp [results, Try.results33, go_sem, g0, g1, g2, g3]) rfl ⟨rfl, E2⟩
set_option maxRecDepth 100000 in
set_option maxHeartbeats 3200000 in
theorem Move_no2 (q : Option Addr) (len cap : Nat) (m : List BK) (p : SC) (n : Int) (hn : isN n 32) (hH : hasM m p = false) (w : World) (hx : IsMem w q len m) :
    Calls Try.prog 33 #[.slice q len cap, scV p, .int .i64 n] w (LoadPost noS 0 1 w) := by
  have cV := fun w => View_yes n 32 (by unfold isW; decide) hn w
  clear hn
  obtain ⟨p0, p1, p2, p3⟩ := p
  rw [scV_eq] at *
  try dsimp only at *
  have dP := At.alloc (At.new w #[.bool p0, .int .i64 p1, .int .i64 p2, .int .i64 p3] 33) (.cells #[.bool false, .int .i64 0, .int .i64 0, .int .i64 0] 33)
  have dS := At.new2 w (.cells #[.bool p0, .int .i64 p1, .int .i64 p2, .int .i64 p3] 33) #[.bool false, .int .i64 0, .int .i64 0, .int .i64 0] 33
  have hb0 := below_box2 w (.cells #[.bool p0, .int .i64 p1, .int .i64 p2, .int .i64 p3] 33) (.cells #[.bool false, .int .i64 0, .int .i64 0, .int .i64 0] 33)
  have cT := fun w => take_any q len cap w
  have HX := Lib.hid hx
  clear hx
  go_enter Try.func33, Try.ntmps33
  go_wp2_with fail
  refine (cT _).mono ?_
  rintro e w1 ⟨rb, rfl, hge, hM, hb2⟩
  replace dP := At.below' hb2 dP
  replace dS := At.below' hb2 dS
  have hrb : w.heap.size + 1 < rb := by have := hge; simp at this; omega
  replace hb0 := hb0.trans (hb2.mono hb0.size)
  clear hb2 hge cT
  go_wp2_with fail
  refine (cV _).mono ?_
  rintro e w2 ⟨rfl, rfl⟩
  clear cV
  have hlt := At.lt hM
  have hcH := hasM_first rb q len cap m ⟨p0, p1, p2, p3⟩ w w1 HX.out hb0 (by omega) hM
  unfold HasMPost at hcH
  rw [hH] at hcH
  rw [scV_eq] at hcH
  have x0 : w1.cell? ⟨w.heap.size, 0, none⟩ = some (.bool p0) := dP.cell 0 rfl
  have x1 : w1.cell? ⟨w.heap.size, 1, none⟩ = some (.int .i64 p1) := dP.cell 1 rfl
  have x2 : w1.cell? ⟨w.heap.size, 2, none⟩ = some (.int .i64 p2) := dP.cell 2 rfl
  have x3 : w1.cell? ⟨w.heap.size, 3, none⟩ = some (.int .i64 p3) := dP.cell 3 rfl
  go_wp2_with fail
  refine hcH.mono ?_
  rintro e w2 ⟨rfl, hd, hO⟩
  replace dP := hO.at dP (by omega)
  replace dS := hO.at dS (by omega)
  replace hb0 := hb0.trans (hO.1.mono (by omega))
  clear hcH hO hM x0 x1 x2 x3
  clear hd dP
  have st := store4 dS (.bool false) (.int .i64 0) (.int .i64 0) (.int .i64 0)
  have E1 := store4_at dS (.bool false) (.int .i64 0) (.int .i64 0) (.int .i64 0)
  have E2 := store4_below hb0 (show w.heap.size ≤ w.heap.size + 1 by omega) (.bool false) (.int .i64 0) (.int .i64 0) (.int .i64 0)
  clear dS hb0
  go_wp2_with fail
  generalize ((((w2.setCell ⟨(w.heap.size + 1), 0, none⟩ (.bool false)).setCell ⟨(w.heap.size + 1), 1, none⟩ (.int .i64 0)).setCell ⟨(w.heap.size + 1), 2, none⟩ (.int .i64 0)).setCell ⟨(w.heap.size + 1), 3, none⟩ (.int .i64 0)) = wz at E1 E2 ⊢
  have g0 : wz.cell? ⟨w.heap.size + 1, 0, none⟩ = some (.bool false) := E1.cell 0 rfl
  have g1 : wz.cell? ⟨w.heap.size + 1, 1, none⟩ = some (.int .i64 0) := E1.cell 1 rfl
  have g2 : wz.cell? ⟨w.heap.size + 1, 2, none⟩ = some (.int .i64 0) := E1.cell 2 rfl
  have g3 : wz.cell? ⟨w.heap.size + 1, 3, none⟩ = some (.int .i64 0) := E1.cell 3 rfl
  exact bodyPost_ret (v := .tuple #[.agg #[.bool false, .int .i64 0, .int .i64 0, .int .i64 0], .int .i64 0, .int .i64 1]) (by simp [results, Try.results33, go_sem, g0, g1, g2, g3]) rfl ⟨rfl, E2⟩
set_option maxRecDepth 100000 in
set_option maxHeartbeats 3200000 in
theorem Move_null (q : Option Addr) (len cap : Nat) (m : List BK) (p : SC) (n : Int) (hn : isN n 32) (hH : hasM m p = true) (ha : ((atM m p).st == 1) = false) (hs : (p.b == 0 && n == 0) = false) (w : World) (hx : IsMem w q len m) :
    Calls Try.prog 33 #[.slice q len cap, scV p, .int .i64 n] w (LoadPost noS 2 0 w) := by
  have HI := Lib.hid (InM.of hH)
  have HO := Lib.hid (InM.off hH)
  have HMM := Lib.hid (show mayM m = true by unfold hasM at hH; simp only [Bool.and_eq_true] at hH; exact hH.1)
  have cV := fun w => View_yes n 32 (by unfold isW; decide) hn w
  have hv : -4294967296 ≤ viewI n 32 ∧ viewI n 32 ≤ 4294967296 := by simp only [isN, Int.reduceToNat, Int.reducePow] at hn; unfold viewI; simp only [Int.reduceToNat, Int.reducePow, Nat.reduceSub]; split <;> omega
  clear hn
  have hs2 : p.b = 0 → (n == 0) = false := by intro h; simpa [h] using hs
  have hs3 : (p.b == 0) = true ∨ (p.b == 0) = false := by cases (p.b == 0) <;> simp
  clear hs
  obtain ⟨p0, p1, p2, p3⟩ := p
  rw [scV_eq] at *
  try dsimp only at *
  have dP := At.alloc (At.new w #[.bool p0, .int .i64 p1, .int .i64 p2, .int .i64 p3] 33) (.cells #[.bool false, .int .i64 0, .int .i64 0, .int .i64 0] 33)
  have dS := At.new2 w (.cells #[.bool p0, .int .i64 p1, .int .i64 p2, .int .i64 p3] 33) #[.bool false, .int .i64 0, .int .i64 0, .int .i64 0] 33
  have hb0 := below_box2 w (.cells #[.bool p0, .int .i64 p1, .int .i64 p2, .int .i64 p3] 33) (.cells #[.bool false, .int .i64 0, .int .i64 0, .int .i64 0] 33)
  have cT := fun w => take_any q len cap w
  have HX := Lib.hid hx
  clear hx
  go_enter Try.func33, Try.ntmps33
  go_wp2_with fail
  refine (cT _).mono ?_
  rintro e w1 ⟨rb, rfl, hge, hM, hb2⟩
  replace dP := At.below' hb2 dP
  replace dS := At.below' hb2 dS
  have hrb : w.heap.size + 1 < rb := by have := hge; simp at this; omega
  replace hb0 := hb0.trans (hb2.mono hb0.size)
  clear hb2 hge cT
  go_wp2_with fail
  refine (cV _).mono ?_
  rintro e w2 ⟨rfl, rfl⟩
  clear cV
  have hlt := At.lt hM
  have hcH := hasM_first rb q len cap m ⟨p0, p1, p2, p3⟩ w w1 HX.out hb0 (by omega) hM
  unfold HasMPost at hcH
  rw [hH] at hcH
  rw [scV_eq] at hcH
  have x0 : w1.cell? ⟨w.heap.size, 0, none⟩ = some (.bool p0) := dP.cell 0 rfl
  have x1 : w1.cell? ⟨w.heap.size, 1, none⟩ = some (.int .i64 p1) := dP.cell 1 rfl
  have x2 : w1.cell? ⟨w.heap.size, 2, none⟩ = some (.int .i64 p2) := dP.cell 2 rfl
  have x3 : w1.cell? ⟨w.heap.size, 3, none⟩ = some (.int .i64 p3) := dP.cell 3 rfl
  go_wp2_with fail
  refine hcH.mono ?_
  rintro e w2 ⟨rfl, hd, hO⟩
  replace dP := hO.at dP (by omega)
  replace dS := hO.at dS (by omega)
  replace hb0 := hb0.trans (hO.1.mono (by omega))
  clear hcH hO hM x0 x1 x2 x3
  have HS2 := Lib.hid hs2
  clear hs2
  have HD := Lib.hid hd
  clear hd
  rcases hs3 with hz | hz
  · have hnz := HS2.out (by simpa using hz)
    have hd := HD.out
    have hd2 := hd (HMM.out)
    have hlt3 := hd2.lt
    clear hd hlt hH
    have cR := isAlive_any rb q len cap m ⟨p0, p1, p2, p3⟩ HI.out w2 (HX.out.below hb0) hd2
    rw [scV_eq] at cR
    have x0 : w2.cell? ⟨w.heap.size, 0, none⟩ = some (.bool p0) := dP.cell 0 rfl
    have x1 : w2.cell? ⟨w.heap.size, 1, none⟩ = some (.int .i64 p1) := dP.cell 1 rfl
    have x2 : w2.cell? ⟨w.heap.size, 2, none⟩ = some (.int .i64 p2) := dP.cell 2 rfl
    have x3 : w2.cell? ⟨w.heap.size, 3, none⟩ = some (.int .i64 p3) := dP.cell 3 rfl
    rw [ha] at cR
    clear ha
    go_wp2_with fail
    refine cR.mono ?_
    rintro e w3 ⟨rfl, hb2⟩
    replace dS := At.below' hb2 dS
    replace dP := At.below' hb2 dP
    replace hd2 : MemDone w3 rb (.slice q len cap) m := At.below' hb2 hd2
    replace hb0 := hb0.trans (hb2.mono hb0.size)
    clear hb2 x0 x1 x2 x3 cR
    clear dP hd2
    have st := store4 dS (.bool false) (.int .i64 0) (.int .i64 0) (.int .i64 0)
    have E1 := store4_at dS (.bool false) (.int .i64 0) (.int .i64 0) (.int .i64 0)
    have E2 := store4_below hb0 (show w.heap.size ≤ w.heap.size + 1 by omega) (.bool false) (.int .i64 0) (.int .i64 0) (.int .i64 0)
    clear dS hb0
    go_wp2_with fail
    generalize ((((w3.setCell ⟨(w.heap.size + 1), 0, none⟩ (.bool false)).setCell ⟨(w.heap.size + 1), 1, none⟩ (.int .i64 0)).setCell ⟨(w.heap.size + 1), 2, none⟩ (.int .i64 0)).setCell ⟨(w.heap.size + 1), 3, none⟩ (.int .i64 0)) = wz at E1 E2 ⊢
    have g0 : wz.cell? ⟨w.heap.size + 1, 0, none⟩ = some (.bool false) := E1.cell 0 rfl
    have g1 : wz.cell? ⟨w.heap.size + 1, 1, none⟩ = some (.int .i64 0) := E1.cell 1 rfl
    have g2 : wz.cell? ⟨w.heap.size + 1, 2, none⟩ = some (.int .i64 0) := E1.cell 2 rfl
    have g3 : wz.cell? ⟨w.heap.size + 1, 3, none⟩ = some (.int .i64 0) := E1.cell 3 rfl
    exact bodyPost_ret (v := .tuple #[.agg #[.bool false, .int .i64 0, .int .i64 0, .int .i64 0], .int .i64 2, .int .i64 0]) (by simp [results, Try.results33, go_sem, g0, g1, g2, g3]) rfl ⟨rfl, E2⟩
  · skip
    have hd := HD.out
    have hd2 := hd (HMM.out)
    have hlt3 := hd2.lt
    clear hd hlt hH
    have cR := isAlive_any rb q len cap m ⟨p0, p1, p2, p3⟩ HI.out w2 (HX.out.below hb0) hd2
    rw [scV_eq] at cR
    have x0 : w2.cell? ⟨w.heap.size, 0, none⟩ = some (.bool p0) := dP.cell 0 rfl
    have x1 : w2.cell? ⟨w.heap.size, 1, none⟩ = some (.int .i64 p1) := dP.cell 1 rfl
    have x2 : w2.cell? ⟨w.heap.size, 2, none⟩ = some (.int .i64 p2) := dP.cell 2 rfl
    have x3 : w2.cell? ⟨w.heap.size, 3, none⟩ = some (.int .i64 p3) := dP.cell 3 rfl
    rw [ha] at cR
    clear ha
    go_wp2_with fail
    refine cR.mono ?_
    rintro e w3 ⟨rfl, hb2⟩
    replace dS := At.below' hb2 dS
    replace dP := At.below' hb2 dP
    replace hd2 : MemDone w3 rb (.slice q len cap) m := At.below' hb2 hd2
    replace hb0 := hb0.trans (hb2.mono hb0.size)
    clear hb2 x0 x1 x2 x3 cR
    clear dP hd2
    have st := store4 dS (.bool false) (.int .i64 0) (.int .i64 0) (.int .i64 0)
    have E1 := store4_at dS (.bool false) (.int .i64 0) (.int .i64 0) (.int .i64 0)
    have E2 := store4_below hb0 (show w.heap.size ≤ w.heap.size + 1 by omega) (.bool false) (.int .i64 0) (.int .i64 0) (.int .i64 0)
    clear dS hb0
    go_wp2_with fail
    generalize ((((w3.setCell ⟨(w.heap.size + 1), 0, none⟩ (.bool false)).setCell ⟨(w.heap.size + 1), 1, none⟩ (.int .i64 0)).setCell ⟨(w.heap.size + 1), 2, none⟩ (.int .i64 0)).setCell ⟨(w.heap.size + 1), 3, none⟩ (.int .i64 0)) = wz at E1 E2 ⊢
    have g0 : wz.cell? ⟨w.heap.size + 1, 0, none⟩ = some (.bool false) := E1.cell 0 rfl
    have g1 : wz.cell? ⟨w.heap.size + 1, 1, none⟩ = some (.int .i64 0) := E1.cell 1 rfl
    have g2 : wz.cell? ⟨w.heap.size + 1, 2, none⟩ = some (.int .i64 0) := E1.cell 2 rfl
    have g3 : wz.cell? ⟨w.heap.size + 1, 3, none⟩ = some (.int .i64 0) := E1.cell 3 rfl
    exact bodyPost_ret (v := .tuple #[.agg #[.bool false, .int .i64 0, .int .i64 0, .int .i64 0], .int .i64 2, .int .i64 0]) (by simp [results, Try.results33, go_sem, g0, g1, g2, g3]) rfl ⟨rfl, E2⟩
set_option maxRecDepth 100000 in
set_option maxHeartbeats 3200000 in
theorem Move_neg (q : Option Addr) (len cap : Nat) (m : List BK) (p : SC) (n : Int) (hn : isN n 32) (hH : hasM m p = true) (hg : (((atM m p).st == 1) || (p.b == 0 && n == 0)) = true) (ht : p.o + viewI n 32 < 0) (w : World) (hx : IsMem w q len m) :
    Calls Try.prog 33 #[.slice q len cap, scV p, .int .i64 n] w (LoadPost noS 1 0 w) := by
  have HI := Lib.hid (InM.of hH)
  have HO := Lib.hid (InM.off hH)
  have HMM := Lib.hid (show mayM m = true by unfold hasM at hH; simp only [Bool.and_eq_true] at hH; exact hH.1)
  have cV := fun w => View_yes n 32 (by unfold isW; decide) hn w
  have hv : -4294967296 ≤ viewI n 32 ∧ viewI n 32 ≤ 4294967296 := by simp only [isN, Int.reduceToNat, Int.reducePow] at hn; unfold viewI; simp only [Int.reduceToNat, Int.reducePow, Nat.reduceSub]; split <;> omega
  clear hn
  have hcs : (((atM m p).st == 1) = true ∧ (p.b == 0) = false) ∨ (((atM m p).st == 1) = true ∧ (p.b == 0) = true ∧ (n == 0) = false) ∨ (((atM m p).st == 1) = true ∧ (p.b == 0) = true ∧ (n == 0) = true) ∨ (((atM m p).st == 1) = false ∧ (p.b == 0) = true ∧ (n == 0) = true) := by
    revert hg; cases ((atM m p).st == 1) <;> cases (p.b == 0) <;> cases (n == 0) <;> simp
  clear hg
  generalize viewI n 32 = v at *
  have hatm : ∀ t, atM m ⟨p.p, p.n, p.b, t⟩ = atM m p := fun t => rfl
  have HT := Lib.hid ht
  have HA := Lib.hid hatm
  have HV := Lib.hid hv
  clear ht hv hatm
  obtain ⟨p0, p1, p2, p3⟩ := p
  rw [scV_eq] at *
  try dsimp only at *
  have dP := At.alloc (At.new w #[.bool p0, .int .i64 p1, .int .i64 p2, .int .i64 p3] 33) (.cells #[.bool false, .int .i64 0, .int .i64 0, .int .i64 0] 33)
  have dS := At.new2 w (.cells #[.bool p0, .int .i64 p1, .int .i64 p2, .int .i64 p3] 33) #[.bool false, .int .i64 0, .int .i64 0, .int .i64 0] 33
  have hb0 := below_box2 w (.cells #[.bool p0, .int .i64 p1, .int .i64 p2, .int .i64 p3] 33) (.cells #[.bool false, .int .i64 0, .int .i64 0, .int .i64 0] 33)
  have cT := fun w => take_any q len cap w
  have HX := Lib.hid hx
  clear hx
  go_enter Try.func33, Try.ntmps33
  go_wp2_with fail
  refine (cT _).mono ?_
  rintro e w1 ⟨rb, rfl, hge, hM, hb2⟩
  replace dP := At.below' hb2 dP
  replace dS := At.below' hb2 dS
  have hrb : w.heap.size + 1 < rb := by have := hge; simp at this; omega
  replace hb0 := hb0.trans (hb2.mono hb0.size)
  clear hb2 hge cT
  go_wp2_with fail
  refine (cV _).mono ?_
  rintro e w2 ⟨rfl, rfl⟩
  clear cV
  have hlt := At.lt hM
  have hcH := hasM_first rb q len cap m ⟨p0, p1, p2, p3⟩ w w1 HX.out hb0 (by omega) hM
  unfold HasMPost at hcH
  rw [hH] at hcH
  rw [scV_eq] at hcH
  have x0 : w1.cell? ⟨w.heap.size, 0, none⟩ = some (.bool p0) := dP.cell 0 rfl
  have x1 : w1.cell? ⟨w.heap.size, 1, none⟩ = some (.int .i64 p1) := dP.cell 1 rfl
  have x2 : w1.cell? ⟨w.heap.size, 2, none⟩ = some (.int .i64 p2) := dP.cell 2 rfl
  have x3 : w1.cell? ⟨w.heap.size, 3, none⟩ = some (.int .i64 p3) := dP.cell 3 rfl
  go_wp2_with fail
  refine hcH.mono ?_
  rintro e w2 ⟨rfl, hd, hO⟩
  replace dP := hO.at dP (by omega)
  replace dS := hO.at dS (by omega)
  replace hb0 := hb0.trans (hO.1.mono (by omega))
  clear hcH hO hM x0 x1 x2 x3
  have HD := Lib.hid hd
  clear hd
  rcases hcs with ⟨ha, hz⟩ | ⟨ha, hz, hn0⟩ | ⟨ha, hz, hn0⟩ | ⟨ha, hz, hn0⟩
  · have hd := HD.out
    have hd2 := hd (HMM.out)
    have hlt3 := hd2.lt
    clear hd hlt hH
    have cR := isAlive_any rb q len cap m ⟨p0, p1, p2, p3⟩ HI.out w2 (HX.out.below hb0) hd2
    rw [scV_eq] at cR
    have x0 : w2.cell? ⟨w.heap.size, 0, none⟩ = some (.bool p0) := dP.cell 0 rfl
    have x1 : w2.cell? ⟨w.heap.size, 1, none⟩ = some (.int .i64 p1) := dP.cell 1 rfl
    have x2 : w2.cell? ⟨w.heap.size, 2, none⟩ = some (.int .i64 p2) := dP.cell 2 rfl
    have x3 : w2.cell? ⟨w.heap.size, 3, none⟩ = some (.int .i64 p3) := dP.cell 3 rfl
    rw [ha] at cR
    clear ha
    go_wp2_with fail
    refine cR.mono ?_
    rintro e w3 ⟨rfl, hb2⟩
    replace dS := At.below' hb2 dS
    replace dP := At.below' hb2 dP
    replace hd2 : MemDone w3 rb (.slice q len cap) m := At.below' hb2 hd2
    replace hb0 := hb0.trans (hb2.mono hb0.size)
    clear hb2 x0 x1 x2 x3 cR
    have ho := HO.out
    have hv := HV.out
    have ht := HT.out
    have hat := HA.out
    obtain ⟨t, htt⟩ : ∃ t, t = p3 + v := ⟨_, rfl⟩
    have i1 : IntKind.i64.wrap (p3 + v) = t := by rw [IntKind.wrap_i64, htt]; omega
    have i2 : wrap64 (p3 + v) = t := by unfold wrap64; rw [htt]; omega
    have i3 : p3 + v = t := htt.symm
    have i4 : IntKind.i64.wrap t = t := by rw [IntKind.wrap_i64, htt]; omega
    have i5 : wrap64 t = t := by unfold wrap64; rw [htt]; omega
    try rw [i3] at ht
    have HTT := Lib.hid htt
    clear htt ho hv
    have dP2 : At (w3.setCell ⟨w.heap.size, 3, none⟩ (.int .i64 t)) w.heap.size #[.bool p0, .int .i64 p1, .int .i64 p2, .int .i64 t] 33 := At.set dP 3 _ (by simp)
    have hb2 : Below w.heap.size w (w3.setCell ⟨w.heap.size, 3, none⟩ (.int .i64 t)) := hb0.setCell (p := ⟨w.heap.size, 3, none⟩) (Nat.le_refl _) _
    have dS2 : At (w3.setCell ⟨w.heap.size, 3, none⟩ (.int .i64 t)) (w.heap.size + 1) #[.bool false, .int .i64 0, .int .i64 0, .int .i64 0] 33 := (Below.heap_setCell w3 ⟨w.heap.size, 3, none⟩ _ (w.heap.size + 1) (by simp)).trans dS
    have hd3 : MemDone (w3.setCell ⟨w.heap.size, 3, none⟩ (.int .i64 t)) rb (.slice q len cap) m := (Below.heap_setCell w3 ⟨w.heap.size, 3, none⟩ _ rb (by simp; omega)).trans hd2
    have x0 : w3.cell? ⟨w.heap.size, 0, none⟩ = some (.bool p0) := dP.cell 0 rfl
    have x1 : w3.cell? ⟨w.heap.size, 1, none⟩ = some (.int .i64 p1) := dP.cell 1 rfl
    have x2 : w3.cell? ⟨w.heap.size, 2, none⟩ = some (.int .i64 p2) := dP.cell 2 rfl
    have x3 : w3.cell? ⟨w.heap.size, 3, none⟩ = some (.int .i64 p3) := dP.cell 3 rfl
    have f3 := dP.free 3
    have y0 : (w3.setCell ⟨w.heap.size, 3, none⟩ (.int .i64 t)).cell? ⟨w.heap.size, 0, none⟩ = some (.bool p0) := dP2.cell 0 rfl
    have y1 : (w3.setCell ⟨w.heap.size, 3, none⟩ (.int .i64 t)).cell? ⟨w.heap.size, 1, none⟩ = some (.int .i64 p1) := dP2.cell 1 rfl
    have y2 : (w3.setCell ⟨w.heap.size, 3, none⟩ (.int .i64 t)).cell? ⟨w.heap.size, 2, none⟩ = some (.int .i64 p2) := dP2.cell 2 rfl
    have y3 : (w3.setCell ⟨w.heap.size, 3, none⟩ (.int .i64 t)).cell? ⟨w.heap.size, 3, none⟩ = some (.int .i64 t) := dP2.cell 3 rfl
    clear dP dS hd2 hb0
    have t1 : t < 0 := ht
    clear ht hat hd3 dP2
    go_wp2_with fail
    generalize (w3.setCell ⟨w.heap.size, 3, none⟩ (.int .i64 t)) = w4 at *
    go_quiet (fail)
    replace dS2 : At (w4.drewN nq) (w.heap.size + 1) #[.bool false, .int .i64 0, .int .i64 0, .int .i64 0] 33 := dS2.drewN nq
    have hb0 := hb2.trans (Joins.below_draws _ w4 nq)
    clear y0 y1 y2 y3 x0 x1 x2 x3 f3 hb2
    generalize w4.drewN nq = w5 at *
    have st := store4 dS2 (.bool false) (.int .i64 0) (.int .i64 0) (.int .i64 0)
    have E1 := store4_at dS2 (.bool false) (.int .i64 0) (.int .i64 0) (.int .i64 0)
    have E2 := store4_below hb0 (show w.heap.size ≤ w.heap.size + 1 by omega) (.bool false) (.int .i64 0) (.int .i64 0) (.int .i64 0)
    clear dS2 hb0
    go_wp2_with fail
    generalize ((((w5.setCell ⟨(w.heap.size + 1), 0, none⟩ (.bool false)).setCell ⟨(w.heap.size + 1), 1, none⟩ (.int .i64 0)).setCell ⟨(w.heap.size + 1), 2, none⟩ (.int .i64 0)).setCell ⟨(w.heap.size + 1), 3, none⟩ (.int .i64 0)) = wz at E1 E2 ⊢
    have g0 : wz.cell? ⟨w.heap.size + 1, 0, none⟩ = some (.bool false) := E1.cell 0 rfl
    have g1 : wz.cell? ⟨w.heap.size + 1, 1, none⟩ = some (.int .i64 0) := E1.cell 1 rfl
    have g2 : wz.cell? ⟨w.heap.size + 1, 2, none⟩ = some (.int .i64 0) := E1.cell 2 rfl
    have g3 : wz.cell? ⟨w.heap.size + 1, 3, none⟩ = some (.int .i64 0) := E1.cell 3 rfl
    exact bodyPost_ret (v := .tuple #[.agg #[.bool false, .int .i64 0, .int .i64 0, .int .i64 0], .int .i64 1, .int .i64 0]) (by simp [results, Try.results33, go_sem, g0, g1, g2, g3]) rfl ⟨rfl, E2⟩
  · have hd := HD.out
    have hd2 := hd (HMM.out)
    have hlt3 := hd2.lt
    clear hd hlt hH
    have cR := isAlive_any rb q len cap m ⟨p0, p1, p2, p3⟩ HI.out w2 (HX.out.below hb0) hd2
    rw [scV_eq] at cR
    have x0 : w2.cell? ⟨w.heap.size, 0, none⟩ = some (.bool p0) := dP.cell 0 rfl
    have x1 : w2.cell? ⟨w.heap.size, 1, none⟩ = some (.int .i64 p1) := dP.cell 1 rfl
    have x2 : w2.cell? ⟨w.heap.size, 2, none⟩ = some (.int .i64 p2) := dP.cell 2 rfl
    have x3 : w2.cell? ⟨w.heap.size, 3, none⟩ = some (.int .i64 p3) := dP.cell 3 rfl
    rw [ha] at cR
    clear ha
    go_wp2_with fail
    refine cR.mono ?_
    rintro e w3 ⟨rfl, hb2⟩
    replace dS := At.below' hb2 dS
    replace dP := At.below' hb2 dP
    replace hd2 : MemDone w3 rb (.slice q len cap) m := At.below' hb2 hd2
    replace hb0 := hb0.trans (hb2.mono hb0.size)
    clear hb2 x0 x1 x2 x3 cR
    have ho := HO.out
    have hv := HV.out
    have ht := HT.out
    have hat := HA.out
    obtain ⟨t, htt⟩ : ∃ t, t = p3 + v := ⟨_, rfl⟩
    have i1 : IntKind.i64.wrap (p3 + v) = t := by rw [IntKind.wrap_i64, htt]; omega
    have i2 : wrap64 (p3 + v) = t := by unfold wrap64; rw [htt]; omega
    have i3 : p3 + v = t := htt.symm
    have i4 : IntKind.i64.wrap t = t := by rw [IntKind.wrap_i64, htt]; omega
    have i5 : wrap64 t = t := by unfold wrap64; rw [htt]; omega
    try rw [i3] at ht
    have HTT := Lib.hid htt
    clear htt ho hv
    have dP2 : At (w3.setCell ⟨w.heap.size, 3, none⟩ (.int .i64 t)) w.heap.size #[.bool p0, .int .i64 p1, .int .i64 p2, .int .i64 t] 33 := At.set dP 3 _ (by simp)
    have hb2 : Below w.heap.size w (w3.setCell ⟨w.heap.size, 3, none⟩ (.int .i64 t)) := hb0.setCell (p := ⟨w.heap.size, 3, none⟩) (Nat.le_refl _) _
    have dS2 : At (w3.setCell ⟨w.heap.size, 3, none⟩ (.int .i64 t)) (w.heap.size + 1) #[.bool false, .int .i64 0, .int .i64 0, .int .i64 0] 33 := (Below.heap_setCell w3 ⟨w.heap.size, 3, none⟩ _ (w.heap.size + 1) (by simp)).trans dS
    have hd3 : MemDone (w3.setCell ⟨w.heap.size, 3, none⟩ (.int .i64 t)) rb (.slice q len cap) m := (Below.heap_setCell w3 ⟨w.heap.size, 3, none⟩ _ rb (by simp; omega)).trans hd2
    have x0 : w3.cell? ⟨w.heap.size, 0, none⟩ = some (.bool p0) := dP.cell 0 rfl
    have x1 : w3.cell? ⟨w.heap.size, 1, none⟩ = some (.int .i64 p1) := dP.cell 1 rfl
    have x2 : w3.cell? ⟨w.heap.size, 2, none⟩ = some (.int .i64 p2) := dP.cell 2 rfl
    have x3 : w3.cell? ⟨w.heap.size, 3, none⟩ = some (.int .i64 p3) := dP.cell 3 rfl
    have f3 := dP.free 3
    have y0 : (w3.setCell ⟨w.heap.size, 3, none⟩ (.int .i64 t)).cell? ⟨w.heap.size, 0, none⟩ = some (.bool p0) := dP2.cell 0 rfl
    have y1 : (w3.setCell ⟨w.heap.size, 3, none⟩ (.int .i64 t)).cell? ⟨w.heap.size, 1, none⟩ = some (.int .i64 p1) := dP2.cell 1 rfl
    have y2 : (w3.setCell ⟨w.heap.size, 3, none⟩ (.int .i64 t)).cell? ⟨w.heap.size, 2, none⟩ = some (.int .i64 p2) := dP2.cell 2 rfl
    have y3 : (w3.setCell ⟨w.heap.size, 3, none⟩ (.int .i64 t)).cell? ⟨w.heap.size, 3, none⟩ = some (.int .i64 t) := dP2.cell 3 rfl
    clear dP dS hd2 hb0
    have t1 : t < 0 := ht
    clear ht hat hd3 dP2
    go_wp2_with fail
    generalize (w3.setCell ⟨w.heap.size, 3, none⟩ (.int .i64 t)) = w4 at *
    go_quiet (fail)
    replace dS2 : At (w4.drewN nq) (w.heap.size + 1) #[.bool false, .int .i64 0, .int .i64 0, .int .i64 0] 33 := dS2.drewN nq
    have hb0 := hb2.trans (Joins.below_draws _ w4 nq)
    clear y0 y1 y2 y3 x0 x1 x2 x3 f3 hb2
    generalize w4.drewN nq = w5 at *
    have st := store4 dS2 (.bool false) (.int .i64 0) (.int .i64 0) (.int .i64 0)
    have E1 := store4_at dS2 (.bool false) (.int .i64 0) (.int .i64 0) (.int .i64 0)
    have E2 := store4_below hb0 (show w.heap.size ≤ w.heap.size + 1 by omega) (.bool false) (.int .i64 0) (.int .i64 0) (.int .i64 0)
    clear dS2 hb0
    go_wp2_with fail
    generalize ((((w5.setCell ⟨(w.heap.size + 1), 0, none⟩ (.bool false)).setCell ⟨(w.heap.size + 1), 1, none⟩ (.int .i64 0)).setCell ⟨(w.heap.size + 1), 2, none⟩ (.int .i64 0)).setCell ⟨(w.heap.size + 1), 3, none⟩ (.int .i64 0)) = wz at E1 E2 ⊢
    have g0 : wz.cell? ⟨w.heap.size + 1, 0, none⟩ = some (.bool false) := E1.cell 0 rfl
    have g1 : wz.cell? ⟨w.heap.size + 1, 1, none⟩ = some (.int .i64 0) := E1.cell 1 rfl
    have g2 : wz.cell? ⟨w.heap.size + 1, 2, none⟩ = some (.int .i64 0) := E1.cell 2 rfl
    have g3 : wz.cell? ⟨w.heap.size + 1, 3, none⟩ = some (.int .i64 0) := E1.cell 3 rfl
    exact bodyPost_ret (v := .tuple #[.agg #[.bool false, .int .i64 0, .int .i64 0, .int .i64 0], .int .i64 1, .int .i64 0]) (by simp [results, Try.results33, go_sem, g0, g1, g2, g3]) rfl ⟨rfl, E2⟩
  · have hd := HD.out
    have hd2 := hd (HMM.out)
    have hlt3 := hd2.lt
    clear hd hlt hH
    have cR := isAlive_any rb q len cap m ⟨p0, p1, p2, p3⟩ HI.out w2 (HX.out.below hb0) hd2
    rw [scV_eq] at cR
    have x0 : w2.cell? ⟨w.heap.size, 0, none⟩ = some (.bool p0) := dP.cell 0 rfl
    have x1 : w2.cell? ⟨w.heap.size, 1, none⟩ = some (.int .i64 p1) := dP.cell 1 rfl
    have x2 : w2.cell? ⟨w.heap.size, 2, none⟩ = some (.int .i64 p2) := dP.cell 2 rfl
    have x3 : w2.cell? ⟨w.heap.size, 3, none⟩ = some (.int .i64 p3) := dP.cell 3 rfl
    rw [ha] at cR
    clear ha
    go_wp2_with fail
    refine cR.mono ?_
    rintro e w3 ⟨rfl, hb2⟩
    replace dS := At.below' hb2 dS
    replace dP := At.below' hb2 dP
    replace hd2 : MemDone w3 rb (.slice q len cap) m := At.below' hb2 hd2
    replace hb0 := hb0.trans (hb2.mono hb0.size)
    clear hb2 x0 x1 x2 x3 cR
    have ho := HO.out
    have hv := HV.out
    have ht := HT.out
    have hat := HA.out
    obtain ⟨t, htt⟩ : ∃ t, t = p3 + v := ⟨_, rfl⟩
    have i1 : IntKind.i64.wrap (p3 + v) = t := by rw [IntKind.wrap_i64, htt]; omega
    have i2 : wrap64 (p3 + v) = t := by unfold wrap64; rw [htt]; omega
    have i3 : p3 + v = t := htt.symm
    have i4 : IntKind.i64.wrap t = t := by rw [IntKind.wrap_i64, htt]; omega
    have i5 : wrap64 t = t := by unfold wrap64; rw [htt]; omega
    try rw [i3] at ht
    have HTT := Lib.hid htt
    clear htt ho hv
    have dP2 : At (w3.setCell ⟨w.heap.size, 3, none⟩ (.int .i64 t)) w.heap.size #[.bool p0, .int .i64 p1, .int .i64 p2, .int .i64 t] 33 := At.set dP 3 _ (by simp)
    have hb2 : Below w.heap.size w (w3.setCell ⟨w.heap.size, 3, none⟩ (.int .i64 t)) := hb0.setCell (p := ⟨w.heap.size, 3, none⟩) (Nat.le_refl _) _
    have dS2 : At (w3.setCell ⟨w.heap.size, 3, none⟩ (.int .i64 t)) (w.heap.size + 1) #[.bool false, .int .i64 0, .int .i64 0, .int .i64 0] 33 := (Below.heap_setCell w3 ⟨w.heap.size, 3, none⟩ _ (w.heap.size + 1) (by simp)).trans dS
    have hd3 : MemDone (w3.setCell ⟨w.heap.size, 3, none⟩ (.int .i64 t)) rb (.slice q len cap) m := (Below.heap_setCell w3 ⟨w.heap.size, 3, none⟩ _ rb (by simp; omega)).trans hd2
    have x0 : w3.cell? ⟨w.heap.size, 0, none⟩ = some (.bool p0) := dP.cell 0 rfl
    have x1 : w3.cell? ⟨w.heap.size, 1, none⟩ = some (.int .i64 p1) := dP.cell 1 rfl
    have x2 : w3.cell? ⟨w.heap.size, 2, none⟩ = some (.int .i64 p2) := dP.cell 2 rfl
    have x3 : w3.cell? ⟨w.heap.size, 3, none⟩ = some (.int .i64 p3) := dP.cell 3 rfl
    have f3 := dP.free 3
    have y0 : (w3.setCell ⟨w.heap.size, 3, none⟩ (.int .i64 t)).cell? ⟨w.heap.size, 0, none⟩ = some (.bool p0) := dP2.cell 0 rfl
    have y1 : (w3.setCell ⟨w.heap.size, 3, none⟩ (.int .i64 t)).cell? ⟨w.heap.size, 1, none⟩ = some (.int .i64 p1) := dP2.cell 1 rfl
    have y2 : (w3.setCell ⟨w.heap.size, 3, none⟩ (.int .i64 t)).cell? ⟨w.heap.size, 2, none⟩ = some (.int .i64 p2) := dP2.cell 2 rfl
    have y3 : (w3.setCell ⟨w.heap.size, 3, none⟩ (.int .i64 t)).cell? ⟨w.heap.size, 3, none⟩ = some (.int .i64 t) := dP2.cell 3 rfl
    clear dP dS hd2 hb0
    have t1 : t < 0 := ht
    clear ht hat hd3 dP2
    go_wp2_with fail
    generalize (w3.setCell ⟨w.heap.size, 3, none⟩ (.int .i64 t)) = w4 at *
    go_quiet (fail)
    replace dS2 : At (w4.drewN nq) (w.heap.size + 1) #[.bool false, .int .i64 0, .int .i64 0, .int .i64 0] 33 := dS2.drewN nq
    have hb0 := hb2.trans (Joins.below_draws _ w4 nq)
    clear y0 y1 y2 y3 x0 x1 x2 x3 f3 hb2
    generalize w4.drewN nq = w5 at *
    have st := store4 dS2 (.bool false) (.int .i64 0) (.int .i64 0) (.int .i64 0)
    have E1 := store4_at dS2 (.bool false) (.int .i64 0) (.int .i64 0) (.int .i64 0)
    have E2 := store4_below hb0 (show w.heap.size ≤ w.heap.size + 1 by omega) (.bool false) (.int .i64 0) (.int .i64 0) (.int .i64 0)
    clear dS2 hb0
    go_wp2_with fail
    generalize ((((w5.setCell ⟨(w.heap.size + 1), 0, none⟩ (.bool false)).setCell ⟨(w.heap.size + 1), 1, none⟩ (.int .i64 0)).setCell ⟨(w.heap.size + 1), 2, none⟩ (.int .i64 0)).setCell ⟨(w.heap.size + 1), 3, none⟩ (.int .i64 0)) = wz at E1 E2 ⊢
    have g0 : wz.cell? ⟨w.heap.size + 1, 0, none⟩ = some (.bool false) := E1.cell 0 rfl
    have g1 : wz.cell? ⟨w.heap.size + 1, 1, none⟩ = some (.int .i64 0) := E1.cell 1 rfl
    have g2 : wz.cell? ⟨w.heap.size + 1, 2, none⟩ = some (.int .i64 0) := E1.cell 2 rfl
    have g3 : wz.cell? ⟨w.heap.size + 1, 3, none⟩ = some (.int .i64 0) := E1.cell 3 rfl
    exact bodyPost_ret (v := .tuple #[.agg #[.bool false, .int .i64 0, .int .i64 0, .int .i64 0], .int .i64 1, .int .i64 0]) (by simp [results, Try.results33, go_sem, g0, g1, g2, g3]) rfl ⟨rfl, E2⟩
  · have hd := HD.out
    have hd2 := hd (HMM.out)
    have hlt3 := hd2.lt
    clear hd hlt hH
    have cR := isAlive_any rb q len cap m ⟨p0, p1, p2, p3⟩ HI.out w2 (HX.out.below hb0) hd2
    rw [scV_eq] at cR
    have x0 : w2.cell? ⟨w.heap.size, 0, none⟩ = some (.bool p0) := dP.cell 0 rfl
    have x1 : w2.cell? ⟨w.heap.size, 1, none⟩ = some (.int .i64 p1) := dP.cell 1 rfl
    have x2 : w2.cell? ⟨w.heap.size, 2, none⟩ = some (.int .i64 p2) := dP.cell 2 rfl
    have x3 : w2.cell? ⟨w.heap.size, 3, none⟩ = some (.int .i64 p3) := dP.cell 3 rfl
    rw [ha] at cR
    clear ha
    go_wp2_with fail
    refine cR.mono ?_
    rintro e w3 ⟨rfl, hb2⟩
    replace dS := At.below' hb2 dS
    replace dP := At.below' hb2 dP
    replace hd2 : MemDone w3 rb (.slice q len cap) m := At.below' hb2 hd2
    replace hb0 := hb0.trans (hb2.mono hb0.size)
    clear hb2 x0 x1 x2 x3 cR
    have ho := HO.out
    have hv := HV.out
    have ht := HT.out
    have hat := HA.out
    obtain ⟨t, htt⟩ : ∃ t, t = p3 + v := ⟨_, rfl⟩
    have i1 : IntKind.i64.wrap (p3 + v) = t := by rw [IntKind.wrap_i64, htt]; omega
    have i2 : wrap64 (p3 + v) = t := by unfold wrap64; rw [htt]; omega
    have i3 : p3 + v = t := htt.symm
    have i4 : IntKind.i64.wrap t = t := by rw [IntKind.wrap_i64, htt]; omega
    have i5 : wrap64 t = t := by unfold wrap64; rw [htt]; omega
    try rw [i3] at ht
    have HTT := Lib.hid htt
    clear htt ho hv
    have dP2 : At (w3.setCell ⟨w.heap.size, 3, none⟩ (.int .i64 t)) w.heap.size #[.bool p0, .int .i64 p1, .int .i64 p2, .int .i64 t] 33 := At.set dP 3 _ (by simp)
    have hb2 : Below w.heap.size w (w3.setCell ⟨w.heap.size, 3, none⟩ (.int .i64 t)) := hb0.setCell (p := ⟨w.heap.size, 3, none⟩) (Nat.le_refl _) _
    have dS2 : At (w3.setCell ⟨w.heap.size, 3, none⟩ (.int .i64 t)) (w.heap.size + 1) #[.bool false, .int .i64 0, .int .i64 0, .int .i64 0] 33 := (Below.heap_setCell w3 ⟨w.heap.size, 3, none⟩ _ (w.heap.size + 1) (by simp)).trans dS
    have hd3 : MemDone (w3.setCell ⟨w.heap.size, 3, none⟩ (.int .i64 t)) rb (.slice q len cap) m := (Below.heap_setCell w3 ⟨w.heap.size, 3, none⟩ _ rb (by simp; omega)).trans hd2
    have x0 : w3.cell? ⟨w.heap.size, 0, none⟩ = some (.bool p0) := dP.cell 0 rfl
    have x1 : w3.cell? ⟨w.heap.size, 1, none⟩ = some (.int .i64 p1) := dP.cell 1 rfl
    have x2 : w3.cell? ⟨w.heap.size, 2, none⟩ = some (.int .i64 p2) := dP.cell 2 rfl
    have x3 : w3.cell? ⟨w.heap.size, 3, none⟩ = some (.int .i64 p3) := dP.cell 3 rfl
    have f3 := dP.free 3
    have y0 : (w3.setCell ⟨w.heap.size, 3, none⟩ (.int .i64 t)).cell? ⟨w.heap.size, 0, none⟩ = some (.bool p0) := dP2.cell 0 rfl
    have y1 : (w3.setCell ⟨w.heap.size, 3, none⟩ (.int .i64 t)).cell? ⟨w.heap.size, 1, none⟩ = some (.int .i64 p1) := dP2.cell 1 rfl
    have y2 : (w3.setCell ⟨w.heap.size, 3, none⟩ (.int .i64 t)).cell? ⟨w.heap.size, 2, none⟩ = some (.int .i64 p2) := dP2.cell 2 rfl
    have y3 : (w3.setCell ⟨w.heap.size, 3, none⟩ (.int .i64 t)).cell? ⟨w.heap.size, 3, none⟩ = some (.int .i64 t) := dP2.cell 3 rfl
    clear dP dS hd2 hb0
    have t1 : t < 0 := ht
    clear ht hat hd3 dP2
    go_wp2_with fail
    generalize (w3.setCell ⟨w.heap.size, 3, none⟩ (.int .i64 t)) = w4 at *
    go_quiet (fail)
    replace dS2 : At (w4.drewN nq) (w.heap.size + 1) #[.bool false, .int .i64 0, .int .i64 0, .int .i64 0] 33 := dS2.drewN nq
    have hb0 := hb2.trans (Joins.below_draws _ w4 nq)
    clear y0 y1 y2 y3 x0 x1 x2 x3 f3 hb2
    generalize w4.drewN nq = w5 at *
    have st := store4 dS2 (.bool false) (.int .i64 0) (.int .i64 0) (.int .i64 0)
    have E1 := store4_at dS2 (.bool false) (.int .i64 0) (.int .i64 0) (.int .i64 0)
    have E2 := store4_below hb0 (show w.heap.size ≤ w.heap.size + 1 by omega) (.bool false) (.int .i64 0) (.int .i64 0) (.int .i64 0)
    clear dS2 hb0
    go_wp2_with fail
    generalize ((((w5.setCell ⟨(w.heap.size + 1), 0, none⟩ (.bool false)).setCell ⟨(w.heap.size + 1), 1, none⟩ (.int .i64 0)).setCell ⟨(w.heap.size + 1), 2, none⟩ (.int .i64 0)).setCell ⟨(w.heap.size + 1), 3, none⟩ (.int .i64 0)) = wz at E1 E2 ⊢
    have g0 : wz.cell? ⟨w.heap.size + 1, 0, none⟩ = some (.bool false) := E1.cell 0 rfl
    have g1 : wz.cell? ⟨w.heap.size + 1, 1, none⟩ = some (.int .i64 0) := E1.cell 1 rfl
    have g2 : wz.cell? ⟨w.heap.size + 1, 2, none⟩ = some (.int .i64 0) := E1.cell 2 rfl
    have g3 : wz.cell? ⟨w.heap.size + 1, 3, none⟩ = some (.int .i64 0) := E1.cell 3 rfl
    exact bodyPost_ret (v := .tuple #[.agg #[.bool false, .int .i64 0, .int .i64 0, .int .i64 0], .int .i64 1, .int .i64 0]) (by simp [results, Try.results33, go_sem, g0, g1, g2, g3]) rfl ⟨rfl, E2⟩
set_option maxRecDepth 100000 in
set_option maxHeartbeats 3200000 in
theorem Move_far (q : Option Addr) (len cap : Nat) (m : List BK) (p : SC) (n : Int) (hn : isN n 32) (hH : hasM m p = true) (hg : (((atM m p).st == 1) || (p.b == 0 && n == 0)) = true) (ht : ¬ p.o + viewI n 32 < 0 ∧ ((atM m p).ys.length : Int) < p.o + viewI n 32) (w : World) (hx : IsMem w q len m) :
    Calls Try.prog 33 #[.slice q len cap, scV p, .int .i64 n] w (LoadPost noS 1 0 w) := by
  have HI := Lib.hid (InM.of hH)
  have HO := Lib.hid (InM.off hH)
  have HMM := Lib.hid (show mayM m = true by unfold hasM at hH; simp only [Bool.and_eq_true] at hH; exact hH.1)
  have cV := fun w => View_yes n 32 (by unfold isW; decide) hn w
  have hv : -4294967296 ≤ viewI n 32 ∧ viewI n 32 ≤ 4294967296 := by simp only [isN, Int.reduceToNat, Int.reducePow] at hn; unfold viewI; simp only [Int.reduceToNat, Int.reducePow, Nat.reduceSub]; split <;> omega
  clear hn
  have hcs : (((atM m p).st == 1) = true ∧ (p.b == 0) = false) ∨ (((atM m p).st == 1) = true ∧ (p.b == 0) = true ∧ (n == 0) = false) ∨ (((atM m p).st == 1) = true ∧ (p.b == 0) = true ∧ (n == 0) = true) ∨ (((atM m p).st == 1) = false ∧ (p.b == 0) = true ∧ (n == 0) = true) := by
    revert hg; cases ((atM m p).st == 1) <;> cases (p.b == 0) <;> cases (n == 0) <;> simp
  clear hg
  generalize viewI n 32 = v at *
  have hatm : ∀ t, atM m ⟨p.p, p.n, p.b, t⟩ = atM m p := fun t => rfl
  have HT := Lib.hid ht
  have HA := Lib.hid hatm
  have HV := Lib.hid hv
  clear ht hv hatm
  obtain ⟨p0, p1, p2, p3⟩ := p
  rw [scV_eq] at *
  try dsimp only at *
  have dP := At.alloc (At.new w #[.bool p0, .int .i64 p1, .int .i64 p2, .int .i64 p3] 33) (.cells #[.bool false, .int .i64 0, .int .i64 0, .int .i64 0] 33)
  have dS := At.new2 w (.cells #[.bool p0, .int .i64 p1, .int .i64 p2, .int .i64 p3] 33) #[.bool false, .int .i64 0, .int .i64 0, .int .i64 0] 33
  have hb0 := below_box2 w (.cells #[.bool p0, .int .i64 p1, .int .i64 p2, .int .i64 p3] 33) (.cells #[.bool false, .int .i64 0, .int .i64 0, .int .i64 0] 33)
  have cT := fun w => take_any q len cap w
  have HX := Lib.hid hx
  clear hx
  go_enter Try.func33, Try.ntmps33
  go_wp2_with fail
  refine (cT _).mono ?_
  rintro e w1 ⟨rb, rfl, hge, hM, hb2⟩
  replace dP := At.below' hb2 dP
  replace dS := At.below' hb2 dS
  have hrb : w.heap.size + 1 < rb := by have := hge; simp at this; omega
  replace hb0 := hb0.trans (hb2.mono hb0.size)
  clear hb2 hge cT
  go_wp2_with fail
  refine (cV _).mono ?_
  rintro e w2 ⟨rfl, rfl⟩
  clear cV
  have hlt := At.lt hM
  have hcH := hasM_first rb q len cap m ⟨p0, p1, p2, p3⟩ w w1 HX.out hb0 (by omega) hM
  unfold HasMPost at hcH
  rw [hH] at hcH
  rw [scV_eq] at hcH
  have x0 : w1.cell? ⟨w.heap.size, 0, none⟩ = some (.bool p0) := dP.cell 0 rfl
  have x1 : w1.cell? ⟨w.heap.size, 1, none⟩ = some (.int .i64 p1) := dP.cell 1 rfl
  have x2 : w1.cell? ⟨w.heap.size, 2, none⟩ = some (.int .i64 p2) := dP.cell 2 rfl
  have x3 : w1.cell? ⟨w.heap.size, 3, none⟩ = some (.int .i64 p3) := dP.cell 3 rfl
  go_wp2_with fail
  refine hcH.mono ?_
  rintro e w2 ⟨rfl, hd, hO⟩
  replace dP := hO.at dP (by omega)
  replace dS := hO.at dS (by omega)
  replace hb0 := hb0.trans (hO.1.mono (by omega))
  clear hcH hO hM x0 x1 x2 x3
  have HD := Lib.hid hd
  clear hd
  rcases hcs with ⟨ha, hz⟩ | ⟨ha, hz, hn0⟩ | ⟨ha, hz, hn0⟩ | ⟨ha, hz, hn0⟩
  · have hd := HD.out
    have hd2 := hd (HMM.out)
    have hlt3 := hd2.lt
    clear hd hlt hH
    have cR := isAlive_any rb q len cap m ⟨p0, p1, p2, p3⟩ HI.out w2 (HX.out.below hb0) hd2
    rw [scV_eq] at cR
    have x0 : w2.cell? ⟨w.heap.size, 0, none⟩ = some (.bool p0) := dP.cell 0 rfl
    have x1 : w2.cell? ⟨w.heap.size, 1, none⟩ = some (.int .i64 p1) := dP.cell 1 rfl
    have x2 : w2.cell? ⟨w.heap.size, 2, none⟩ = some (.int .i64 p2) := dP.cell 2 rfl
    have x3 : w2.cell? ⟨w.heap.size, 3, none⟩ = some (.int .i64 p3) := dP.cell 3 rfl
    rw [ha] at cR
    clear ha
    go_wp2_with fail
    refine cR.mono ?_
    rintro e w3 ⟨rfl, hb2⟩
    replace dS := At.below' hb2 dS
    replace dP := At.below' hb2 dP
    replace hd2 : MemDone w3 rb (.slice q len cap) m := At.below' hb2 hd2
    replace hb0 := hb0.trans (hb2.mono hb0.size)
    clear hb2 x0 x1 x2 x3 cR
    have ho := HO.out
    have hv := HV.out
    have ht := HT.out
    have hat := HA.out
    obtain ⟨t, htt⟩ : ∃ t, t = p3 + v := ⟨_, rfl⟩
    have i1 : IntKind.i64.wrap (p3 + v) = t := by rw [IntKind.wrap_i64, htt]; omega
    have i2 : wrap64 (p3 + v) = t := by unfold wrap64; rw [htt]; omega
    have i3 : p3 + v = t := htt.symm
    have i4 : IntKind.i64.wrap t = t := by rw [IntKind.wrap_i64, htt]; omega
    have i5 : wrap64 t = t := by unfold wrap64; rw [htt]; omega
    try rw [i3] at ht
    have HTT := Lib.hid htt
    clear htt ho hv
    have dP2 : At (w3.setCell ⟨w.heap.size, 3, none⟩ (.int .i64 t)) w.heap.size #[.bool p0, .int .i64 p1, .int .i64 p2, .int .i64 t] 33 := At.set dP 3 _ (by simp)
    have hb2 : Below w.heap.size w (w3.setCell ⟨w.heap.size, 3, none⟩ (.int .i64 t)) := hb0.setCell (p := ⟨w.heap.size, 3, none⟩) (Nat.le_refl _) _
    have dS2 : At (w3.setCell ⟨w.heap.size, 3, none⟩ (.int .i64 t)) (w.heap.size + 1) #[.bool false, .int .i64 0, .int .i64 0, .int .i64 0] 33 := (Below.heap_setCell w3 ⟨w.heap.size, 3, none⟩ _ (w.heap.size + 1) (by simp)).trans dS
    have hd3 : MemDone (w3.setCell ⟨w.heap.size, 3, none⟩ (.int .i64 t)) rb (.slice q len cap) m := (Below.heap_setCell w3 ⟨w.heap.size, 3, none⟩ _ rb (by simp; omega)).trans hd2
    have x0 : w3.cell? ⟨w.heap.size, 0, none⟩ = some (.bool p0) := dP.cell 0 rfl
    have x1 : w3.cell? ⟨w.heap.size, 1, none⟩ = some (.int .i64 p1) := dP.cell 1 rfl
    have x2 : w3.cell? ⟨w.heap.size, 2, none⟩ = some (.int .i64 p2) := dP.cell 2 rfl
    have x3 : w3.cell? ⟨w.heap.size, 3, none⟩ = some (.int .i64 p3) := dP.cell 3 rfl
    have f3 := dP.free 3
    have y0 : (w3.setCell ⟨w.heap.size, 3, none⟩ (.int .i64 t)).cell? ⟨w.heap.size, 0, none⟩ = some (.bool p0) := dP2.cell 0 rfl
    have y1 : (w3.setCell ⟨w.heap.size, 3, none⟩ (.int .i64 t)).cell? ⟨w.heap.size, 1, none⟩ = some (.int .i64 p1) := dP2.cell 1 rfl
    have y2 : (w3.setCell ⟨w.heap.size, 3, none⟩ (.int .i64 t)).cell? ⟨w.heap.size, 2, none⟩ = some (.int .i64 p2) := dP2.cell 2 rfl
    have y3 : (w3.setCell ⟨w.heap.size, 3, none⟩ (.int .i64 t)).cell? ⟨w.heap.size, 3, none⟩ = some (.int .i64 t) := dP2.cell 3 rfl
    clear dP dS hd2 hb0
    obtain ⟨ht0, ht1⟩ := ht
    have t1 : decide (t < 0) = false := by simpa using ht0
    go_wp2_with fail
    generalize (w3.setCell ⟨w.heap.size, 3, none⟩ (.int .i64 t)) = w4 at *
    have hltB := hd3.lt
    have cB := fun wx (h : Below w4.heap.size w4 wx) => block_any rb q len cap m ⟨p0, p1, p2, t⟩ (show InM m ⟨p0, p1, p2, t⟩ from HI.out) wx ((HX.out.below hb2).below h) (hd3.below h hltB)
    simp only [scV_eq, hat t] at cB
    have hf1 := fun x y w => fld1 x y w
    generalize hX : atM m ⟨p0, p1, p2, p3⟩ = X at cB ht1
    obtain ⟨s, xq, xc, ys⟩ := X
    unfold bkV at cB
    dsimp only at cB ht1
    clear hX hat ht0
    generalize ys.length = Ly at *
    have t2 : (Ly : Int) < t := ht1
    clear ht1 x0 x1 x2 x3 f3
    have p0q := fun p : BelowBy w4 => p.cell y0
    have p1q := fun p : BelowBy w4 => p.cell y1
    have p2q := fun p : BelowBy w4 => p.cell y2
    have p3q := fun p : BelowBy w4 => p.cell y3
    have cBq := fun p : BelowBy w4 => cB p.world p.below
    refine wp_region_quiet_below (by kernel_rfl) (by kernel_rfl) ?_
    repeat (go_big_quiet_step ((go_at_call 57; (with_reducible exact Calls.below_of (cBq _)))))
    refine wpQuiet_nil ?_
    intro w5 hw'
    have hbB : Below w4.heap.size w4 w5 := by (obtain ⟨⟨_, h⟩, h2⟩ := hw'; rw [h2]; exact h)
    clear hw'
    have dP3 := At.below' hbB dP2
    replace dS2 := At.below' hbB dS2
    have hb0 := hb2.trans (hbB.mono hb2.size)
    clear hb2 hbB cB cBq p0q p1q p2q p3q y0 y1 y2 y3
    have y0 : w5.cell? ⟨w.heap.size, 0, none⟩ = some (.bool p0) := dP3.cell 0 rfl
    have y1 : w5.cell? ⟨w.heap.size, 1, none⟩ = some (.int .i64 p1) := dP3.cell 1 rfl
    have y2 : w5.cell? ⟨w.heap.size, 2, none⟩ = some (.int .i64 p2) := dP3.cell 2 rfl
    have y3 : w5.cell? ⟨w.heap.size, 3, none⟩ = some (.int .i64 t) := dP3.cell 3 rfl
    clear dP3 hd3 hltB
    have st := store4 dS2 (.bool false) (.int .i64 0) (.int .i64 0) (.int .i64 0)
    have E1 := store4_at dS2 (.bool false) (.int .i64 0) (.int .i64 0) (.int .i64 0)
    have E2 := store4_below hb0 (show w.heap.size ≤ w.heap.size + 1 by omega) (.bool false) (.int .i64 0) (.int .i64 0) (.int .i64 0)
    clear dS2 hb0
    go_wp2_with fail
    generalize ((((w5.setCell ⟨(w.heap.size + 1), 0, none⟩ (.bool false)).setCell ⟨(w.heap.size + 1), 1, none⟩ (.int .i64 0)).setCell ⟨(w.heap.size + 1), 2, none⟩ (.int .i64 0)).setCell ⟨(w.heap.size + 1), 3, none⟩ (.int .i64 0)) = wz at E1 E2 ⊢
    have g0 : wz.cell? ⟨w.heap.size + 1, 0, none⟩ = some (.bool false) := E1.cell 0 rfl
    have g1 : wz.cell? ⟨w.heap.size + 1, 1, none⟩ = some (.int .i64 0) := E1.cell 1 rfl
    have g2 : wz.cell? ⟨w.heap.size + 1, 2, none⟩ = some (.int .i64 0) := E1.cell 2 rfl
    have g3 : wz.cell? ⟨w.heap.size + 1, 3, none⟩ = some (.int .i64 0) := E1.cell 3 rfl
    exact bodyPost_ret (v := .tuple #[.agg #[.bool false, .int .i64 0, .int .i64 0, .int .i64 0], .int .i64 1, .int .i64 0]) (by simp [results, Try.results33, go_sem, g0, g1, g2, g3]) rfl ⟨rfl, E2⟩
  · have hd := HD.out
    have hd2 := hd (HMM.out)
    have hlt3 := hd2.lt
    clear hd hlt hH
    have cR := isAlive_any rb q len cap m ⟨p0, p1, p2, p3⟩ HI.out w2 (HX.out.below hb0) hd2
    rw [scV_eq] at cR
    have x0 : w2.cell? ⟨w.heap.size, 0, none⟩ = some (.bool p0) := dP.cell 0 rfl
    have x1 : w2.cell? ⟨w.heap.size, 1, none⟩ = some (.int .i64 p1) := dP.cell 1 rfl
    have x2 : w2.cell? ⟨w.heap.size, 2, none⟩ = some (.int .i64 p2) := dP.cell 2 rfl
    have x3 : w2.cell? ⟨w.heap.size, 3, none⟩ = some (.int .i64 p3) := dP.cell 3 rfl
    rw [ha] at cR
    clear ha
    go_wp2_with fail
    refine cR.mono ?_
    rintro e w3 ⟨rfl, hb2⟩
    replace dS := At.below' hb2 dS
    replace dP := At.below' hb2 dP
    replace hd2 : MemDone w3 rb (.slice q len cap) m := At.below' hb2 hd2
    replace hb0 := hb0.trans (hb2.mono hb0.size)
    clear hb2 x0 x1 x2 x3 cR
    have ho := HO.out
    have hv := HV.out
    have ht := HT.out
    have hat := HA.out
    obtain ⟨t, htt⟩ : ∃ t, t = p3 + v := ⟨_, rfl⟩
    have i1 : IntKind.i64.wrap (p3 + v) = t := by rw [IntKind.wrap_i64, htt]; omega
    have i2 : wrap64 (p3 + v) = t := by unfold wrap64; rw [htt]; omega
    have i3 : p3 + v = t := htt.symm
    have i4 : IntKind.i64.wrap t = t := by rw [IntKind.wrap_i64, htt]; omega
    have i5 : wrap64 t = t := by unfold wrap64; rw [htt]; omega
    try rw [i3] at ht
    have HTT := Lib.hid htt
    clear htt ho hv
    have dP2 : At (w3.setCell ⟨w.heap.size, 3, none⟩ (.int .i64 t)) w.heap.size #[.bool p0, .int .i64 p1, .int .i64 p2, .int .i64 t] 33 := At.set dP 3 _ (by simp)
    have hb2 : Below w.heap.size w (w3.setCell ⟨w.heap.size, 3, none⟩ (.int .i64 t)) := hb0.setCell (p := ⟨w.heap.size, 3, none⟩) (Nat.le_refl _) _
    have dS2 : At (w3.setCell ⟨w.heap.size, 3, none⟩ (.int .i64 t)) (w.heap.size + 1) #[.bool false, .int .i64 0, .int .i64 0, .int .i64 0] 33 := (Below.heap_setCell w3 ⟨w.heap.size, 3, none⟩ _ (w.heap.size + 1) (by simp)).trans dS
    have hd3 : MemDone (w3.setCell ⟨w.heap.size, 3, none⟩ (.int .i64 t)) rb (.slice q len cap) m := (Below.heap_setCell w3 ⟨w.heap.size, 3, none⟩ _ rb (by simp; omega)).trans hd2
    have x0 : w3.cell? ⟨w.heap.size, 0, none⟩ = some (.bool p0) := dP.cell 0 rfl
    have x1 : w3.cell? ⟨w.heap.size, 1, none⟩ = some (.int .i64 p1) := dP.cell 1 rfl
    have x2 : w3.cell? ⟨w.heap.size, 2, none⟩ = some (.int .i64 p2) := dP.cell 2 rfl
    have x3 : w3.cell? ⟨w.heap.size, 3, none⟩ = some (.int .i64 p3) := dP.cell 3 rfl
    have f3 := dP.free 3
    have y0 : (w3.setCell ⟨w.heap.size, 3, none⟩ (.int .i64 t)).cell? ⟨w.heap.size, 0, none⟩ = some (.bool p0) := dP2.cell 0 rfl
    have y1 : (w3.setCell ⟨w.heap.size, 3, none⟩ (.int .i64 t)).cell? ⟨w.heap.size, 1, none⟩ = some (.int .i64 p1) := dP2.cell 1 rfl
    have y2 : (w3.setCell ⟨w.heap.size, 3, none⟩ (.int .i64 t)).cell? ⟨w.heap.size, 2, none⟩ = some (.int .i64 p2) := dP2.cell 2 rfl
    have y3 : (w3.setCell ⟨w.heap.size, 3, none⟩ (.int .i64 t)).cell? ⟨w.heap.size, 3, none⟩ = some (.int .i64 t) := dP2.cell 3 rfl
    clear dP dS hd2 hb0
    obtain ⟨ht0, ht1⟩ := ht
    have t1 : decide (t < 0) = false := by simpa using ht0
    go_wp2_with fail
    generalize (w3.setCell ⟨w.heap.size, 3, none⟩ (.int .i64 t)) = w4 at *
    have hltB := hd3.lt
    have cB := fun wx (h : Below w4.heap.size w4 wx) => block_any rb q len cap m ⟨p0, p1, p2, t⟩ (show InM m ⟨p0, p1, p2, t⟩ from HI.out) wx ((HX.out.below hb2).below h) (hd3.below h hltB)
    simp only [scV_eq, hat t] at cB
    have hf1 := fun x y w => fld1 x y w
    generalize hX : atM m ⟨p0, p1, p2, p3⟩ = X at cB ht1
    obtain ⟨s, xq, xc, ys⟩ := X
    unfold bkV at cB
    dsimp only at cB ht1
    clear hX hat ht0
    generalize ys.length = Ly at *
    have t2 : (Ly : Int) < t := ht1
    clear ht1 x0 x1 x2 x3 f3
    have p0q := fun p : BelowBy w4 => p.cell y0
    have p1q := fun p : BelowBy w4 => p.cell y1
    have p2q := fun p : BelowBy w4 => p.cell y2
    have p3q := fun p : BelowBy w4 => p.cell y3
    have cBq := fun p : BelowBy w4 => cB p.world p.below
    refine wp_region_quiet_below (by kernel_rfl) (by kernel_rfl) ?_
    repeat (go_big_quiet_step ((go_at_call 57; (with_reducible exact Calls.below_of (cBq _)))))
    refine wpQuiet_nil ?_
    intro w5 hw'
    have hbB : Below w4.heap.size w4 w5 := by (obtain ⟨⟨_, h⟩, h2⟩ := hw'; rw [h2]; exact h)
    clear hw'
    have dP3 := At.below' hbB dP2
    replace dS2 := At.below' hbB dS2
    have hb0 := hb2.trans (hbB.mono hb2.size)
    clear hb2 hbB cB cBq p0q p1q p2q p3q y0 y1 y2 y3
    have y0 : w5.cell? ⟨w.heap.size, 0, none⟩ = some (.bool p0) := dP3.cell 0 rfl
    have y1 : w5.cell? ⟨w.heap.size, 1, none⟩ = some (.int .i64 p1) := dP3.cell 1 rfl
    have y2 : w5.cell? ⟨w.heap.size, 2, none⟩ = some (.int .i64 p2) := dP3.cell 2 rfl
    have y3 : w5.cell? ⟨w.heap.size, 3, none⟩ = some (.int .i64 t) := dP3.cell 3 rfl
    clear dP3 hd3 hltB
    have st := store4 dS2 (.bool false) (.int .i64 0) (.int .i64 0) (.int .i64 0)
    have E1 := store4_at dS2 (.bool false) (.int .i64 0) (.int .i64 0) (.int .i64 0)
    have E2 := store4_below hb0 (show w.heap.size ≤ w.heap.size + 1 by omega) (.bool false) (.int .i64 0) (.int .i64 0) (.int .i64 0)
    clear dS2 hb0
    go_wp2_with fail
    generalize ((((w5.setCell ⟨(w.heap.size + 1), 0, none⟩ (.bool false)).setCell ⟨(w.heap.size + 1), 1, none⟩ (.int .i64 0)).setCell ⟨(w.heap.size + 1), 2, none⟩ (.int .i64 0)).setCell ⟨(w.heap.size + 1), 3, none⟩ (.int .i64 0)) = wz at E1 E2 ⊢
    have g0 : wz.cell? ⟨w.heap.size + 1, 0, none⟩ = some (.bool false) := E1.cell 0 rfl
    have g1 : wz.cell? ⟨w.heap.size + 1, 1, none⟩ = some (.int .i64 0) := E1.cell 1 rfl
    have g2 : wz.cell? ⟨w.heap.size + 1, 2, none⟩ = some (.int .i64 0) := E1.cell 2 rfl
    have g3 : wz.cell? ⟨w.heap.size + 1, 3, none⟩ = some (.int .i64 0) := E1.cell 3 rfl
    exact bodyPost_ret (v := .tuple #[.agg #[.bool false, .int .i64 0, .int .i64 0, .int .i64 0], .int .i64 1, .int .i64 0]) (by simp [results, Try.results33, go_sem, g0, g1, g2, g3]) rfl ⟨rfl, E2⟩
  · have hd := HD.out
    have hd2 := hd (HMM.out)
    have hlt3 := hd2.lt
    clear hd hlt hH
    have cR := isAlive_any rb q len cap m ⟨p0, p1, p2, p3⟩ HI.out w2 (HX.out.below hb0) hd2
    rw [scV_eq] at cR
    have x0 : w2.cell? ⟨w.heap.size, 0, none⟩ = some (.bool p0) := dP.cell 0 rfl
    have x1 : w2.cell? ⟨w.heap.size, 1, none⟩ = some (.int .i64 p1) := dP.cell 1 rfl
    have x2 : w2.cell? ⟨w.heap.size, 2, none⟩ = some (.int .i64 p2) := dP.cell 2 rfl
    have x3 : w2.cell? ⟨w.heap.size, 3, none⟩ = some (.int .i64 p3) := dP.cell 3 rfl
    rw [ha] at cR
    clear ha
    go_wp2_with fail
    refine cR.mono ?_
    rintro e w3 ⟨rfl, hb2⟩
    replace dS := At.below' hb2 dS
    replace dP := At.below' hb2 dP
    replace hd2 : MemDone w3 rb (.slice q len cap) m := At.below' hb2 hd2
    replace hb0 := hb0.trans (hb2.mono hb0.size)
    clear hb2 x0 x1 x2 x3 cR
    have ho := HO.out
    have hv := HV.out
    have ht := HT.out
    have hat := HA.out
    obtain ⟨t, htt⟩ : ∃ t, t = p3 + v := ⟨_, rfl⟩
    have i1 : IntKind.i64.wrap (p3 + v) = t := by rw [IntKind.wrap_i64, htt]; omega
    have i2 : wrap64 (p3 + v) = t := by unfold wrap64; rw [htt]; omega
    have i3 : p3 + v = t := htt.symm
    have i4 : IntKind.i64.wrap t = t := by rw [IntKind.wrap_i64, htt]; omega
    have i5 : wrap64 t = t := by unfold wrap64; rw [htt]; omega
    try rw [i3] at ht
    have HTT := Lib.hid htt
    clear htt ho hv
    have dP2 : At (w3.setCell ⟨w.heap.size, 3, none⟩ (.int .i64 t)) w.heap.size #[.bool p0, .int .i64 p1, .int .i64 p2, .int .i64 t] 33 := At.set dP 3 _ (by simp)
    have hb2 : Below w.heap.size w (w3.setCell ⟨w.heap.size, 3, none⟩ (.int .i64 t)) := hb0.setCell (p := ⟨w.heap.size, 3, none⟩) (Nat.le_refl _) _
    have dS2 : At (w3.setCell ⟨w.heap.size, 3, none⟩ (.int .i64 t)) (w.heap.size + 1) #[.bool false, .int .i64 0, .int .i64 0, .int .i64 0] 33 := (Below.heap_setCell w3 ⟨w.heap.size, 3, none⟩ _ (w.heap.size + 1) (by simp)).trans dS
    have hd3 : MemDone (w3.setCell ⟨w.heap.size, 3, none⟩ (.int .i64 t)) rb (.slice q len cap) m := (Below.heap_setCell w3 ⟨w.heap.size, 3, none⟩ _ rb (by simp; omega)).trans hd2
    have x0 : w3.cell? ⟨w.heap.size, 0, none⟩ = some (.bool p0) := dP.cell 0 rfl
    have x1 : w3.cell? ⟨w.heap.size, 1, none⟩ = some (.int .i64 p1) := dP.cell 1 rfl
    have x2 : w3.cell? ⟨w.heap.size, 2, none⟩ = some (.int .i64 p2) := dP.cell 2 rfl
    have x3 : w3.cell? ⟨w.heap.size, 3, none⟩ = some (.int .i64 p3) := dP.cell 3 rfl
    have f3 := dP.free 3
    have y0 : (w3.setCell ⟨w.heap.size, 3, none⟩ (.int .i64 t)).cell? ⟨w.heap.size, 0, none⟩ = some (.bool p0) := dP2.cell 0 rfl
    have y1 : (w3.setCell ⟨w.heap.size, 3, none⟩ (.int .i64 t)).cell? ⟨w.heap.size, 1, none⟩ = some (.int .i64 p1) := dP2.cell 1 rfl
    have y2 : (w3.setCell ⟨w.heap.size, 3, none⟩ (.int .i64 t)).cell? ⟨w.heap.size, 2, none⟩ = some (.int .i64 p2) := dP2.cell 2 rfl
    have y3 : (w3.setCell ⟨w.heap.size, 3, none⟩ (.int .i64 t)).cell? ⟨w.heap.size, 3, none⟩ = some (.int .i64 t) := dP2.cell 3 rfl
    clear dP dS hd2 hb0
    obtain ⟨ht0, ht1⟩ := ht
    have t1 : decide (t < 0) = false := by simpa using ht0
    go_wp2_with fail
    generalize (w3.setCell ⟨w.heap.size, 3, none⟩ (.int .i64 t)) = w4 at *
    have hltB := hd3.lt
    have cB := fun wx (h : Below w4.heap.size w4 wx) => block_any rb q len cap m ⟨p0, p1, p2, t⟩ (show InM m ⟨p0, p1, p2, t⟩ from HI.out) wx ((HX.out.below hb2).below h) (hd3.below h hltB)
    simp only [scV_eq, hat t] at cB
    have hf1 := fun x y w => fld1 x y w
    generalize hX : atM m ⟨p0, p1, p2, p3⟩ = X at cB ht1
    obtain ⟨s, xq, xc, ys⟩ := X
    unfold bkV at cB
    dsimp only at cB ht1
    clear hX hat ht0
    generalize ys.length = Ly at *
    have t2 : (Ly : Int) < t := ht1
    clear ht1 x0 x1 x2 x3 f3
    have p0q := fun p : BelowBy w4 => p.cell y0
    have p1q := fun p : BelowBy w4 => p.cell y1
    have p2q := fun p : BelowBy w4 => p.cell y2
    have p3q := fun p : BelowBy w4 => p.cell y3
    have cBq := fun p : BelowBy w4 => cB p.world p.below
    refine wp_region_quiet_below (by kernel_rfl) (by kernel_rfl) ?_
    repeat (go_big_quiet_step ((go_at_call 57; (with_reducible exact Calls.below_of (cBq _)))))
    refine wpQuiet_nil ?_
    intro w5 hw'
    have hbB : Below w4.heap.size w4 w5 := by (obtain ⟨⟨_, h⟩, h2⟩ := hw'; rw [h2]; exact h)
    clear hw'
    have dP3 := At.below' hbB dP2
    replace dS2 := At.below' hbB dS2
    have hb0 := hb2.trans (hbB.mono hb2.size)
    clear hb2 hbB cB cBq p0q p1q p2q p3q y0 y1 y2 y3
    have y0 : w5.cell? ⟨w.heap.size, 0, none⟩ = some (.bool p0) := dP3.cell 0 rfl
    have y1 : w5.cell? ⟨w.heap.size, 1, none⟩ = some (.int .i64 p1) := dP3.cell 1 rfl
    have y2 : w5.cell? ⟨w.heap.size, 2, none⟩ = some (.int .i64 p2) := dP3.cell 2 rfl
    have y3 : w5.cell? ⟨w.heap.size, 3, none⟩ = some (.int .i64 t) := dP3.cell 3 rfl
    clear dP3 hd3 hltB
    have st := store4 dS2 (.bool false) (.int .i64 0) (.int .i64 0) (.int .i64 0)
    have E1 := store4_at dS2 (.bool false) (.int .i64 0) (.int .i64 0) (.int .i64 0)
    have E2 := store4_below hb0 (show w.heap.size ≤ w.heap.size + 1 by omega) (.bool false) (.int .i64 0) (.int .i64 0) (.int .i64 0)
    clear dS2 hb0
    go_wp2_with fail
    generalize ((((w5.setCell ⟨(w.heap.size + 1), 0, none⟩ (.bool false)).setCell ⟨(w.heap.size + 1), 1, none⟩ (.int .i64 0)).setCell ⟨(w.heap.size + 1), 2, none⟩ (.int .i64 0)).setCell ⟨(w.heap.size + 1), 3, none⟩ (.int .i64 0)) = wz at E1 E2 ⊢
    have g0 : wz.cell? ⟨w.heap.size + 1, 0, none⟩ = some (.bool false) := E1.cell 0 rfl
    have g1 : wz.cell? ⟨w.heap.size + 1, 1, none⟩ = some (.int .i64 0) := E1.cell 1 rfl
    have g2 : wz.cell? ⟨w.heap.size + 1, 2, none⟩ = some (.int .i64 0) := E1.cell 2 rfl
    have g3 : wz.cell? ⟨w.heap.size + 1, 3, none⟩ = some (.int .i64 0) := E1.cell 3 rfl
    exact bodyPost_ret (v := .tuple #[.agg #[.bool false, .int .i64 0, .int .i64 0, .int .i64 0], .int .i64 1, .int .i64 0]) (by simp [results, Try.results33, go_sem, g0, g1, g2, g3]) rfl ⟨rfl, E2⟩
  · have hd := HD.out
    have hd2 := hd (HMM.out)
    have hlt3 := hd2.lt
    clear hd hlt hH
    have cR := isAlive_any rb q len cap m ⟨p0, p1, p2, p3⟩ HI.out w2 (HX.out.below hb0) hd2
    rw [scV_eq] at cR
    have x0 : w2.cell? ⟨w.heap.size, 0, none⟩ = some (.bool p0) := dP.cell 0 rfl
    have x1 : w2.cell? ⟨w.heap.size, 1, none⟩ = some (.int .i64 p1) := dP.cell 1 rfl
    have x2 : w2.cell? ⟨w.heap.size, 2, none⟩ = some (.int .i64 p2) := dP.cell 2 rfl
    have x3 : w2.cell? ⟨w.heap.size, 3, none⟩ = some (.int .i64 p3) := dP.cell 3 rfl
    rw [ha] at cR
    clear ha
    go_wp2_with fail
    refine cR.mono ?_
    rintro e w3 ⟨rfl, hb2⟩
    replace dS := At.below' hb2 dS
    replace dP := At.below' hb2 dP
    replace hd2 : MemDone w3 rb (.slice q len cap) m := At.below' hb2 hd2
    replace hb0 := hb0.trans (hb2.mono hb0.size)
    clear hb2 x0 x1 x2 x3 cR
    have ho := HO.out
    have hv := HV.out
    have ht := HT.out
    have hat := HA.out
    obtain ⟨t, htt⟩ : ∃ t, t = p3 + v := ⟨_, rfl⟩
    have i1 : IntKind.i64.wrap (p3 + v) = t := by rw [IntKind.wrap_i64, htt]; omega
    have i2 : wrap64 (p3 + v) = t := by unfold wrap64; rw [htt]; omega
    have i3 : p3 + v = t := htt.symm
    have i4 : IntKind.i64.wrap t = t := by rw [IntKind.wrap_i64, htt]; omega
    have i5 : wrap64 t = t := by unfold wrap64; rw [htt]; omega
    try rw [i3] at ht
    have HTT := Lib.hid htt
    clear htt ho hv
    have dP2 : At (w3.setCell ⟨w.heap.size, 3, none⟩ (.int .i64 t)) w.heap.size #[.bool p0, .int .i64 p1, .int .i64 p2, .int .i64 t] 33 := At.set dP 3 _ (by simp)
    have hb2 : Below w.heap.size w (w3.setCell ⟨w.heap.size, 3, none⟩ (.int .i64 t)) := hb0.setCell (p := ⟨w.heap.size, 3, none⟩) (Nat.le_refl _) _
    have dS2 : At (w3.setCell ⟨w.heap.size, 3, none⟩ (.int .i64 t)) (w.heap.size + 1) #[.bool false, .int .i64 0, .int .i64 0, .int .i64 0] 33 := (Below.heap_setCell w3 ⟨w.heap.size, 3, none⟩ _ (w.heap.size + 1) (by simp)).trans dS
    have hd3 : MemDone (w3.setCell ⟨w.heap.size, 3, none⟩ (.int .i64 t)) rb (.slice q len cap) m := (Below.heap_setCell w3 ⟨w.heap.size, 3, none⟩ _ rb (by simp; omega)).trans hd2
    have x0 : w3.cell? ⟨w.heap.size, 0, none⟩ = some (.bool p0) := dP.cell 0 rfl
    have x1 : w3.cell? ⟨w.heap.size, 1, none⟩ = some (.int .i64 p1) := dP.cell 1 rfl
    have x2 : w3.cell? ⟨w.heap.size, 2, none⟩ = some (.int .i64 p2) := dP.cell 2 rfl
    have x3 : w3.cell? ⟨w.heap.size, 3, none⟩ = some (.int .i64 p3) := dP.cell 3 rfl
    have f3 := dP.free 3
    have y0 : (w3.setCell ⟨w.heap.size, 3, none⟩ (.int .i64 t)).cell? ⟨w.heap.size, 0, none⟩ = some (.bool p0) := dP2.cell 0 rfl
    have y1 : (w3.setCell ⟨w.heap.size, 3, none⟩ (.int .i64 t)).cell? ⟨w.heap.size, 1, none⟩ = some (.int .i64 p1) := dP2.cell 1 rfl
    have y2 : (w3.setCell ⟨w.heap.size, 3, none⟩ (.int .i64 t)).cell? ⟨w.heap.size, 2, none⟩ = some (.int .i64 p2) := dP2.cell 2 rfl
    have y3 : (w3.setCell ⟨w.heap.size, 3, none⟩ (.int .i64 t)).cell? ⟨w.heap.size, 3, none⟩ = some (.int .i64 t) := dP2.cell 3 rfl
    clear dP dS hd2 hb0
    obtain ⟨ht0, ht1⟩ := ht
    have t1 : decide (t < 0) = false := by simpa using ht0
    go_wp2_with fail
    generalize (w3.setCell ⟨w.heap.size, 3, none⟩ (.int .i64 t)) = w4 at *
    have hltB := hd3.lt
    have cB := fun wx (h : Below w4.heap.size w4 wx) => block_any rb q len cap m ⟨p0, p1, p2, t⟩ (show InM m ⟨p0, p1, p2, t⟩ from HI.out) wx ((HX.out.below hb2).below h) (hd3.below h hltB)
    simp only [scV_eq, hat t] at cB
    have hf1 := fun x y w => fld1 x y w
    generalize hX : atM m ⟨p0, p1, p2, p3⟩ = X at cB ht1
    obtain ⟨s, xq, xc, ys⟩ := X
    unfold bkV at cB
    dsimp only at cB ht1
    clear hX hat ht0
    generalize ys.length = Ly at *
    have t2 : (Ly : Int) < t := ht1
    clear ht1 x0 x1 x2 x3 f3
    have p0q := fun p : BelowBy w4 => p.cell y0
    have p1q := fun p : BelowBy w4 => p.cell y1
    have p2q := fun p : BelowBy w4 => p.cell y2
    have p3q := fun p : BelowBy w4 => p.cell y3
    have cBq := fun p : BelowBy w4 => cB p.world p.below
    refine wp_region_quiet_below (by kernel_rfl) (by kernel_rfl) ?_
    repeat (go_big_quiet_step ((go_at_call 57; (with_reducible exact Calls.below_of (cBq _)))))
    refine wpQuiet_nil ?_
    intro w5 hw'
    have hbB : Below w4.heap.size w4 w5 := by (obtain ⟨⟨_, h⟩, h2⟩ := hw'; rw [h2]; exact h)
    clear hw'
    have dP3 := At.below' hbB dP2
    replace dS2 := At.below' hbB dS2
    have hb0 := hb2.trans (hbB.mono hb2.size)
    clear hb2 hbB cB cBq p0q p1q p2q p3q y0 y1 y2 y3
    have y0 : w5.cell? ⟨w.heap.size, 0, none⟩ = some (.bool p0) := dP3.cell 0 rfl
    have y1 : w5.cell? ⟨w.heap.size, 1, none⟩ = some (.int .i64 p1) := dP3.cell 1 rfl
    have y2 : w5.cell? ⟨w.heap.size, 2, none⟩ = some (.int .i64 p2) := dP3.cell 2 rfl
    have y3 : w5.cell? ⟨w.heap.size, 3, none⟩ = some (.int .i64 t) := dP3.cell 3 rfl
    clear dP3 hd3 hltB
    have st := store4 dS2 (.bool false) (.int .i64 0) (.int .i64 0) (.int .i64 0)
    have E1 := store4_at dS2 (.bool false) (.int .i64 0) (.int .i64 0) (.int .i64 0)
    have E2 := store4_below hb0 (show w.heap.size ≤ w.heap.size + 1 by omega) (.bool false) (.int .i64 0) (.int .i64 0) (.int .i64 0)
    clear dS2 hb0
    go_wp2_with fail
    generalize ((((w5.setCell ⟨(w.heap.size + 1), 0, none⟩ (.bool false)).setCell ⟨(w.heap.size + 1), 1, none⟩ (.int .i64 0)).setCell ⟨(w.heap.size + 1), 2, none⟩ (.int .i64 0)).setCell ⟨(w.heap.size + 1), 3, none⟩ (.int .i64 0)) = wz at E1 E2 ⊢
    have g0 : wz.cell? ⟨w.heap.size + 1, 0, none⟩ = some (.bool false) := E1.cell 0 rfl
    have g1 : wz.cell? ⟨w.heap.size + 1, 1, none⟩ = some (.int .i64 0) := E1.cell 1 rfl
    have g2 : wz.cell? ⟨w.heap.size + 1, 2, none⟩ = some (.int .i64 0) := E1.cell 2 rfl
    have g3 : wz.cell? ⟨w.heap.size + 1, 3, none⟩ = some (.int .i64 0) := E1.cell 3 rfl
    exact bodyPost_ret (v := .tuple #[.agg #[.bool false, .int .i64 0, .int .i64 0, .int .i64 0], .int .i64 1, .int .i64 0]) (by simp [results, Try.results33, go_sem, g0, g1, g2, g3]) rfl ⟨rfl, E2⟩
set_option maxRecDepth 100000 in
set_option maxHeartbeats 3200000 in
theorem Move_ok (q : Option Addr) (len cap : Nat) (m : List BK) (p : SC) (n : Int) (hn : isN n 32) (hH : hasM m p = true) (hg : (((atM m p).st == 1) || (p.b == 0 && n == 0)) = true) (ht : ¬ p.o + viewI n 32 < 0 ∧ ¬ ((atM m p).ys.length : Int) < p.o + viewI n 32) (w : World) (hx : IsMem w q len m) :
    Calls Try.prog 33 #[.slice q len cap, scV p, .int .i64 n] w (LoadPost ⟨p.p, p.n, p.b, p.o + viewI n 32⟩ 0 0 w) := by
  have HI := Lib.hid (InM.of hH)
  have HO := Lib.hid (InM.off hH)
  have HMM := Lib.hid (show mayM m = true by unfold hasM at hH; simp only [Bool.and_eq_true] at hH; exact hH.1)
  have cV := fun w => View_yes n 32 (by unfold isW; decide) hn w
  have hv : -4294967296 ≤ viewI n 32 ∧ viewI n 32 ≤ 4294967296 := by simp only [isN, Int.reduceToNat, Int.reducePow] at hn; unfold viewI; simp only [Int.reduceToNat, Int.reducePow, Nat.reduceSub]; split <;> omega
  clear hn
  have hcs : (((atM m p).st == 1) = true ∧ (p.b == 0) = false) ∨ (((atM m p).st == 1) = true ∧ (p.b == 0) = true ∧ (n == 0) = false) ∨ (((atM m p).st == 1) = true ∧ (p.b == 0) = true ∧ (n == 0) = true) ∨ (((atM m p).st == 1) = false ∧ (p.b == 0) = true ∧ (n == 0) = true) := by
    revert hg; cases ((atM m p).st == 1) <;> cases (p.b == 0) <;> cases (n == 0) <;> simp
  clear hg
  generalize viewI n 32 = v at *
  have hatm : ∀ t, atM m ⟨p.p, p.n, p.b, t⟩ = atM m p := fun t => rfl
  have HT := Lib.hid ht
  have HA := Lib.hid hatm
  have HV := Lib.hid hv
  clear ht hv hatm
  obtain ⟨p0, p1, p2, p3⟩ := p
  rw [scV_eq] at *
  try dsimp only at *
  have dP := At.alloc (At.new w #[.bool p0, .int .i64 p1, .int .i64 p2, .int .i64 p3] 33) (.cells #[.bool false, .int .i64 0, .int .i64 0, .int .i64 0] 33)
  have dS := At.new2 w (.cells #[.bool p0, .int .i64 p1, .int .i64 p2, .int .i64 p3] 33) #[.bool false, .int .i64 0, .int .i64 0, .int .i64 0] 33
  have hb0 := below_box2 w (.cells #[.bool p0, .int .i64 p1, .int .i64 p2, .int .i64 p3] 33) (.cells #[.bool false, .int .i64 0, .int .i64 0, .int .i64 0] 33)
  have cT := fun w => take_any q len cap w
  have HX := Lib.hid hx
  clear hx
  go_enter Try.func33, Try.ntmps33
  go_wp2_with fail
  refine (cT _).mono ?_
  rintro e w1 ⟨rb, rfl, hge, hM, hb2⟩
  replace dP := At.below' hb2 dP
  replace dS := At.below' hb2 dS
  have hrb : w.heap.size + 1 < rb := by have := hge; simp at this; omega
  replace hb0 := hb0.trans (hb2.mono hb0.size)
  clear hb2 hge cT
  go_wp2_with fail
  refine (cV _).mono ?_
  rintro e w2 ⟨rfl, rfl⟩
  clear cV
  have hlt := At.lt hM
  have hcH := hasM_first rb q len cap m ⟨p0, p1, p2, p3⟩ w w1 HX.out hb0 (by omega) hM
  unfold HasMPost at hcH
  rw [hH] at hcH
  rw [scV_eq] at hcH
  have x0 : w1.cell? ⟨w.heap.size, 0, none⟩ = some (.bool p0) := dP.cell 0 rfl
  have x1 : w1.cell? ⟨w.heap.size, 1, none⟩ = some (.int .i64 p1) := dP.cell 1 rfl
  have x2 : w1.cell? ⟨w.heap.size, 2, none⟩ = some (.int .i64 p2) := dP.cell 2 rfl
  have x3 : w1.cell? ⟨w.heap.size, 3, none⟩ = some (.int .i64 p3) := dP.cell 3 rfl
  go_wp2_with fail
  refine hcH.mono ?_
  rintro e w2 ⟨rfl, hd, hO⟩
  replace dP := hO.at dP (by omega)
  replace dS := hO.at dS (by omega)
  replace hb0 := hb0.trans (hO.1.mono (by omega))
  clear hcH hO hM x0 x1 x2 x3
  have HD := Lib.hid hd
  clear hd
  rcases hcs with ⟨ha, hz⟩ | ⟨ha, hz, hn0⟩ | ⟨ha, hz, hn0⟩ | ⟨ha, hz, hn0⟩
  · have hd := HD.out
    have hd2 := hd (HMM.out)
    have hlt3 := hd2.lt
    clear hd hlt hH
    have cR := isAlive_any rb q len cap m ⟨p0, p1, p2, p3⟩ HI.out w2 (HX.out.below hb0) hd2
    rw [scV_eq] at cR
    have x0 : w2.cell? ⟨w.heap.size, 0, none⟩ = some (.bool p0) := dP.cell 0 rfl
    have x1 : w2.cell? ⟨w.heap.size, 1, none⟩ = some (.int .i64 p1) := dP.cell 1 rfl
    have x2 : w2.cell? ⟨w.heap.size, 2, none⟩ = some (.int .i64 p2) := dP.cell 2 rfl
    have x3 : w2.cell? ⟨w.heap.size, 3, none⟩ = some (.int .i64 p3) := dP.cell 3 rfl
    rw [ha] at cR
    clear ha
    go_wp2_with fail
    refine cR.mono ?_
    rintro e w3 ⟨rfl, hb2⟩
    replace dS := At.below' hb2 dS
    replace dP := At.below' hb2 dP
    replace hd2 : MemDone w3 rb (.slice q len cap) m := At.below' hb2 hd2
    replace hb0 := hb0.trans (hb2.mono hb0.size)
    clear hb2 x0 x1 x2 x3 cR
    have ho := HO.out
    have hv := HV.out
    have ht := HT.out
    have hat := HA.out
    obtain ⟨t, htt⟩ : ∃ t, t = p3 + v := ⟨_, rfl⟩
    have i1 : IntKind.i64.wrap (p3 + v) = t := by rw [IntKind.wrap_i64, htt]; omega
    have i2 : wrap64 (p3 + v) = t := by unfold wrap64; rw [htt]; omega
    have i3 : p3 + v = t := htt.symm
    have i4 : IntKind.i64.wrap t = t := by rw [IntKind.wrap_i64, htt]; omega
    have i5 : wrap64 t = t := by unfold wrap64; rw [htt]; omega
    try rw [i3] at ht
    have HTT := Lib.hid htt
    clear htt ho hv
    have dP2 : At (w3.setCell ⟨w.heap.size, 3, none⟩ (.int .i64 t)) w.heap.size #[.bool p0, .int .i64 p1, .int .i64 p2, .int .i64 t] 33 := At.set dP 3 _ (by simp)
    have hb2 : Below w.heap.size w (w3.setCell ⟨w.heap.size, 3, none⟩ (.int .i64 t)) := hb0.setCell (p := ⟨w.heap.size, 3, none⟩) (Nat.le_refl _) _
    have dS2 : At (w3.setCell ⟨w.heap.size, 3, none⟩ (.int .i64 t)) (w.heap.size + 1) #[.bool false, .int .i64 0, .int .i64 0, .int .i64 0] 33 := (Below.heap_setCell w3 ⟨w.heap.size, 3, none⟩ _ (w.heap.size + 1) (by simp)).trans dS
    have hd3 : MemDone (w3.setCell ⟨w.heap.size, 3, none⟩ (.int .i64 t)) rb (.slice q len cap) m := (Below.heap_setCell w3 ⟨w.heap.size, 3, none⟩ _ rb (by simp; omega)).trans hd2
    have x0 : w3.cell? ⟨w.heap.size, 0, none⟩ = some (.bool p0) := dP.cell 0 rfl
    have x1 : w3.cell? ⟨w.heap.size, 1, none⟩ = some (.int .i64 p1) := dP.cell 1 rfl
    have x2 : w3.cell? ⟨w.heap.size, 2, none⟩ = some (.int .i64 p2) := dP.cell 2 rfl
    have x3 : w3.cell? ⟨w.heap.size, 3, none⟩ = some (.int .i64 p3) := dP.cell 3 rfl
    have f3 := dP.free 3
    have y0 : (w3.setCell ⟨w.heap.size, 3, none⟩ (.int .i64 t)).cell? ⟨w.heap.size, 0, none⟩ = some (.bool p0) := dP2.cell 0 rfl
    have y1 : (w3.setCell ⟨w.heap.size, 3, none⟩ (.int .i64 t)).cell? ⟨w.heap.size, 1, none⟩ = some (.int .i64 p1) := dP2.cell 1 rfl
    have y2 : (w3.setCell ⟨w.heap.size, 3, none⟩ (.int .i64 t)).cell? ⟨w.heap.size, 2, none⟩ = some (.int .i64 p2) := dP2.cell 2 rfl
    have y3 : (w3.setCell ⟨w.heap.size, 3, none⟩ (.int .i64 t)).cell? ⟨w.heap.size, 3, none⟩ = some (.int .i64 t) := dP2.cell 3 rfl
    clear dP dS hd2 hb0
    obtain ⟨ht0, ht1⟩ := ht
    have t1 : decide (t < 0) = false := by simpa using ht0
    go_wp2_with fail
    generalize (w3.setCell ⟨w.heap.size, 3, none⟩ (.int .i64 t)) = w4 at *
    have hltB := hd3.lt
    have cB := fun wx (h : Below w4.heap.size w4 wx) => block_any rb q len cap m ⟨p0, p1, p2, t⟩ (show InM m ⟨p0, p1, p2, t⟩ from HI.out) wx ((HX.out.below hb2).below h) (hd3.below h hltB)
    simp only [scV_eq, hat t] at cB
    have hf1 := fun x y w => fld1 x y w
    generalize hX : atM m ⟨p0, p1, p2, p3⟩ = X at cB ht1
    obtain ⟨s, xq, xc, ys⟩ := X
    unfold bkV at cB
    dsimp only at cB ht1
    clear hX hat ht0
    generalize ys.length = Ly at *
    have t2 : decide ((Ly : Int) < t) = false := by simpa using ht1
    clear ht1 x0 x1 x2 x3 f3
    have p0q := fun p : BelowBy w4 => p.cell y0
    have p1q := fun p : BelowBy w4 => p.cell y1
    have p2q := fun p : BelowBy w4 => p.cell y2
    have p3q := fun p : BelowBy w4 => p.cell y3
    have cBq := fun p : BelowBy w4 => cB p.world p.below
    refine wp_region_quiet_below (by kernel_rfl) (by kernel_rfl) ?_
    repeat (go_big_quiet_step ((go_at_call 57; (with_reducible exact Calls.below_of (cBq _)))))
    refine wpQuiet_nil ?_
    intro w5 hw'
    have hbB : Below w4.heap.size w4 w5 := by (obtain ⟨⟨_, h⟩, h2⟩ := hw'; rw [h2]; exact h)
    clear hw'
    have dP3 := At.below' hbB dP2
    replace dS2 := At.below' hbB dS2
    have hb0 := hb2.trans (hbB.mono hb2.size)
    clear hb2 hbB cB cBq p0q p1q p2q p3q y0 y1 y2 y3
    have y0 : w5.cell? ⟨w.heap.size, 0, none⟩ = some (.bool p0) := dP3.cell 0 rfl
    have y1 : w5.cell? ⟨w.heap.size, 1, none⟩ = some (.int .i64 p1) := dP3.cell 1 rfl
    have y2 : w5.cell? ⟨w.heap.size, 2, none⟩ = some (.int .i64 p2) := dP3.cell 2 rfl
    have y3 : w5.cell? ⟨w.heap.size, 3, none⟩ = some (.int .i64 t) := dP3.cell 3 rfl
    clear dP3 hd3 hltB
    have st := store4 dS2 (.bool p0) (.int .i64 p1) (.int .i64 p2) (.int .i64 t)
    have E1 := store4_at dS2 (.bool p0) (.int .i64 p1) (.int .i64 p2) (.int .i64 t)
    have E2 := store4_below hb0 (show w.heap.size ≤ w.heap.size + 1 by omega) (.bool p0) (.int .i64 p1) (.int .i64 p2) (.int .i64 t)
    clear dS2 hb0
    go_wp2_with fail
    generalize ((((w5.setCell ⟨(w.heap.size + 1), 0, none⟩ (.bool p0)).setCell ⟨(w.heap.size + 1), 1, none⟩ (.int .i64 p1)).setCell ⟨(w.heap.size + 1), 2, none⟩ (.int .i64 p2)).setCell ⟨(w.heap.size + 1), 3, none⟩ (.int .i64 t)) = wz at E1 E2 ⊢
    have g0 : wz.cell? ⟨w.heap.size + 1, 0, none⟩ = some (.bool p0) := E1.cell 0 rfl
    have g1 : wz.cell? ⟨w.heap.size + 1, 1, none⟩ = some (.int .i64 p1) := E1.cell 1 rfl
    have g2 : wz.cell? ⟨w.heap.size + 1, 2, none⟩ = some (.int .i64 p2) := E1.cell 2 rfl
    have g3 : wz.cell? ⟨w.heap.size + 1, 3, none⟩ = some (.int .i64 t) := E1.cell 3 rfl
    exact bodyPost_ret (v := .tuple #[.agg #[.bool p0, .int .i64 p1, .int .i64 p2, .int .i64 t], .int .i64 0, .int .i64 0]) (by simp [results, Try.results33, go_sem, g0, g1, g2, g3]) rfl ⟨by rw [HTT.out]; rfl, E2⟩
  · have hd := HD.out
    have hd2 := hd (HMM.out)
    have hlt3 := hd2.lt
    clear hd hlt hH
    have cR := isAlive_any rb q len cap m ⟨p0, p1, p2, p3⟩ HI.out w2 (HX.out.below hb0) hd2
    rw [scV_eq] at cR
    have x0 : w2.cell? ⟨w.heap.size, 0, none⟩ = some (.bool p0) := dP.cell 0 rfl
    have x1 : w2.cell? ⟨w.heap.size, 1, none⟩ = some (.int .i64 p1) := dP.cell 1 rfl
    have x2 : w2.cell? ⟨w.heap.size, 2, none⟩ = some (.int .i64 p2) := dP.cell 2 rfl
    have x3 : w2.cell? ⟨w.heap.size, 3, none⟩ = some (.int .i64 p3) := dP.cell 3 rfl
    rw [ha] at cR
    clear ha
    go_wp2_with fail
    refine cR.mono ?_
    rintro e w3 ⟨rfl, hb2⟩
    replace dS := At.below' hb2 dS
    replace dP := At.below' hb2 dP
    replace hd2 : MemDone w3 rb (.slice q len cap) m := At.below' hb2 hd2
    replace hb0 := hb0.trans (hb2.mono hb0.size)
    clear hb2 x0 x1 x2 x3 cR
    have ho := HO.out
    have hv := HV.out
    have ht := HT.out
    have hat := HA.out
    obtain ⟨t, htt⟩ : ∃ t, t = p3 + v := ⟨_, rfl⟩
    have i1 : IntKind.i64.wrap (p3 + v) = t := by rw [IntKind.wrap_i64, htt]; omega
    have i2 : wrap64 (p3 + v) = t := by unfold wrap64; rw [htt]; omega
    have i3 : p3 + v = t := htt.symm
    have i4 : IntKind.i64.wrap t = t := by rw [IntKind.wrap_i64, htt]; omega
    have i5 : wrap64 t = t := by unfold wrap64; rw [htt]; omega
    try rw [i3] at ht
    have HTT := Lib.hid htt
    clear htt ho hv
    have dP2 : At (w3.setCell ⟨w.heap.size, 3, none⟩ (.int .i64 t)) w.heap.size #[.bool p0, .int .i64 p1, .int .i64 p2, .int .i64 t] 33 := At.set dP 3 _ (by simp)
    have hb2 : Below w.heap.size w (w3.setCell ⟨w.heap.size, 3, none⟩ (.int .i64 t)) := hb0.setCell (p := ⟨w.heap.size, 3, none⟩) (Nat.le_refl _) _
    have dS2 : At (w3.setCell ⟨w.heap.size, 3, none⟩ (.int .i64 t)) (w.heap.size + 1) #[.bool false, .int .i64 0, .int .i64 0, .int .i64 0] 33 := (Below.heap_setCell w3 ⟨w.heap.size, 3, none⟩ _ (w.heap.size + 1) (by simp)).trans dS
    have hd3 : MemDone (w3.setCell ⟨w.heap.size, 3, none⟩ (.int .i64 t)) rb (.slice q len cap) m := (Below.heap_setCell w3 ⟨w.heap.size, 3, none⟩ _ rb (by simp; omega)).trans hd2
    have x0 : w3.cell? ⟨w.heap.size, 0, none⟩ = some (.bool p0) := dP.cell 0 rfl
    have x1 : w3.cell? ⟨w.heap.size, 1, none⟩ = some (.int .i64 p1) := dP.cell 1 rfl
    have x2 : w3.cell? ⟨w.heap.size, 2, none⟩ = some (.int .i64 p2) := dP.cell 2 rfl
    have x3 : w3.cell? ⟨w.heap.size, 3, none⟩ = some (.int .i64 p3) := dP.cell 3 rfl
    have f3 := dP.free 3
    have y0 : (w3.setCell ⟨w.heap.size, 3, none⟩ (.int .i64 t)).cell? ⟨w.heap.size, 0, none⟩ = some (.bool p0) := dP2.cell 0 rfl
    have y1 : (w3.setCell ⟨w.heap.size, 3, none⟩ (.int .i64 t)).cell? ⟨w.heap.size, 1, none⟩ = some (.int .i64 p1) := dP2.cell 1 rfl
    have y2 : (w3.setCell ⟨w.heap.size, 3, none⟩ (.int .i64 t)).cell? ⟨w.heap.size, 2, none⟩ = some (.int .i64 p2) := dP2.cell 2 rfl
    have y3 : (w3.setCell ⟨w.heap.size, 3, none⟩ (.int .i64 t)).cell? ⟨w.heap.size, 3, none⟩ = some (.int .i64 t) := dP2.cell 3 rfl
    clear dP dS hd2 hb0
    obtain ⟨ht0, ht1⟩ := ht
    have t1 : decide (t < 0) = false := by simpa using ht0
    go_wp2_with fail
    generalize (w3.setCell ⟨w.heap.size, 3, none⟩ (.int .i64 t)) = w4 at *
    have hltB := hd3.lt
    have cB := fun wx (h : Below w4.heap.size w4 wx) => block_any rb q len cap m ⟨p0, p1, p2, t⟩ (show InM m ⟨p0, p1, p2, t⟩ from HI.out) wx ((HX.out.below hb2).below h) (hd3.below h hltB)
    simp only [scV_eq, hat t] at cB
    have hf1 := fun x y w => fld1 x y w
    generalize hX : atM m ⟨p0, p1, p2, p3⟩ = X at cB ht1
    obtain ⟨s, xq, xc, ys⟩ := X
    unfold bkV at cB
    dsimp only at cB ht1
    clear hX hat ht0
    generalize ys.length = Ly at *
    have t2 : decide ((Ly : Int) < t) = false := by simpa using ht1
    clear ht1 x0 x1 x2 x3 f3
    have p0q := fun p : BelowBy w4 => p.cell y0
    have p1q := fun p : BelowBy w4 => p.cell y1
    have p2q := fun p : BelowBy w4 => p.cell y2
    have p3q := fun p : BelowBy w4 => p.cell y3
    have cBq := fun p : BelowBy w4 => cB p.world p.below
    refine wp_region_quiet_below (by kernel_rfl) (by kernel_rfl) ?_
    repeat (go_big_quiet_step ((go_at_call 57; (with_reducible exact Calls.below_of (cBq _)))))
    refine wpQuiet_nil ?_
    intro w5 hw'
    have hbB : Below w4.heap.size w4 w5 := by (obtain ⟨⟨_, h⟩, h2⟩ := hw'; rw [h2]; exact h)
    clear hw'
    have dP3 := At.below' hbB dP2
    replace dS2 := At.below' hbB dS2
    have hb0 := hb2.trans (hbB.mono hb2.size)
    clear hb2 hbB cB cBq p0q p1q p2q p3q y0 y1 y2 y3
    have y0 : w5.cell? ⟨w.heap.size, 0, none⟩ = some (.bool p0) := dP3.cell 0 rfl
    have y1 : w5.cell? ⟨w.heap.size, 1, none⟩ = some (.int .i64 p1) := dP3.cell 1 rfl
    have y2 : w5.cell? ⟨w.heap.size, 2, none⟩ = some (.int .i64 p2) := dP3.cell 2 rfl
    have y3 : w5.cell? ⟨w.heap.size, 3, none⟩ = some (.int .i64 t) := dP3.cell 3 rfl
    clear dP3 hd3 hltB
    have st := store4 dS2 (.bool p0) (.int .i64 p1) (.int .i64 p2) (.int .i64 t)
    have E1 := store4_at dS2 (.bool p0) (.int .i64 p1) (.int .i64 p2) (.int .i64 t)
    have E2 := store4_below hb0 (show w.heap.size ≤ w.heap.size + 1 by omega) (.bool p0) (.int .i64 p1) (.int .i64 p2) (.int .i64 t)
    clear dS2 hb0
    go_wp2_with fail
    generalize ((((w5.setCell ⟨(w.heap.size + 1), 0, none⟩ (.bool p0)).setCell ⟨(w.heap.size + 1), 1, none⟩ (.int .i64 p1)).setCell ⟨(w.heap.size + 1), 2, none⟩ (.int .i64 p2)).setCell ⟨(w.heap.size + 1), 3, none⟩ (.int .i64 t)) = wz at E1 E2 ⊢
    have g0 : wz.cell? ⟨w.heap.size + 1, 0, none⟩ = some (.bool p0) := E1.cell 0 rfl
    have g1 : wz.cell? ⟨w.heap.size + 1, 1, none⟩ = some (.int .i64 p1) := E1.cell 1 rfl
    have g2 : wz.cell? ⟨w.heap.size + 1, 2, none⟩ = some (.int .i64 p2) := E1.cell 2 rfl
    have g3 : wz.cell? ⟨w.heap.size + 1, 3, none⟩ = some (.int .i64 t) := E1.cell 3 rfl
    exact bodyPost_ret (v := .tuple #[.agg #[.bool p0, .int .i64 p1, .int .i64 p2, .int .i64 t], .int .i64 0, .int .i64 0]) (by simp [results, Try.results33, go_sem, g0, g1, g2, g3]) rfl ⟨by rw [HTT.out]; rfl, E2⟩
  · have hd := HD.out
    have hd2 := hd (HMM.out)
    have hlt3 := hd2.lt
    clear hd hlt hH
    have cR := isAlive_any rb q len cap m ⟨p0, p1, p2, p3⟩ HI.out w2 (HX.out.below hb0) hd2
    rw [scV_eq] at cR
    have x0 : w2.cell? ⟨w.heap.size, 0, none⟩ = some (.bool p0) := dP.cell 0 rfl
    have x1 : w2.cell? ⟨w.heap.size, 1, none⟩ = some (.int .i64 p1) := dP.cell 1 rfl
    have x2 : w2.cell? ⟨w.heap.size, 2, none⟩ = some (.int .i64 p2) := dP.cell 2 rfl
    have x3 : w2.cell? ⟨w.heap.size, 3, none⟩ = some (.int .i64 p3) := dP.cell 3 rfl
    rw [ha] at cR
    clear ha
    go_wp2_with fail
    refine cR.mono ?_
    rintro e w3 ⟨rfl, hb2⟩
    replace dS := At.below' hb2 dS
    replace dP := At.below' hb2 dP
    replace hd2 : MemDone w3 rb (.slice q len cap) m := At.below' hb2 hd2
    replace hb0 := hb0.trans (hb2.mono hb0.size)
    clear hb2 x0 x1 x2 x3 cR
    have ho := HO.out
    have hv := HV.out
    have ht := HT.out
    have hat := HA.out
    obtain ⟨t, htt⟩ : ∃ t, t = p3 + v := ⟨_, rfl⟩
    have i1 : IntKind.i64.wrap (p3 + v) = t := by rw [IntKind.wrap_i64, htt]; omega
    have i2 : wrap64 (p3 + v) = t := by unfold wrap64; rw [htt]; omega
    have i3 : p3 + v = t := htt.symm
    have i4 : IntKind.i64.wrap t = t := by rw [IntKind.wrap_i64, htt]; omega
    have i5 : wrap64 t = t := by unfold wrap64; rw [htt]; omega
    try rw [i3] at ht
    have HTT := Lib.hid htt
    clear htt ho hv
    have dP2 : At (w3.setCell ⟨w.heap.size, 3, none⟩ (.int .i64 t)) w.heap.size #[.bool p0, .int .i64 p1, .int .i64 p2, .int .i64 t] 33 := At.set dP 3 _ (by simp)
    have hb2 : Below w.heap.size w (w3.setCell ⟨w.heap.size, 3, none⟩ (.int .i64 t)) := hb0.setCell (p := ⟨w.heap.size, 3, none⟩) (Nat.le_refl _) _
    have dS2 : At (w3.setCell ⟨w.heap.size, 3, none⟩ (.int .i64 t)) (w.heap.size + 1) #[.bool false, .int .i64 0, .int .i64 0, .int .i64 0] 33 := (Below.heap_setCell w3 ⟨w.heap.size, 3, none⟩ _ (w.heap.size + 1) (by simp)).trans dS
    have hd3 : MemDone (w3.setCell ⟨w.heap.size, 3, none⟩ (.int .i64 t)) rb (.slice q len cap) m := (Below.heap_setCell w3 ⟨w.heap.size, 3, none⟩ _ rb (by simp; omega)).trans hd2
    have x0 : w3.cell? ⟨w.heap.size, 0, none⟩ = some (.bool p0) := dP.cell 0 rfl
    have x1 : w3.cell? ⟨w.heap.size, 1, none⟩ = some (.int .i64 p1) := dP.cell 1 rfl
    have x2 : w3.cell? ⟨w.heap.size, 2, none⟩ = some (.int .i64 p2) := dP.cell 2 rfl
    have x3 : w3.cell? ⟨w.heap.size, 3, none⟩ = some (.int .i64 p3) := dP.cell 3 rfl
    have f3 := dP.free 3
    have y0 : (w3.setCell ⟨w.heap.size, 3, none⟩ (.int .i64 t)).cell? ⟨w.heap.size, 0, none⟩ = some (.bool p0) := dP2.cell 0 rfl
    have y1 : (w3.setCell ⟨w.heap.size, 3, none⟩ (.int .i64 t)).cell? ⟨w.heap.size, 1, none⟩ = some (.int .i64 p1) := dP2.cell 1 rfl
    have y2 : (w3.setCell ⟨w.heap.size, 3, none⟩ (.int .i64 t)).cell? ⟨w.heap.size, 2, none⟩ = some (.int .i64 p2) := dP2.cell 2 rfl
    have y3 : (w3.setCell ⟨w.heap.size, 3, none⟩ (.int .i64 t)).cell? ⟨w.heap.size, 3, none⟩ = some (.int .i64 t) := dP2.cell 3 rfl
    clear dP dS hd2 hb0
    obtain ⟨ht0, ht1⟩ := ht
    have t1 : decide (t < 0) = false := by simpa using ht0
    go_wp2_with fail
    generalize (w3.setCell ⟨w.heap.size, 3, none⟩ (.int .i64 t)) = w4 at *
    have hltB := hd3.lt
    have cB := fun wx (h : Below w4.heap.size w4 wx) => block_any rb q len cap m ⟨p0, p1, p2, t⟩ (show InM m ⟨p0, p1, p2, t⟩ from HI.out) wx ((HX.out.below hb2).below h) (hd3.below h hltB)
    simp only [scV_eq, hat t] at cB
    have hf1 := fun x y w => fld1 x y w
    generalize hX : atM m ⟨p0, p1, p2, p3⟩ = X at cB ht1
    obtain ⟨s, xq, xc, ys⟩ := X
    unfold bkV at cB
    dsimp only at cB ht1
    clear hX hat ht0
    generalize ys.length = Ly at *
    have t2 : decide ((Ly : Int) < t) = false := by simpa using ht1
    clear ht1 x0 x1 x2 x3 f3
    have p0q := fun p : BelowBy w4 => p.cell y0
    have p1q := fun p : BelowBy w4 => p.cell y1
    have p2q := fun p : BelowBy w4 => p.cell y2
    have p3q := fun p : BelowBy w4 => p.cell y3
    have cBq := fun p : BelowBy w4 => cB p.world p.below
    refine wp_region_quiet_below (by kernel_rfl) (by kernel_rfl) ?_
    repeat (go_big_quiet_step ((go_at_call 57; (with_reducible exact Calls.below_of (cBq _)))))
    refine wpQuiet_nil ?_
    intro w5 hw'
    have hbB : Below w4.heap.size w4 w5 := by (obtain ⟨⟨_, h⟩, h2⟩ := hw'; rw [h2]; exact h)
    clear hw'
    have dP3 := At.below' hbB dP2
    replace dS2 := At.below' hbB dS2
    have hb0 := hb2.trans (hbB.mono hb2.size)
    clear hb2 hbB cB cBq p0q p1q p2q p3q y0 y1 y2 y3
    have y0 : w5.cell? ⟨w.heap.size, 0, none⟩ = some (.bool p0) := dP3.cell 0 rfl
    have y1 : w5.cell? ⟨w.heap.size, 1, none⟩ = some (.int .i64 p1) := dP3.cell 1 rfl
    have y2 : w5.cell? ⟨w.heap.size, 2, none⟩ = some (.int .i64 p2) := dP3.cell 2 rfl
    have y3 : w5.cell? ⟨w.heap.size, 3, none⟩ = some (.int .i64 t) := dP3.cell 3 rfl
    clear dP3 hd3 hltB
    have st := store4 dS2 (.bool p0) (.int .i64 p1) (.int .i64 p2) (.int .i64 t)
    have E1 := store4_at dS2 (.bool p0) (.int .i64 p1) (.int .i64 p2) (.int .i64 t)
    have E2 := store4_below hb0 (show w.heap.size ≤ w.heap.size + 1 by omega) (.bool p0) (.int .i64 p1) (.int .i64 p2) (.int .i64 t)
    clear dS2 hb0
    go_wp2_with fail
    generalize ((((w5.setCell ⟨(w.heap.size + 1), 0, none⟩ (.bool p0)).setCell ⟨(w.heap.size + 1), 1, none⟩ (.int .i64 p1)).setCell ⟨(w.heap.size + 1), 2, none⟩ (.int .i64 p2)).setCell ⟨(w.heap.size + 1), 3, none⟩ (.int .i64 t)) = wz at E1 E2 ⊢
    have g0 : wz.cell? ⟨w.heap.size + 1, 0, none⟩ = some (.bool p0) := E1.cell 0 rfl
    have g1 : wz.cell? ⟨w.heap.size + 1, 1, none⟩ = some (.int .i64 p1) := E1.cell 1 rfl
    have g2 : wz.cell? ⟨w.heap.size + 1, 2, none⟩ = some (.int .i64 p2) := E1.cell 2 rfl
    have g3 : wz.cell? ⟨w.heap.size + 1, 3, none⟩ = some (.int .i64 t) := E1.cell 3 rfl
    exact bodyPost_ret (v := .tuple #[.agg #[.bool p0, .int .i64 p1, .int .i64 p2, .int .i64 t], .int .i64 0, .int .i64 0]) (by simp [results, Try.results33, go_sem, g0, g1, g2, g3]) rfl ⟨by rw [HTT.out]; rfl, E2⟩
  · have hd := HD.out
    have hd2 := hd (HMM.out)
    have hlt3 := hd2.lt
    clear hd hlt hH
    have cR := isAlive_any rb q len cap m ⟨p0, p1, p2, p3⟩ HI.out w2 (HX.out.below hb0) hd2
    rw [scV_eq] at cR
    have x0 : w2.cell? ⟨w.heap.size, 0, none⟩ = some (.bool p0) := dP.cell 0 rfl
    have x1 : w2.cell? ⟨w.heap.size, 1, none⟩ = some (.int .i64 p1) := dP.cell 1 rfl
    have x2 : w2.cell? ⟨w.heap.size, 2, none⟩ = some (.int .i64 p2) := dP.cell 2 rfl
    have x3 : w2.cell? ⟨w.heap.size, 3, none⟩ = some (.int .i64 p3) := dP.cell 3 rfl
    rw [ha] at cR
    clear ha
    go_wp2_with fail
    refine cR.mono ?_
    rintro e w3 ⟨rfl, hb2⟩
    replace dS := At.below' hb2 dS
    replace dP := At.below' hb2 dP
    replace hd2 : MemDone w3 rb (.slice q len cap) m := At.below' hb2 hd2
    replace hb0 := hb0.trans (hb2.mono hb0.size)
    clear hb2 x0 x1 x2 x3 cR
    have ho := HO.out
    have hv := HV.out
    have ht := HT.out
    have hat := HA.out
    obtain ⟨t, htt⟩ : ∃ t, t = p3 + v := ⟨_, rfl⟩
    have i1 : IntKind.i64.wrap (p3 + v) = t := by rw [IntKind.wrap_i64, htt]; omega
    have i2 : wrap64 (p3 + v) = t := by unfold wrap64; rw [htt]; omega
    have i3 : p3 + v = t := htt.symm
    have i4 : IntKind.i64.wrap t = t := by rw [IntKind.wrap_i64, htt]; omega
    have i5 : wrap64 t = t := by unfold wrap64; rw [htt]; omega
    try rw [i3] at ht
    have HTT := Lib.hid htt
    clear htt ho hv
    have dP2 : At (w3.setCell ⟨w.heap.size, 3, none⟩ (.int .i64 t)) w.heap.size #[.bool p0, .int .i64 p1, .int .i64 p2, .int .i64 t] 33 := At.set dP 3 _ (by simp)
    have hb2 : Below w.heap.size w (w3.setCell ⟨w.heap.size, 3, none⟩ (.int .i64 t)) := hb0.setCell (p := ⟨w.heap.size, 3, none⟩) (Nat.le_refl _) _
    have dS2 : At (w3.setCell ⟨w.heap.size, 3, none⟩ (.int .i64 t)) (w.heap.size + 1) #[.bool false, .int .i64 0, .int .i64 0, .int .i64 0] 33 := (Below.heap_setCell w3 ⟨w.heap.size, 3, none⟩ _ (w.heap.size + 1) (by simp)).trans dS
    have hd3 : MemDone (w3.setCell ⟨w.heap.size, 3, none⟩ (.int .i64 t)) rb (.slice q len cap) m := (Below.heap_setCell w3 ⟨w.heap.size, 3, none⟩ _ rb (by simp; omega)).trans hd2
    have x0 : w3.cell? ⟨w.heap.size, 0, none⟩ = some (.bool p0) := dP.cell 0 rfl
    have x1 : w3.cell? ⟨w.heap.size, 1, none⟩ = some (.int .i64 p1) := dP.cell 1 rfl
    have x2 : w3.cell? ⟨w.heap.size, 2, none⟩ = some (.int .i64 p2) := dP.cell 2 rfl
    have x3 : w3.cell? ⟨w.heap.size, 3, none⟩ = some (.int .i64 p3) := dP.cell 3 rfl
    have f3 := dP.free 3
    have y0 : (w3.setCell ⟨w.heap.size, 3, none⟩ (.int .i64 t)).cell? ⟨w.heap.size, 0, none⟩ = some (.bool p0) := dP2.cell 0 rfl
    have y1 : (w3.setCell ⟨w.heap.size, 3, none⟩ (.int .i64 t)).cell? ⟨w.heap.size, 1, none⟩ = some (.int .i64 p1) := dP2.cell 1 rfl
    have y2 : (w3.setCell ⟨w.heap.size, 3, none⟩ (.int .i64 t)).cell? ⟨w.heap.size, 2, none⟩ = some (.int .i64 p2) := dP2.cell 2 rfl
    have y3 : (w3.setCell ⟨w.heap.size, 3, none⟩ (.int .i64 t)).cell? ⟨w.heap.size, 3, none⟩ = some (.int .i64 t) := dP2.cell 3 rfl
    clear dP dS hd2 hb0
    obtain ⟨ht0, ht1⟩ := ht
    have t1 : decide (t < 0) = false := by simpa using ht0
    go_wp2_with fail
    generalize (w3.setCell ⟨w.heap.size, 3, none⟩ (.int .i64 t)) = w4 at *
    have hltB := hd3.lt
    have cB := fun wx (h : Below w4.heap.size w4 wx) => block_any rb q len cap m ⟨p0, p1, p2, t⟩ (show InM m ⟨p0, p1, p2, t⟩ from HI.out) wx ((HX.out.below hb2).below h) (hd3.below h hltB)
    simp only [scV_eq, hat t] at cB
    have hf1 := fun x y w => fld1 x y w
    generalize hX : atM m ⟨p0, p1, p2, p3⟩ = X at cB ht1
    obtain ⟨s, xq, xc, ys⟩ := X
    unfold bkV at cB
    dsimp only at cB ht1
    clear hX hat ht0
    generalize ys.length = Ly at *
    have t2 : decide ((Ly : Int) < t) = false := by simpa using ht1
    clear ht1 x0 x1 x2 x3 f3
    have p0q := fun p : BelowBy w4 => p.cell y0
    have p1q := fun p : BelowBy w4 => p.cell y1
    have p2q := fun p : BelowBy w4 => p.cell y2
    have p3q := fun p : BelowBy w4 => p.cell y3
    have cBq := fun p : BelowBy w4 => cB p.world p.below
    refine wp_region_quiet_below (by kernel_rfl) (by kernel_rfl) ?_
    repeat (go_big_quiet_step ((go_at_call 57; (with_reducible exact Calls.below_of (cBq _)))))
    refine wpQuiet_nil ?_
    intro w5 hw'
    have hbB : Below w4.heap.size w4 w5 := by (obtain ⟨⟨_, h⟩, h2⟩ := hw'; rw [h2]; exact h)
    clear hw'
    have dP3 := At.below' hbB dP2
    replace dS2 := At.below' hbB dS2
    have hb0 := hb2.trans (hbB.mono hb2.size)
    clear hb2 hbB cB cBq p0q p1q p2q p3q y0 y1 y2 y3
    have y0 : w5.cell? ⟨w.heap.size, 0, none⟩ = some (.bool p0) := dP3.cell 0 rfl
    have y1 : w5.cell? ⟨w.heap.size, 1, none⟩ = some (.int .i64 p1) := dP3.cell 1 rfl
    have y2 : w5.cell? ⟨w.heap.size, 2, none⟩ = some (.int .i64 p2) := dP3.cell 2 rfl
    have y3 : w5.cell? ⟨w.heap.size, 3, none⟩ = some (.int .i64 t) := dP3.cell 3 rfl
    clear dP3 hd3 hltB
    have st := store4 dS2 (.bool p0) (.int .i64 p1) (.int .i64 p2) (.int .i64 t)
    have E1 := store4_at dS2 (.bool p0) (.int .i64 p1) (.int .i64 p2) (.int .i64 t)
    have E2 := store4_below hb0 (show w.heap.size ≤ w.heap.size + 1 by omega) (.bool p0) (.int .i64 p1) (.int .i64 p2) (.int .i64 t)
    clear dS2 hb0
    go_wp2_with fail
    generalize ((((w5.setCell ⟨(w.heap.size + 1), 0, none⟩ (.bool p0)).setCell ⟨(w.heap.size + 1), 1, none⟩ (.int .i64 p1)).setCell ⟨(w.heap.size + 1), 2, none⟩ (.int .i64 p2)).setCell ⟨(w.heap.size + 1), 3, none⟩ (.int .i64 t)) = wz at E1 E2 ⊢
    have g0 : wz.cell? ⟨w.heap.size + 1, 0, none⟩ = some (.bool p0) := E1.cell 0 rfl
    have g1 : wz.cell? ⟨w.heap.size + 1, 1, none⟩ = some (.int .i64 p1) := E1.cell 1 rfl
    have g2 : wz.cell? ⟨w.heap.size + 1, 2, none⟩ = some (.int .i64 p2) := E1.cell 2 rfl
    have g3 : wz.cell? ⟨w.heap.size + 1, 3, none⟩ = some (.int .i64 t) := E1.cell 3 rfl
    exact bodyPost_ret (v := .tuple #[.agg #[.bool p0, .int .i64 p1, .int .i64 p2, .int .i64 t], .int .i64 0, .int .i64 0]) (by simp [results, Try.results33, go_sem, g0, g1, g2, g3]) rfl ⟨by rw [HTT.out]; rfl, E2⟩
end Go.Proofs.Ytcppmibeiilgbaa
