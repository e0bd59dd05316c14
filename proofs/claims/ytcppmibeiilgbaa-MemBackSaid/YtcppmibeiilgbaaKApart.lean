/- Package mem: Same, and the document's Same and Apart. -/
import Derived.Test.YtcppmibeiilgbaaKHas
import Derived.Test.YtcppmibeiilgbaaBEq
namespace Go.Proofs.Ytcppmibeiilgbaa
open Go.ChangeShapes Go.WideShapes Go.ChangeAt Go.RowKit Go.Joins Go.Deep
set_option linter.unusedVariables false

/-- whether two pointers are one; what goes wrong -/
def sameV (p q : SC) : Int := if mayS 7 p && mayS 7 q && eqS p q then 1 else 0
def sameE (p q : SC) : Int := if mayS 7 p && mayS 7 q then 0 else 1
end Go.Proofs.Ytcppmibeiilgbaa

/- Package mem: Apart. -/
namespace Go.Proofs.Ytcppmibeiilgbaa
open Go.ChangeShapes Go.WideShapes Go.ChangeAt Go.RowKit Go.Joins Go.Deep
set_option linter.unusedVariables false

def ApPost (n bad ev : Int) (w : World) (e : Ending) (w' : World) : Prop := e = .returned (.tuple #[.int .i64 n, .int .i64 bad, .int .i64 ev]) ∧ Below w.heap.size w w'
set_option maxRecDepth 100000 in
set_option maxHeartbeats 3200000 in
theorem Apart_no1 (q : Option Addr) (len cap : Nat) (m : List BK) (p s : SC) (hP : hasM m p = false) (w : World) (hx : IsMem w q len m) :
    Calls Try.prog 34 #[.slice q len cap, scV p, scV s] w (ApPost 0 0 1 w) := by
  obtain ⟨p0, p1, p2, p3⟩ := p
  obtain ⟨q0, q1, q2, q3⟩ := s
  rw [scV_eq] at *
  rw [scV_eq] at *
  try dsimp only at *
  have dP := At.alloc (At.new w #[.bool p0, .int .i64 p1, .int .i64 p2, .int .i64 p3] 33) (.cells #[.bool q0, .int .i64 q1, .int .i64 q2, .int .i64 q3] 33)
  have dQ := At.new2 w (.cells #[.bool p0, .int .i64 p1, .int .i64 p2, .int .i64 p3] 33) #[.bool q0, .int .i64 q1, .int .i64 q2, .int .i64 q3] 33
  have hb0 := below_box2 w (.cells #[.bool p0, .int .i64 p1, .int .i64 p2, .int .i64 p3] 33) (.cells #[.bool q0, .int .i64 q1, .int .i64 q2, .int .i64 q3] 33)
  have cT := fun w => take_any q len cap w
  have HX := Lib.hid hx
  clear hx
  go_enter Try.func34, Try.ntmps34
  go_wp2_with fail
  refine (cT _).mono ?_
  rintro e w1 ⟨rb, rfl, hge, hM, hb2⟩
  replace dP := At.below' hb2 dP
  replace dQ := At.below' hb2 dQ
  have hrb : w.heap.size + 1 < rb := by have := hge; simp at this; omega
  replace hb0 := hb0.trans (hb2.mono hb0.size)
  clear hb2 hge cT
  have hlt := At.lt hM
  have hcH := hasM_first rb q len cap m ⟨p0, p1, p2, p3⟩ w w1 HX.out hb0 (by omega) hM
  unfold HasMPost at hcH
  rw [hP] at hcH
  rw [scV_eq] at hcH
  have x0 : w1.cell? ⟨w.heap.size, 0, none⟩ = some (.bool p0) := dP.cell 0 rfl
  have x1 : w1.cell? ⟨w.heap.size, 1, none⟩ = some (.int .i64 p1) := dP.cell 1 rfl
  have x2 : w1.cell? ⟨w.heap.size, 2, none⟩ = some (.int .i64 p2) := dP.cell 2 rfl
  have x3 : w1.cell? ⟨w.heap.size, 3, none⟩ = some (.int .i64 p3) := dP.cell 3 rfl
  go_wp2_with fail
  refine hcH.mono ?_
  rintro e w2 ⟨rfl, hd, hO⟩
  replace dP := hO.at dP (by omega)
  replace dQ := hO.at dQ (by omega)
  replace hb0 := hb0.trans (hO.1.mono (by omega))
  clear hcH hO hM x0 x1 x2 x3
  clear hd dP dQ
  go_wp2
  go_ret3
  exact ⟨rfl, hb0⟩
set_option maxRecDepth 100000 in
set_option maxHeartbeats 3200000 in
theorem Apart_no2 (q : Option Addr) (len cap : Nat) (m : List BK) (p s : SC) (hP : hasM m p = true) (hS : hasM m s = false) (w : World) (hx : IsMem w q len m) :
    Calls Try.prog 34 #[.slice q len cap, scV p, scV s] w (ApPost 0 0 1 w) := by
  obtain ⟨p0, p1, p2, p3⟩ := p
  obtain ⟨q0, q1, q2, q3⟩ := s
  rw [scV_eq] at *
  rw [scV_eq] at *
  try dsimp only at *
  have dP := At.alloc (At.new w #[.bool p0, .int .i64 p1, .int .i64 p2, .int .i64 p3] 33) (.cells #[.bool q0, .int .i64 q1, .int .i64 q2, .int .i64 q3] 33)
  have dQ := At.new2 w (.cells #[.bool p0, .int .i64 p1, .int .i64 p2, .int .i64 p3] 33) #[.bool q0, .int .i64 q1, .int .i64 q2, .int .i64 q3] 33
  have hb0 := below_box2 w (.cells #[.bool p0, .int .i64 p1, .int .i64 p2, .int .i64 p3] 33) (.cells #[.bool q0, .int .i64 q1, .int .i64 q2, .int .i64 q3] 33)
  have cT := fun w => take_any q len cap w
  have HX := Lib.hid hx
  clear hx
  go_enter Try.func34, Try.ntmps34
  go_wp2_with fail
  refine (cT _).mono ?_
  rintro e w1 ⟨rb, rfl, hge, hM, hb2⟩
  replace dP := At.below' hb2 dP
  replace dQ := At.below' hb2 dQ
  have hrb : w.heap.size + 1 < rb := by have := hge; simp at this; omega
  replace hb0 := hb0.trans (hb2.mono hb0.size)
  clear hb2 hge cT
  have hlt := At.lt hM
  have hcH := hasM_first rb q len cap m ⟨p0, p1, p2, p3⟩ w w1 HX.out hb0 (by omega) hM
  unfold HasMPost at hcH
  rw [hP] at hcH
  rw [scV_eq] at hcH
  have x0 : w1.cell? ⟨w.heap.size, 0, none⟩ = some (.bool p0) := dP.cell 0 rfl
  have x1 : w1.cell? ⟨w.heap.size, 1, none⟩ = some (.int .i64 p1) := dP.cell 1 rfl
  have x2 : w1.cell? ⟨w.heap.size, 2, none⟩ = some (.int .i64 p2) := dP.cell 2 rfl
  have x3 : w1.cell? ⟨w.heap.size, 3, none⟩ = some (.int .i64 p3) := dP.cell 3 rfl
  go_wp2_with fail
  refine hcH.mono ?_
  rintro e w2 ⟨rfl, hd, hO⟩
  replace dP := hO.at dP (by omega)
  replace dQ := hO.at dQ (by omega)
  replace hb0 := hb0.trans (hO.1.mono (by omega))
  clear hcH hO hM x0 x1 x2 x3
  have hmm : mayM m = true := by unfold hasM at hP; simp at hP; exact hP.1
  have hd2 := hd hmm
  clear hd hlt
  have hlt := hd2.lt
  have hcH := hasM_again rb q len cap m ⟨q0, q1, q2, q3⟩ HX.out.2.1 HX.out.1 hmm w2 hd2
  unfold HasMPost at hcH
  rw [hS] at hcH
  rw [scV_eq] at hcH
  have x0 : w2.cell? ⟨w.heap.size + 1, 0, none⟩ = some (.bool q0) := dQ.cell 0 rfl
  have x1 : w2.cell? ⟨w.heap.size + 1, 1, none⟩ = some (.int .i64 q1) := dQ.cell 1 rfl
  have x2 : w2.cell? ⟨w.heap.size + 1, 2, none⟩ = some (.int .i64 q2) := dQ.cell 2 rfl
  have x3 : w2.cell? ⟨w.heap.size + 1, 3, none⟩ = some (.int .i64 q3) := dQ.cell 3 rfl
  go_wp2_with fail
  refine hcH.mono ?_
  rintro e w3 ⟨rfl, hd, hO⟩
  replace dP := hO.at dP (by omega)
  replace dQ := hO.at dQ (by omega)
  replace hb0 := hb0.trans (hO.1.mono (by omega))
  clear hcH hO hd hd2 x0 x1 x2 x3 hmm
  clear dP dQ
  go_wp2
  go_ret3
  exact ⟨rfl, hb0⟩
set_option maxRecDepth 100000 in
set_option maxHeartbeats 3200000 in
theorem Apart_far (q : Option Addr) (len cap : Nat) (m : List BK) (p s : SC) (hP : hasM m p = true) (hS : hasM m s = true) (hb : p.b ≠ s.b) (w : World) (hx : IsMem w q len m) :
    Calls Try.prog 34 #[.slice q len cap, scV p, scV s] w (ApPost 0 9 0 w) := by
  obtain ⟨p0, p1, p2, p3⟩ := p
  obtain ⟨q0, q1, q2, q3⟩ := s
  rw [scV_eq] at *
  rw [scV_eq] at *
  try dsimp only at *
  have dP := At.alloc (At.new w #[.bool p0, .int .i64 p1, .int .i64 p2, .int .i64 p3] 33) (.cells #[.bool q0, .int .i64 q1, .int .i64 q2, .int .i64 q3] 33)
  have dQ := At.new2 w (.cells #[.bool p0, .int .i64 p1, .int .i64 p2, .int .i64 p3] 33) #[.bool q0, .int .i64 q1, .int .i64 q2, .int .i64 q3] 33
  have hb0 := below_box2 w (.cells #[.bool p0, .int .i64 p1, .int .i64 p2, .int .i64 p3] 33) (.cells #[.bool q0, .int .i64 q1, .int .i64 q2, .int .i64 q3] 33)
  have cT := fun w => take_any q len cap w
  have HX := Lib.hid hx
  clear hx
  go_enter Try.func34, Try.ntmps34
  go_wp2_with fail
  refine (cT _).mono ?_
  rintro e w1 ⟨rb, rfl, hge, hM, hb2⟩
  replace dP := At.below' hb2 dP
  replace dQ := At.below' hb2 dQ
  have hrb : w.heap.size + 1 < rb := by have := hge; simp at this; omega
  replace hb0 := hb0.trans (hb2.mono hb0.size)
  clear hb2 hge cT
  have hlt := At.lt hM
  have hcH := hasM_first rb q len cap m ⟨p0, p1, p2, p3⟩ w w1 HX.out hb0 (by omega) hM
  unfold HasMPost at hcH
  rw [hP] at hcH
  rw [scV_eq] at hcH
  have x0 : w1.cell? ⟨w.heap.size, 0, none⟩ = some (.bool p0) := dP.cell 0 rfl
  have x1 : w1.cell? ⟨w.heap.size, 1, none⟩ = some (.int .i64 p1) := dP.cell 1 rfl
  have x2 : w1.cell? ⟨w.heap.size, 2, none⟩ = some (.int .i64 p2) := dP.cell 2 rfl
  have x3 : w1.cell? ⟨w.heap.size, 3, none⟩ = some (.int .i64 p3) := dP.cell 3 rfl
  go_wp2_with fail
  refine hcH.mono ?_
  rintro e w2 ⟨rfl, hd, hO⟩
  replace dP := hO.at dP (by omega)
  replace dQ := hO.at dQ (by omega)
  replace hb0 := hb0.trans (hO.1.mono (by omega))
  clear hcH hO hM x0 x1 x2 x3
  have hmm : mayM m = true := by unfold hasM at hP; simp at hP; exact hP.1
  have hd2 := hd hmm
  clear hd hlt
  have hlt := hd2.lt
  have hcH := hasM_again rb q len cap m ⟨q0, q1, q2, q3⟩ HX.out.2.1 HX.out.1 hmm w2 hd2
  unfold HasMPost at hcH
  rw [hS] at hcH
  rw [scV_eq] at hcH
  have x0 : w2.cell? ⟨w.heap.size + 1, 0, none⟩ = some (.bool q0) := dQ.cell 0 rfl
  have x1 : w2.cell? ⟨w.heap.size + 1, 1, none⟩ = some (.int .i64 q1) := dQ.cell 1 rfl
  have x2 : w2.cell? ⟨w.heap.size + 1, 2, none⟩ = some (.int .i64 q2) := dQ.cell 2 rfl
  have x3 : w2.cell? ⟨w.heap.size + 1, 3, none⟩ = some (.int .i64 q3) := dQ.cell 3 rfl
  go_wp2_with fail
  refine hcH.mono ?_
  rintro e w3 ⟨rfl, hd, hO⟩
  replace dP := hO.at dP (by omega)
  replace dQ := hO.at dQ (by omega)
  replace hb0 := hb0.trans (hO.1.mono (by omega))
  clear hcH hO hd hd2 x0 x1 x2 x3 hmm
  have x0 : w3.cell? ⟨w.heap.size, 0, none⟩ = some (.bool p0) := dP.cell 0 rfl
  have x1 : w3.cell? ⟨w.heap.size, 1, none⟩ = some (.int .i64 p1) := dP.cell 1 rfl
  have x2 : w3.cell? ⟨w.heap.size, 2, none⟩ = some (.int .i64 p2) := dP.cell 2 rfl
  have x3 : w3.cell? ⟨w.heap.size, 3, none⟩ = some (.int .i64 p3) := dP.cell 3 rfl
  have y0 : w3.cell? ⟨w.heap.size + 1, 0, none⟩ = some (.bool q0) := dQ.cell 0 rfl
  have y1 : w3.cell? ⟨w.heap.size + 1, 1, none⟩ = some (.int .i64 q1) := dQ.cell 1 rfl
  have y2 : w3.cell? ⟨w.heap.size + 1, 2, none⟩ = some (.int .i64 q2) := dQ.cell 2 rfl
  have y3 : w3.cell? ⟨w.heap.size + 1, 3, none⟩ = some (.int .i64 q3) := dQ.cell 3 rfl
  have t1 : (p2 != q2) = true := by simpa using hb
  go_wp2
  go_ret3
  exact ⟨rfl, hb0⟩
set_option maxRecDepth 100000 in
set_option maxHeartbeats 3200000 in
theorem Apart_near (q : Option Addr) (len cap : Nat) (m : List BK) (p s : SC) (hP : hasM m p = true) (hS : hasM m s = true) (hb : p.b = s.b) (h1 : 0 ≤ p.o ∧ p.o ≤ 1000) (h2 : 0 ≤ s.o ∧ s.o ≤ 1000) (w : World) (hx : IsMem w q len m) :
    Calls Try.prog 34 #[.slice q len cap, scV p, scV s] w (ApPost (wrapI (p.o - s.o) 32) 0 0 w) := by
  obtain ⟨p0, p1, p2, p3⟩ := p
  obtain ⟨q0, q1, q2, q3⟩ := s
  rw [scV_eq] at *
  rw [scV_eq] at *
  try dsimp only at *
  have dP := At.alloc (At.new w #[.bool p0, .int .i64 p1, .int .i64 p2, .int .i64 p3] 33) (.cells #[.bool q0, .int .i64 q1, .int .i64 q2, .int .i64 q3] 33)
  have dQ := At.new2 w (.cells #[.bool p0, .int .i64 p1, .int .i64 p2, .int .i64 p3] 33) #[.bool q0, .int .i64 q1, .int .i64 q2, .int .i64 q3] 33
  have hb0 := below_box2 w (.cells #[.bool p0, .int .i64 p1, .int .i64 p2, .int .i64 p3] 33) (.cells #[.bool q0, .int .i64 q1, .int .i64 q2, .int .i64 q3] 33)
  have cT := fun w => take_any q len cap w
  have HX := Lib.hid hx
  clear hx
  have HB := Lib.hid hb
  clear hb
  go_enter Try.func34, Try.ntmps34
  go_wp2_with fail
  refine (cT _).mono ?_
  rintro e w1 ⟨rb, rfl, hge, hM, hb2⟩
  replace dP := At.below' hb2 dP
  replace dQ := At.below' hb2 dQ
  have hrb : w.heap.size + 1 < rb := by have := hge; simp at this; omega
  replace hb0 := hb0.trans (hb2.mono hb0.size)
  clear hb2 hge cT
  have hlt := At.lt hM
  have hcH := hasM_first rb q len cap m ⟨p0, p1, p2, p3⟩ w w1 HX.out hb0 (by omega) hM
  unfold HasMPost at hcH
  rw [hP] at hcH
  rw [scV_eq] at hcH
  have x0 : w1.cell? ⟨w.heap.size, 0, none⟩ = some (.bool p0) := dP.cell 0 rfl
  have x1 : w1.cell? ⟨w.heap.size, 1, none⟩ = some (.int .i64 p1) := dP.cell 1 rfl
  have x2 : w1.cell? ⟨w.heap.size, 2, none⟩ = some (.int .i64 p2) := dP.cell 2 rfl
  have x3 : w1.cell? ⟨w.heap.size, 3, none⟩ = some (.int .i64 p3) := dP.cell 3 rfl
  go_wp2_with fail
  refine hcH.mono ?_
  rintro e w2 ⟨rfl, hd, hO⟩
  replace dP := hO.at dP (by omega)
  replace dQ := hO.at dQ (by omega)
  replace hb0 := hb0.trans (hO.1.mono (by omega))
  clear hcH hO hM x0 x1 x2 x3
  have hmm : mayM m = true := by unfold hasM at hP; simp at hP; exact hP.1
  have hd2 := hd hmm
  clear hd hlt
  have hlt := hd2.lt
  have hcH := hasM_again rb q len cap m ⟨q0, q1, q2, q3⟩ HX.out.2.1 HX.out.1 hmm w2 hd2
  unfold HasMPost at hcH
  rw [hS] at hcH
  rw [scV_eq] at hcH
  have x0 : w2.cell? ⟨w.heap.size + 1, 0, none⟩ = some (.bool q0) := dQ.cell 0 rfl
  have x1 : w2.cell? ⟨w.heap.size + 1, 1, none⟩ = some (.int .i64 q1) := dQ.cell 1 rfl
  have x2 : w2.cell? ⟨w.heap.size + 1, 2, none⟩ = some (.int .i64 q2) := dQ.cell 2 rfl
  have x3 : w2.cell? ⟨w.heap.size + 1, 3, none⟩ = some (.int .i64 q3) := dQ.cell 3 rfl
  go_wp2_with fail
  refine hcH.mono ?_
  rintro e w3 ⟨rfl, hd, hO⟩
  replace dP := hO.at dP (by omega)
  replace dQ := hO.at dQ (by omega)
  replace hb0 := hb0.trans (hO.1.mono (by omega))
  clear hcH hO hd hd2 x0 x1 x2 x3 hmm
  have x0 : w3.cell? ⟨w.heap.size, 0, none⟩ = some (.bool p0) := dP.cell 0 rfl
  have x1 : w3.cell? ⟨w.heap.size, 1, none⟩ = some (.int .i64 p1) := dP.cell 1 rfl
  have x2 : w3.cell? ⟨w.heap.size, 2, none⟩ = some (.int .i64 p2) := dP.cell 2 rfl
  have x3 : w3.cell? ⟨w.heap.size, 3, none⟩ = some (.int .i64 p3) := dP.cell 3 rfl
  have y0 : w3.cell? ⟨w.heap.size + 1, 0, none⟩ = some (.bool q0) := dQ.cell 0 rfl
  have y1 : w3.cell? ⟨w.heap.size + 1, 1, none⟩ = some (.int .i64 q1) := dQ.cell 1 rfl
  have y2 : w3.cell? ⟨w.heap.size + 1, 2, none⟩ = some (.int .i64 q2) := dQ.cell 2 rfl
  have y3 : w3.cell? ⟨w.heap.size + 1, 3, none⟩ = some (.int .i64 q3) := dQ.cell 3 rfl
  have t1 : (p2 != q2) = false := by simpa using HB.out
  have cW := fun n w => Wrap_yes n 32 (by unfold isW; decide) w
  have hw : IntKind.i64.wrap (p3 - q3) = p3 - q3 := by rw [IntKind.wrap_i64]; omega
  have hw2 : wrap64 (p3 - q3) = p3 - q3 := by unfold wrap64; omega
  clear h1 h2
  go_wp2_with (go_at_call 60; (with_reducible refine (cW _ _).mono ?_); rintro e w' ⟨rfl, rfl⟩)
  go_ret3
  exact ⟨rfl, hb0⟩
theorem Apart_any (q : Option Addr) (len cap : Nat) (m : List BK) (p s : SC) (h1 : hasM m p = true → 0 ≤ p.o ∧ p.o ≤ 1000) (h2 : hasM m s = true → 0 ≤ s.o ∧ s.o ≤ 1000) (w : World) (hx : IsMem w q len m) :
    Calls Try.prog 34 #[.slice q len cap, scV p, scV s] w (ApPost (if hasM m p && hasM m s && (p.b == s.b) then wrapI (p.o - s.o) 32 else 0) (if hasM m p && hasM m s && (p.b != s.b) then 9 else 0) (if hasM m p && hasM m s then 0 else 1) w) := by
  cases hP : hasM m p
  · simpa using Apart_no1 q len cap m p s hP w hx
  · cases hS : hasM m s
    · simpa using Apart_no2 q len cap m p s hP hS w hx
    · by_cases hb : p.b = s.b
      · simpa [hb] using Apart_near q len cap m p s hP hS hb (h1 hP) (h2 hS) w hx
      · simpa [hb] using Apart_far q len cap m p s hP hS hb w hx
end Go.Proofs.Ytcppmibeiilgbaa
