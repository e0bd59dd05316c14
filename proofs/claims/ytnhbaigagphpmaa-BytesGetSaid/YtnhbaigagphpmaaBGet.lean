/- Package bytes: Get. -/
import Derived.Test.YtnhbaigagphpmaaBNumb
namespace Go.Proofs.Ytnhbaigagphpmaa
open Go.ChangeShapes Go.WideShapes Go.ChangeAt Go.RowKit Go.Joins Go.Deep
set_option linter.unusedVariables false

def GetPost (s : SC) (bad ev : Int) (w : World) (e : Ending) (w' : World) : Prop := e = .returned (.tuple #[scA s, .int .i64 bad, .int .i64 ev]) ∧ Below w.heap.size w w'
def noS : SC := ⟨false, 0, 0, 0⟩
def getS (big : Bool) (k : Int) (xs : List BY) : SC × Int := if 0 < cntOf xs 0 then (noS, 7) else if k = 7 then ptrR xs else numR big xs
set_option maxRecDepth 100000 in
set_option maxHeartbeats 1600000 in
theorem Get_no1 (big : Bool) (p k : Int) (q : Option Addr) (len cap : Nat) (h : ¬ (mayA p ∧ 1 ≤ k ∧ k ≤ 7)) (w : World) :
    Calls Try.prog 9 #[.agg #[.bool big, .int .i64 p], .int .i64 k, .slice q len cap] w (GetPost noS 0 1 w) := by
  have cS := fun w => Size_no big p k h w
  have dP := At.new2 w (.cells #[.bool big, .int .i64 p] 38) #[.bool false, .int .i64 0, .int .i64 0, .int .i64 0] 33
  have dA := At.alloc (At.new w #[.bool big, .int .i64 p] 38) (.cells #[.bool false, .int .i64 0, .int .i64 0, .int .i64 0] 33)
  have hb0 := below_box2 w (.cells #[.bool big, .int .i64 p] 38) (.cells #[.bool false, .int .i64 0, .int .i64 0, .int .i64 0] 33)
  clear h
  go_enter Try.func9, Try.ntmps9
  go_wp2_with fail
  refine (cS _).mono ?_
  rintro e w1 ⟨rfl, hb2⟩
  replace dP := At.below' hb2 dP
  replace dA := At.below' hb2 dA
  replace hb0 := hb0.trans (hb2.mono hb0.size)
  clear hb2
  have st := store4 dP (.bool false) (.int .i64 0) (.int .i64 0) (.int .i64 0)
  have E1 := store4_at dP (.bool false) (.int .i64 0) (.int .i64 0) (.int .i64 0)
  have E2 := store4_below hb0 (Nat.le_succ _) (.bool false) (.int .i64 0) (.int .i64 0) (.int .i64 0)
  clear dP hb0
  go_wp2_with fail
  generalize ((((w1.setCell ⟨(w.heap.size + 1), 0, none⟩ (.bool false)).setCell ⟨(w.heap.size + 1), 1, none⟩ (.int .i64 0)).setCell ⟨(w.heap.size + 1), 2, none⟩ (.int .i64 0)).setCell ⟨(w.heap.size + 1), 3, none⟩ (.int .i64 0)) = wz at E1 E2 ⊢
  have g0 : wz.cell? ⟨w.heap.size + 1, 0, none⟩ = some (.bool false) := E1.cell 0 rfl
  have g1 : wz.cell? ⟨w.heap.size + 1, 1, none⟩ = some (.int .i64 0) := E1.cell 1 rfl
  have g2 : wz.cell? ⟨w.heap.size + 1, 2, none⟩ = some (.int .i64 0) := E1.cell 2 rfl
  have g3 : wz.cell? ⟨w.heap.size + 1, 3, none⟩ = some (.int .i64 0) := E1.cell 3 rfl
  exact bodyPost_ret (v := .tuple #[.agg #[.bool false, .int .i64 0, .int .i64 0, .int .i64 0], .int .i64 0, .int .i64 1]) (by simp [results, Try.results9, go_sem, g0, g1, g2, g3]) rfl ⟨rfl, E2⟩
set_option maxRecDepth 100000 in
set_option maxHeartbeats 1600000 in
theorem Get_no2 (big : Bool) (p k : Int) (q : Option Addr) (len cap : Nat) (hp : mayA p) (hk : 1 ≤ k ∧ k ≤ 7) (hne : len ≠ sizN p k) (w : World) :
    Calls Try.prog 9 #[.agg #[.bool big, .int .i64 p], .int .i64 k, .slice q len cap] w (GetPost noS 0 1 w) := by
  have cS := fun w => Size_yes big p k hp hk w
  generalize sizN p k = n at *
  have h3 : (len == n) = false := by simpa using hne
  have h4 : ((len : Int) == (n : Int)) = false := by rw [beq_eq_false_iff_ne]; exact fun hh => hne (by exact_mod_cast hh)
  have h5 : ((len : Int) != (n : Int)) = true := by rw [bne, h4]; rfl
  have h6 : ¬ ((len : Int) = (n : Int)) := fun hh => hne (by exact_mod_cast hh)
  have dP := At.new2 w (.cells #[.bool big, .int .i64 p] 38) #[.bool false, .int .i64 0, .int .i64 0, .int .i64 0] 33
  have dA := At.alloc (At.new w #[.bool big, .int .i64 p] 38) (.cells #[.bool false, .int .i64 0, .int .i64 0, .int .i64 0] 33)
  have hb0 := below_box2 w (.cells #[.bool big, .int .i64 p] 38) (.cells #[.bool false, .int .i64 0, .int .i64 0, .int .i64 0] 33)
  clear hp hk hne
  go_enter Try.func9, Try.ntmps9
  go_wp2_with fail
  refine (cS _).mono ?_
  rintro e w1 ⟨rfl, hb2⟩
  replace dP := At.below' hb2 dP
  replace dA := At.below' hb2 dA
  replace hb0 := hb0.trans (hb2.mono hb0.size)
  clear hb2
  have st := store4 dP (.bool false) (.int .i64 0) (.int .i64 0) (.int .i64 0)
  have E1 := store4_at dP (.bool false) (.int .i64 0) (.int .i64 0) (.int .i64 0)
  have E2 := store4_below hb0 (Nat.le_succ _) (.bool false) (.int .i64 0) (.int .i64 0) (.int .i64 0)
  clear dP hb0
  go_wp2_with fail
  generalize ((((w1.setCell ⟨(w.heap.size + 1), 0, none⟩ (.bool false)).setCell ⟨(w.heap.size + 1), 1, none⟩ (.int .i64 0)).setCell ⟨(w.heap.size + 1), 2, none⟩ (.int .i64 0)).setCell ⟨(w.heap.size + 1), 3, none⟩ (.int .i64 0)) = wz at E1 E2 ⊢
  have g0 : wz.cell? ⟨w.heap.size + 1, 0, none⟩ = some (.bool false) := E1.cell 0 rfl
  have g1 : wz.cell? ⟨w.heap.size + 1, 1, none⟩ = some (.int .i64 0) := E1.cell 1 rfl
  have g2 : wz.cell? ⟨w.heap.size + 1, 2, none⟩ = some (.int .i64 0) := E1.cell 2 rfl
  have g3 : wz.cell? ⟨w.heap.size + 1, 3, none⟩ = some (.int .i64 0) := E1.cell 3 rfl
  exact bodyPost_ret (v := .tuple #[.agg #[.bool false, .int .i64 0, .int .i64 0, .int .i64 0], .int .i64 0, .int .i64 1]) (by simp [results, Try.results9, go_sem, g0, g1, g2, g3]) rfl ⟨rfl, E2⟩
set_option maxRecDepth 100000 in
set_option maxHeartbeats 1600000 in
theorem Get_no3 (big : Bool) (p k : Int) (q : Option Addr) (len cap : Nat) (xs : List BY) (hp : mayA p) (hk : 1 ≤ k ∧ k ≤ 7) (hne : sizN p k = len) (w : World) (hx : IsBys w q len xs) (hm : maysY xs = false) :
    Calls Try.prog 9 #[.agg #[.bool big, .int .i64 p], .int .i64 k, .slice q len cap] w (GetPost noS 0 1 w) := by
  have cS := fun w => Size_yes big p k hp hk w
  have cB := fun w h => areBytes_any q len cap xs w h
  rw [hne] at cS
  rw [hm] at cB
  have HX := Lib.hid hx
  have dP := At.new2 w (.cells #[.bool big, .int .i64 p] 38) #[.bool false, .int .i64 0, .int .i64 0, .int .i64 0] 33
  have dA := At.alloc (At.new w #[.bool big, .int .i64 p] 38) (.cells #[.bool false, .int .i64 0, .int .i64 0, .int .i64 0] 33)
  have hb0 := below_box2 w (.cells #[.bool big, .int .i64 p] 38) (.cells #[.bool false, .int .i64 0, .int .i64 0, .int .i64 0] 33)
  clear hp hk hne hm hx
  go_enter Try.func9, Try.ntmps9
  go_wp2_with fail
  refine (cS _).mono ?_
  rintro e w1 ⟨rfl, hb2⟩
  replace dP := At.below' hb2 dP
  replace dA := At.below' hb2 dA
  replace hb0 := hb0.trans (hb2.mono hb0.size)
  clear hb2
  go_wp2_with fail
  refine (cB _ (HX.out.below hb0)).mono ?_
  rintro e w2 ⟨rfl, hb2⟩
  replace dP := At.below' hb2 dP
  replace dA := At.below' hb2 dA
  replace hb0 := hb0.trans (hb2.mono hb0.size)
  clear hb2
  have st := store4 dP (.bool false) (.int .i64 0) (.int .i64 0) (.int .i64 0)
  have E1 := store4_at dP (.bool false) (.int .i64 0) (.int .i64 0) (.int .i64 0)
  have E2 := store4_below hb0 (Nat.le_succ _) (.bool false) (.int .i64 0) (.int .i64 0) (.int .i64 0)
  clear dP hb0
  go_wp2_with fail
  generalize ((((w2.setCell ⟨(w.heap.size + 1), 0, none⟩ (.bool false)).setCell ⟨(w.heap.size + 1), 1, none⟩ (.int .i64 0)).setCell ⟨(w.heap.size + 1), 2, none⟩ (.int .i64 0)).setCell ⟨(w.heap.size + 1), 3, none⟩ (.int .i64 0)) = wz at E1 E2 ⊢
  have g0 : wz.cell? ⟨w.heap.size + 1, 0, none⟩ = some (.bool false) := E1.cell 0 rfl
  have g1 : wz.cell? ⟨w.heap.size + 1, 1, none⟩ = some (.int .i64 0) := E1.cell 1 rfl
  have g2 : wz.cell? ⟨w.heap.size + 1, 2, none⟩ = some (.int .i64 0) := E1.cell 2 rfl
  have g3 : wz.cell? ⟨w.heap.size + 1, 3, none⟩ = some (.int .i64 0) := E1.cell 3 rfl
  exact bodyPost_ret (v := .tuple #[.agg #[.bool false, .int .i64 0, .int .i64 0, .int .i64 0], .int .i64 0, .int .i64 1]) (by simp [results, Try.results9, go_sem, g0, g1, g2, g3]) rfl ⟨rfl, E2⟩
set_option maxRecDepth 100000 in
set_option maxHeartbeats 3200000 in
theorem Get_empty (big : Bool) (p k : Int) (q : Option Addr) (len cap : Nat) (xs : List BY) (hp : mayA p) (hk : 1 ≤ k ∧ k ≤ 7) (hne : sizN p k = len) (w : World) (hx : IsBys w q len xs) (hm : maysY xs = true) (hc : 0 < cntOf xs 0) :
    Calls Try.prog 9 #[.agg #[.bool big, .int .i64 p], .int .i64 k, .slice q len cap] w (GetPost (getS big k xs).1 (getS big k xs).2 0 w) := by
  have cS := fun w => Size_yes big p k hp hk w
  have cB := fun w h => areBytes_any q len cap xs w h
  rw [hne] at cS
  rw [hm] at cB
  have hn := siz_cases hp hk
  rw [hne] at hn
  have hin := inB_of hm
  have HX := Lib.hid hx
  have hlen := hx.2.1
  have HE : Hid (getS big k xs = (noS, 7)) := Lib.hid (by unfold getS; rw [if_pos hc])
  have t0 : decide ((0 : Int) < (cntOf xs 0 : Int)) = true := by simp; omega
  have dP := At.new2 w (.cells #[.bool big, .int .i64 p] 38) #[.bool false, .int .i64 0, .int .i64 0, .int .i64 0] 33
  have dA := At.alloc (At.new w #[.bool big, .int .i64 p] 38) (.cells #[.bool false, .int .i64 0, .int .i64 0, .int .i64 0] 33)
  have hb0 := below_box2 w (.cells #[.bool big, .int .i64 p] 38) (.cells #[.bool false, .int .i64 0, .int .i64 0, .int .i64 0] 33)
  have HN := Lib.hid hn
  have HI := Lib.hid hin
  have HL := Lib.hid hlen
  have hl1 : 1 ≤ len := by omega
  clear hp hk hne hm hx hn hin hlen
  go_enter Try.func9, Try.ntmps9
  go_wp2_with fail
  refine (cS _).mono ?_
  rintro e w1 ⟨rfl, hb2⟩
  replace dP := At.below' hb2 dP
  replace dA := At.below' hb2 dA
  replace hb0 := hb0.trans (hb2.mono hb0.size)
  clear hb2
  go_wp2_with fail
  refine (cB _ (HX.out.below hb0)).mono ?_
  rintro e w2 ⟨rfl, hb2⟩
  replace dP := At.below' hb2 dP
  replace dA := At.below' hb2 dA
  replace hb0 := hb0.trans (hb2.mono hb0.size)
  clear hb2
  have hPl : w.heap.size + 1 < w2.heap.size := dP.lt
  have a0 : w2.cell? ⟨w.heap.size, 0, none⟩ = some (.bool big) := dA.cell 0 rfl
  have a1 : w2.cell? ⟨w.heap.size, 1, none⟩ = some (.int .i64 p) := dA.cell 1 rfl
  have hrow : RowNew (w2.alloc (.cells (rowC big p (.slice q len cap) 0 0 0 0 0 0) 87)) w2.heap.size big p (.slice q len cap) := At.new w2 _ _
  have hbr := hb0.size
  have hb1 := hb0.alloc hb0.size (.cells (rowC big p (.slice q len cap) 0 0 0 0 0 0) 87)
  replace dP := At.alloc dP (.cells (rowC big p (.slice q len cap) 0 0 0 0 0 0) 87)
  go_wp2_with fail
  refine (has_first _ big p q len cap xs w _ HX.out hb1 hbr hrow).mono ?_
  rintro e w3 ⟨rfl, hd, hb3⟩
  replace dP := dP.below hb3 hPl
  replace hb1 := hb1.trans (hb3.mono hbr)
  clear hrow hb3 a0 a1 dA hb0
  generalize w2.heap.size = rb at *
  generalize cntOf xs 0 = m at *
  have st := store4 dP (.bool false) (.int .i64 0) (.int .i64 0) (.int .i64 0)
  have E1 := store4_at dP (.bool false) (.int .i64 0) (.int .i64 0) (.int .i64 0)
  have E2 := store4_below hb1 (Nat.le_succ _) (.bool false) (.int .i64 0) (.int .i64 0) (.int .i64 0)
  clear dP hb1
  go_wp2_with fail
  generalize ((((w3.setCell ⟨(w.heap.size + 1), 0, none⟩ (.bool false)).setCell ⟨(w.heap.size + 1), 1, none⟩ (.int .i64 0)).setCell ⟨(w.heap.size + 1), 2, none⟩ (.int .i64 0)).setCell ⟨(w.heap.size + 1), 3, none⟩ (.int .i64 0)) = wz at E1 E2 ⊢
  have g0 : wz.cell? ⟨w.heap.size + 1, 0, none⟩ = some (.bool false) := E1.cell 0 rfl
  have g1 : wz.cell? ⟨w.heap.size + 1, 1, none⟩ = some (.int .i64 0) := E1.cell 1 rfl
  have g2 : wz.cell? ⟨w.heap.size + 1, 2, none⟩ = some (.int .i64 0) := E1.cell 2 rfl
  have g3 : wz.cell? ⟨w.heap.size + 1, 3, none⟩ = some (.int .i64 0) := E1.cell 3 rfl
  exact bodyPost_ret (v := .tuple #[.agg #[.bool false, .int .i64 0, .int .i64 0, .int .i64 0], .int .i64 7, .int .i64 0]) (by simp [results, Try.results9, go_sem, g0, g1, g2, g3]) rfl ⟨by rw [HE.out]; rfl, E2⟩
set_option maxRecDepth 100000 in
set_option maxHeartbeats 3200000 in
theorem Get_ptr (big : Bool) (p k : Int) (q : Option Addr) (len cap : Nat) (xs : List BY) (hp : mayA p) (hk : 1 ≤ k ∧ k ≤ 7) (hne : sizN p k = len) (w : World) (hx : IsBys w q len xs) (hm : maysY xs = true) (hc : ¬ 0 < cntOf xs 0) (h7 : k = 7) :
    Calls Try.prog 9 #[.agg #[.bool big, .int .i64 p], .int .i64 k, .slice q len cap] w (GetPost (getS big k xs).1 (getS big k xs).2 0 w) := by
  have cS := fun w => Size_yes big p k hp hk w
  have cB := fun w h => areBytes_any q len cap xs w h
  rw [hne] at cS
  rw [hm] at cB
  have hn := siz_cases hp hk
  rw [hne] at hn
  have hin := inB_of hm
  have HX := Lib.hid hx
  have hlen := hx.2.1
  have HE : Hid (getS big k xs = ptrR xs) := Lib.hid (by unfold getS; rw [if_neg hc, if_pos h7])
  have hm0 : cntOf xs 0 = 0 := by omega
  subst h7
  have dP := At.new2 w (.cells #[.bool big, .int .i64 p] 38) #[.bool false, .int .i64 0, .int .i64 0, .int .i64 0] 33
  have dA := At.alloc (At.new w #[.bool big, .int .i64 p] 38) (.cells #[.bool false, .int .i64 0, .int .i64 0, .int .i64 0] 33)
  have hb0 := below_box2 w (.cells #[.bool big, .int .i64 p] 38) (.cells #[.bool false, .int .i64 0, .int .i64 0, .int .i64 0] 33)
  have HN := Lib.hid hn
  have HI := Lib.hid hin
  have HL := Lib.hid hlen
  have hl1 : 1 ≤ len := by omega
  clear hp hk hne hm hx hn hin hlen
  go_enter Try.func9, Try.ntmps9
  go_wp2_with fail
  refine (cS _).mono ?_
  rintro e w1 ⟨rfl, hb2⟩
  replace dP := At.below' hb2 dP
  replace dA := At.below' hb2 dA
  replace hb0 := hb0.trans (hb2.mono hb0.size)
  clear hb2
  go_wp2_with fail
  refine (cB _ (HX.out.below hb0)).mono ?_
  rintro e w2 ⟨rfl, hb2⟩
  replace dP := At.below' hb2 dP
  replace dA := At.below' hb2 dA
  replace hb0 := hb0.trans (hb2.mono hb0.size)
  clear hb2
  have hPl : w.heap.size + 1 < w2.heap.size := dP.lt
  have a0 : w2.cell? ⟨w.heap.size, 0, none⟩ = some (.bool big) := dA.cell 0 rfl
  have a1 : w2.cell? ⟨w.heap.size, 1, none⟩ = some (.int .i64 p) := dA.cell 1 rfl
  have hrow : RowNew (w2.alloc (.cells (rowC big p (.slice q len cap) 0 0 0 0 0 0) 87)) w2.heap.size big p (.slice q len cap) := At.new w2 _ _
  have hbr := hb0.size
  have hb1 := hb0.alloc hb0.size (.cells (rowC big p (.slice q len cap) 0 0 0 0 0 0) 87)
  replace dP := At.alloc dP (.cells (rowC big p (.slice q len cap) 0 0 0 0 0 0) 87)
  go_wp2_with fail
  refine (has_first _ big p q len cap xs w _ HX.out hb1 hbr hrow).mono ?_
  rintro e w3 ⟨rfl, hd, hb3⟩
  replace dP := dP.below hb3 hPl
  replace hb1 := hb1.trans (hb3.mono hbr)
  clear hrow hb3 a0 a1 dA hb0
  generalize w2.heap.size = rb at *
  rw [hm0]
  have hd2 := hd
  have hcall := fun w2 (hb : Below w.heap.size w w2) h => pointer_any rb big p q len cap xs HX.out.1 HL.out (by omega) w w2 HX.out hb h
  generalize (ptrR xs) = R at *
  obtain ⟨⟨rp, rn, rbk, ro⟩, rbad⟩ := R
  go_wp2_with fail
  refine (hcall _ hb1 hd).mono ?_
  rintro e w4 ⟨rfl, hb4⟩
  replace dP := At.below' hb4 dP
  replace hb1 := hb1.trans (hb4.mono hb1.size)
  clear hb4 hcall hd hd2
  unfold scA
  dsimp only
  have st := store4 dP (.bool rp) (.int .i64 rn) (.int .i64 rbk) (.int .i64 ro)
  have E1 := store4_at dP (.bool rp) (.int .i64 rn) (.int .i64 rbk) (.int .i64 ro)
  have E2 := store4_below hb1 (Nat.le_succ _) (.bool rp) (.int .i64 rn) (.int .i64 rbk) (.int .i64 ro)
  clear dP hb1
  go_upto_region 12 with (fail)
  generalize ((((w4.setCell ⟨(w.heap.size + 1), 0, none⟩ (.bool rp)).setCell ⟨(w.heap.size + 1), 1, none⟩ (.int .i64 rn)).setCell ⟨(w.heap.size + 1), 2, none⟩ (.int .i64 rbk)).setCell ⟨(w.heap.size + 1), 3, none⟩ (.int .i64 ro)) = w5 at E1 E2 ⊢
  clear st
  have g0 : w5.cell? ⟨w.heap.size + 1, 0, none⟩ = some (.bool rp) := E1.cell 0 rfl
  have g1 : w5.cell? ⟨w.heap.size + 1, 1, none⟩ = some (.int .i64 rn) := E1.cell 1 rfl
  have g2 : w5.cell? ⟨w.heap.size + 1, 2, none⟩ = some (.int .i64 rbk) := E1.cell 2 rfl
  have g3 : w5.cell? ⟨w.heap.size + 1, 3, none⟩ = some (.int .i64 ro) := E1.cell 3 rfl
  have dP := E1
  have hb1 := E2
  clear E1 E2
  have st := store4 dP (.bool rp) (.int .i64 rn) (.int .i64 rbk) (.int .i64 ro)
  have E1 := store4_at dP (.bool rp) (.int .i64 rn) (.int .i64 rbk) (.int .i64 ro)
  have E2 := store4_below hb1 (Nat.le_succ _) (.bool rp) (.int .i64 rn) (.int .i64 rbk) (.int .i64 ro)
  clear dP hb1
  go_wp2_with fail
  clear g0 g1 g2 g3
  generalize ((((w5.setCell ⟨(w.heap.size + 1), 0, none⟩ (.bool rp)).setCell ⟨(w.heap.size + 1), 1, none⟩ (.int .i64 rn)).setCell ⟨(w.heap.size + 1), 2, none⟩ (.int .i64 rbk)).setCell ⟨(w.heap.size + 1), 3, none⟩ (.int .i64 ro)) = wz at E1 E2 ⊢
  clear st
  have g0 : wz.cell? ⟨w.heap.size + 1, 0, none⟩ = some (.bool rp) := E1.cell 0 rfl
  have g1 : wz.cell? ⟨w.heap.size + 1, 1, none⟩ = some (.int .i64 rn) := E1.cell 1 rfl
  have g2 : wz.cell? ⟨w.heap.size + 1, 2, none⟩ = some (.int .i64 rbk) := E1.cell 2 rfl
  have g3 : wz.cell? ⟨w.heap.size + 1, 3, none⟩ = some (.int .i64 ro) := E1.cell 3 rfl
  exact bodyPost_ret (v := .tuple #[.agg #[.bool rp, .int .i64 rn, .int .i64 rbk, .int .i64 ro], .int .i64 rbad, .int .i64 0]) (by simp [results, Try.results9, go_sem, g0, g1, g2, g3]) rfl ⟨by rw [HE.out]; rfl, E2⟩
set_option maxRecDepth 100000 in
set_option maxHeartbeats 3200000 in
theorem Get_num (big : Bool) (p k : Int) (q : Option Addr) (len cap : Nat) (xs : List BY) (hp : mayA p) (hk : 1 ≤ k ∧ k ≤ 7) (hne : sizN p k = len) (w : World) (hx : IsBys w q len xs) (hm : maysY xs = true) (hc : ¬ 0 < cntOf xs 0) (h7 : k ≠ 7) :
    Calls Try.prog 9 #[.agg #[.bool big, .int .i64 p], .int .i64 k, .slice q len cap] w (GetPost (getS big k xs).1 (getS big k xs).2 0 w) := by
  have cS := fun w => Size_yes big p k hp hk w
  have cB := fun w h => areBytes_any q len cap xs w h
  rw [hne] at cS
  rw [hm] at cB
  have hn := siz_cases hp hk
  rw [hne] at hn
  have hin := inB_of hm
  have HX := Lib.hid hx
  have hlen := hx.2.1
  have HE : Hid (getS big k xs = numR big xs) := Lib.hid (by unfold getS; rw [if_neg hc, if_neg h7])
  have hm0 : cntOf xs 0 = 0 := by omega
  have t7 : (k == 7) = false := by simpa using h7
  have dP := At.new2 w (.cells #[.bool big, .int .i64 p] 38) #[.bool false, .int .i64 0, .int .i64 0, .int .i64 0] 33
  have dA := At.alloc (At.new w #[.bool big, .int .i64 p] 38) (.cells #[.bool false, .int .i64 0, .int .i64 0, .int .i64 0] 33)
  have hb0 := below_box2 w (.cells #[.bool big, .int .i64 p] 38) (.cells #[.bool false, .int .i64 0, .int .i64 0, .int .i64 0] 33)
  have HN := Lib.hid hn
  have HI := Lib.hid hin
  have HL := Lib.hid hlen
  have hl1 : 1 ≤ len := by omega
  clear hp hk hne hm hx hn hin hlen
  go_enter Try.func9, Try.ntmps9
  go_wp2_with fail
  refine (cS _).mono ?_
  rintro e w1 ⟨rfl, hb2⟩
  replace dP := At.below' hb2 dP
  replace dA := At.below' hb2 dA
  replace hb0 := hb0.trans (hb2.mono hb0.size)
  clear hb2
  go_wp2_with fail
  refine (cB _ (HX.out.below hb0)).mono ?_
  rintro e w2 ⟨rfl, hb2⟩
  replace dP := At.below' hb2 dP
  replace dA := At.below' hb2 dA
  replace hb0 := hb0.trans (hb2.mono hb0.size)
  clear hb2
  have hPl : w.heap.size + 1 < w2.heap.size := dP.lt
  have a0 : w2.cell? ⟨w.heap.size, 0, none⟩ = some (.bool big) := dA.cell 0 rfl
  have a1 : w2.cell? ⟨w.heap.size, 1, none⟩ = some (.int .i64 p) := dA.cell 1 rfl
  have hrow : RowNew (w2.alloc (.cells (rowC big p (.slice q len cap) 0 0 0 0 0 0) 87)) w2.heap.size big p (.slice q len cap) := At.new w2 _ _
  have hbr := hb0.size
  have hb1 := hb0.alloc hb0.size (.cells (rowC big p (.slice q len cap) 0 0 0 0 0 0) 87)
  replace dP := At.alloc dP (.cells (rowC big p (.slice q len cap) 0 0 0 0 0 0) 87)
  go_wp2_with fail
  refine (has_first _ big p q len cap xs w _ HX.out hb1 hbr hrow).mono ?_
  rintro e w3 ⟨rfl, hd, hb3⟩
  replace dP := dP.below hb3 hPl
  replace hb1 := hb1.trans (hb3.mono hbr)
  clear hrow hb3 a0 a1 dA hb0
  generalize w2.heap.size = rb at *
  rw [hm0]
  have hd2 := hd
  have hcall := fun w2 (hb : Below w.heap.size w w2) h => number_any rb big p q len cap xs HN.out HI.out w w2 HX.out hb h
  generalize (numR big xs) = R at *
  obtain ⟨⟨rp, rn, rbk, ro⟩, rbad⟩ := R
  go_wp2_with fail
  refine (hcall _ hb1 hd).mono ?_
  rintro e w4 ⟨rfl, hb4⟩
  replace dP := At.below' hb4 dP
  replace hb1 := hb1.trans (hb4.mono hb1.size)
  clear hb4 hcall hd hd2
  unfold scA
  dsimp only
  have st := store4 dP (.bool rp) (.int .i64 rn) (.int .i64 rbk) (.int .i64 ro)
  have E1 := store4_at dP (.bool rp) (.int .i64 rn) (.int .i64 rbk) (.int .i64 ro)
  have E2 := store4_below hb1 (Nat.le_succ _) (.bool rp) (.int .i64 rn) (.int .i64 rbk) (.int .i64 ro)
  clear dP hb1
  go_upto_region 12 with (fail)
  generalize ((((w4.setCell ⟨(w.heap.size + 1), 0, none⟩ (.bool rp)).setCell ⟨(w.heap.size + 1), 1, none⟩ (.int .i64 rn)).setCell ⟨(w.heap.size + 1), 2, none⟩ (.int .i64 rbk)).setCell ⟨(w.heap.size + 1), 3, none⟩ (.int .i64 ro)) = w5 at E1 E2 ⊢
  clear st
  have g0 : w5.cell? ⟨w.heap.size + 1, 0, none⟩ = some (.bool rp) := E1.cell 0 rfl
  have g1 : w5.cell? ⟨w.heap.size + 1, 1, none⟩ = some (.int .i64 rn) := E1.cell 1 rfl
  have g2 : w5.cell? ⟨w.heap.size + 1, 2, none⟩ = some (.int .i64 rbk) := E1.cell 2 rfl
  have g3 : w5.cell? ⟨w.heap.size + 1, 3, none⟩ = some (.int .i64 ro) := E1.cell 3 rfl
  have dP := E1
  have hb1 := E2
  clear E1 E2
  have st := store4 dP (.bool rp) (.int .i64 rn) (.int .i64 rbk) (.int .i64 ro)
  have E1 := store4_at dP (.bool rp) (.int .i64 rn) (.int .i64 rbk) (.int .i64 ro)
  have E2 := store4_below hb1 (Nat.le_succ _) (.bool rp) (.int .i64 rn) (.int .i64 rbk) (.int .i64 ro)
  clear dP hb1
  go_wp2_with fail
  clear g0 g1 g2 g3
  generalize ((((w5.setCell ⟨(w.heap.size + 1), 0, none⟩ (.bool rp)).setCell ⟨(w.heap.size + 1), 1, none⟩ (.int .i64 rn)).setCell ⟨(w.heap.size + 1), 2, none⟩ (.int .i64 rbk)).setCell ⟨(w.heap.size + 1), 3, none⟩ (.int .i64 ro)) = wz at E1 E2 ⊢
  clear st
  have g0 : wz.cell? ⟨w.heap.size + 1, 0, none⟩ = some (.bool rp) := E1.cell 0 rfl
  have g1 : wz.cell? ⟨w.heap.size + 1, 1, none⟩ = some (.int .i64 rn) := E1.cell 1 rfl
  have g2 : wz.cell? ⟨w.heap.size + 1, 2, none⟩ = some (.int .i64 rbk) := E1.cell 2 rfl
  have g3 : wz.cell? ⟨w.heap.size + 1, 3, none⟩ = some (.int .i64 ro) := E1.cell 3 rfl
  exact bodyPost_ret (v := .tuple #[.agg #[.bool rp, .int .i64 rn, .int .i64 rbk, .int .i64 ro], .int .i64 rbad, .int .i64 0]) (by simp [results, Try.results9, go_sem, g0, g1, g2, g3]) rfl ⟨by rw [HE.out]; rfl, E2⟩
theorem Get_any (big : Bool) (p k : Int) (q : Option Addr) (len cap : Nat) (xs : List BY) (hp : mayA p) (hk : 1 ≤ k ∧ k ≤ 7) (hne : sizN p k = len) (w : World) (hx : IsBys w q len xs) (hm : maysY xs = true) :
    Calls Try.prog 9 #[.agg #[.bool big, .int .i64 p], .int .i64 k, .slice q len cap] w (GetPost (getS big k xs).1 (getS big k xs).2 0 w) := by
  by_cases hc : 0 < cntOf xs 0
  · exact Get_empty big p k q len cap xs hp hk hne w hx hm hc
  · by_cases h7 : k = 7
    · exact Get_ptr big p k q len cap xs hp hk hne w hx hm hc h7
    · exact Get_num big p k q len cap xs hp hk hne w hx hm hc h7
theorem Get_no (big : Bool) (p k : Int) (q : Option Addr) (len cap : Nat) (xs : List BY) (w : World) (hx : IsBys w q len xs) (h : ¬ (mayA p ∧ (1 ≤ k ∧ k ≤ 7) ∧ sizN p k = len ∧ maysY xs = true)) :
    Calls Try.prog 9 #[.agg #[.bool big, .int .i64 p], .int .i64 k, .slice q len cap] w (GetPost noS 0 1 w) := by
  by_cases h1 : mayA p ∧ 1 ≤ k ∧ k ≤ 7
  · by_cases h2 : sizN p k = len
    · exact Get_no3 big p k q len cap xs h1.1 h1.2 h2 w hx (by
        cases hq : maysY xs
        · rfl
        · exact absurd ⟨h1.1, h1.2, h2, hq⟩ h)
    · exact Get_no2 big p k q len cap h1.1 h1.2 (Ne.symm h2) w
  · exact Get_no1 big p k q len cap h1 w
end Go.Proofs.Ytnhbaigagphpmaa
