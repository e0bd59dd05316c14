/- Package bytes: what a row is, as a pointer, as a number. -/
import Derived.Test.YtnhbaigagphpmaaBOnce
namespace Go.Proofs.Ytnhbaigagphpmaa
open Go.ChangeShapes Go.WideShapes Go.ChangeAt Go.RowKit Go.Joins Go.Deep
set_option linter.unusedVariables false

theorem store4 {w : World} {B : Nat} {a0 a1 a2 a3 : Value} {t : TypeId} (h : At w B #[a0, a1, a2, a3] t) (x0 x1 x2 x3 : Value) : ((w).cell? ⟨B, 0, none⟩ = some a0 ∧ (w).frozen? ⟨B, 0, none⟩ = false) ∧ (((w.setCell ⟨B, 0, none⟩ x0)).cell? ⟨B, 1, none⟩ = some a1 ∧ ((w.setCell ⟨B, 0, none⟩ x0)).frozen? ⟨B, 1, none⟩ = false) ∧ ((((w.setCell ⟨B, 0, none⟩ x0).setCell ⟨B, 1, none⟩ x1)).cell? ⟨B, 2, none⟩ = some a2 ∧ (((w.setCell ⟨B, 0, none⟩ x0).setCell ⟨B, 1, none⟩ x1)).frozen? ⟨B, 2, none⟩ = false) ∧ (((((w.setCell ⟨B, 0, none⟩ x0).setCell ⟨B, 1, none⟩ x1).setCell ⟨B, 2, none⟩ x2)).cell? ⟨B, 3, none⟩ = some a3 ∧ ((((w.setCell ⟨B, 0, none⟩ x0).setCell ⟨B, 1, none⟩ x1).setCell ⟨B, 2, none⟩ x2)).frozen? ⟨B, 3, none⟩ = false) := by
  have s1 : At (w.setCell ⟨B, 0, none⟩ x0) B #[x0, a1, a2, a3] t := At.set h 0 x0 (by simp)
  have s2 : At ((w.setCell ⟨B, 0, none⟩ x0).setCell ⟨B, 1, none⟩ x1) B #[x0, x1, a2, a3] t := At.set s1 1 x1 (by simp)
  have s3 : At (((w.setCell ⟨B, 0, none⟩ x0).setCell ⟨B, 1, none⟩ x1).setCell ⟨B, 2, none⟩ x2) B #[x0, x1, x2, a3] t := At.set s2 2 x2 (by simp)
  have s4 : At ((((w.setCell ⟨B, 0, none⟩ x0).setCell ⟨B, 1, none⟩ x1).setCell ⟨B, 2, none⟩ x2).setCell ⟨B, 3, none⟩ x3) B #[x0, x1, x2, x3] t := At.set s3 3 x3 (by simp)
  exact ⟨⟨h.cell 0 rfl, At.free h 0⟩, ⟨s1.cell 1 rfl, At.free s1 1⟩, ⟨s2.cell 2 rfl, At.free s2 2⟩, ⟨s3.cell 3 rfl, At.free s3 3⟩⟩
theorem store4_at {w : World} {B : Nat} {a0 a1 a2 a3 : Value} {t : TypeId} (h : At w B #[a0, a1, a2, a3] t) (x0 x1 x2 x3 : Value) : At ((((w.setCell ⟨B, 0, none⟩ x0).setCell ⟨B, 1, none⟩ x1).setCell ⟨B, 2, none⟩ x2).setCell ⟨B, 3, none⟩ x3) B #[x0, x1, x2, x3] t := by
  have s1 : At (w.setCell ⟨B, 0, none⟩ x0) B #[x0, a1, a2, a3] t := At.set h 0 x0 (by simp)
  have s2 : At ((w.setCell ⟨B, 0, none⟩ x0).setCell ⟨B, 1, none⟩ x1) B #[x0, x1, a2, a3] t := At.set s1 1 x1 (by simp)
  have s3 : At (((w.setCell ⟨B, 0, none⟩ x0).setCell ⟨B, 1, none⟩ x1).setCell ⟨B, 2, none⟩ x2) B #[x0, x1, x2, a3] t := At.set s2 2 x2 (by simp)
  have s4 : At ((((w.setCell ⟨B, 0, none⟩ x0).setCell ⟨B, 1, none⟩ x1).setCell ⟨B, 2, none⟩ x2).setCell ⟨B, 3, none⟩ x3) B #[x0, x1, x2, x3] t := At.set s3 3 x3 (by simp)
  exact s4
theorem store4_below {C B : Nat} {w0 w : World} (hb : Below C w0 w) (hC : C ≤ B) (x0 x1 x2 x3 : Value) : Below C w0 ((((w.setCell ⟨B, 0, none⟩ x0).setCell ⟨B, 1, none⟩ x1).setCell ⟨B, 2, none⟩ x2).setCell ⟨B, 3, none⟩ x3) :=
  (((hb.setCell (p := ⟨B, 0, none⟩) hC x0).setCell (p := ⟨B, 1, none⟩) hC x1).setCell (p := ⟨B, 2, none⟩) hC x2).setCell (p := ⟨B, 3, none⟩) hC x3
set_option maxHeartbeats 800000 in
theorem all_any (rb : Nat) (big : Bool) (p : Int) (q : Option Addr) (len cap : Nat) (xs : List BY) (j : Nat) (hj : j = 0 ∨ j = 1 ∨ j = 2 ∨ j = 3) (hlx : xs.length ≤ 1000) (hlen : xs.length = len) (w : World) (h : RowDone w rb big p (.slice q len cap) xs) :
    Calls Try.prog 59 #[.pointer (some ⟨rb, 0, none⟩), .int .i64 (j : Nat)] w fun e w' => e = .returned (.bool (cntOf xs j == len)) ∧ Below w.heap.size w w' := by
  have cH := fun w h => flipC (has_again rb big p (.slice q len cap) xs j hj hlx w h)
  have r2 : w.cell? ⟨rb, 2, none⟩ = some (.slice q len cap) := (show RowN _ _ _ _ _ _ _ _ _ _ _ from h).at.cell 2 rfl
  generalize cntOf xs j = m at *
  have cH2 := fun n => cH (w.drewN n) (At.drewN h n)
  clear h hlx hlen hj
  go_enter Try.func59, Try.ntmps59
  go_wp2
  go_quiet ((go_at_call 33; exact Calls.quiet_of_same (cH2 _)))
  go_wp2
  go_ret
  exact ⟨ret_b (by rw [Bool.eq_iff_iff]; simp; omega), Joins.below_draws _ _ _⟩
def scA (s : SC) : Value := .agg #[.bool s.p, .int .i64 s.n, .int .i64 s.b, .int .i64 s.o]
def PtrPost (s : SC) (bad : Int) (w : World) (e : Ending) (w' : World) : Prop := e = .returned (.tuple #[scA s, .int .i64 bad]) ∧ Below w.heap.size w w'
/-- what a row is as a pointer -/
def ptrR (l : List BY) : SC × Int := if cntOf l 2 = l.length then (⟨true, 0, 0, 0⟩, 0) else if cntOf l 3 = l.length then (⟨true, 0, (hdY l).b, (hdY l).o⟩, 0) else (⟨false, 0, 0, 0⟩, 8)
set_option maxRecDepth 100000 in
set_option maxHeartbeats 1600000 in
theorem pointer_any (rb : Nat) (big : Bool) (p : Int) (q : Option Addr) (len cap : Nat) (xs : List BY) (hlx : len ≤ 1000) (hlen : xs.length = len) (h0 : 0 < len) (w0 w : World) (hx : IsBys w0 q len xs) (hb0 : Below w0.heap.size w0 w) (h : RowDone w rb big p (.slice q len cap) xs) :
    Calls Try.prog 34 #[.pointer (some ⟨rb, 0, none⟩)] w (PtrPost (ptrR xs).1 (ptrR xs).2 w) := by
  have hb1 := below_box1 w (.cells #[.bool false, .int .i64 0, .int .i64 0, .int .i64 0] 33)
  have dP := At.new w #[.bool false, .int .i64 0, .int .i64 0, .int .i64 0] 33
  have h1 : RowDone (w.alloc (.cells #[.bool false, .int .i64 0, .int .i64 0, .int .i64 0] 33)) rb big p (.slice q len cap) xs := At.alloc h _
  have cA2 := fun w h => all_any rb big p q len cap xs 2 (Or.inr (Or.inr (Or.inl rfl))) (by omega) hlen w h
  have cA3 := fun w h => all_any rb big p q len cap xs 3 (Or.inr (Or.inr (Or.inr rfl))) (by omega) hlen w h
  have cF := fun w (h : RowDone w rb big p (.slice q len cap) xs) hx => first_any rb big p q len cap 1 0 _ _ _ _ xs w h hx h0
  have hr : ptrR xs = if cntOf xs 2 = len then (⟨true, 0, 0, 0⟩, 0) else if cntOf xs 3 = len then (⟨true, 0, (hdY xs).b, (hdY xs).o⟩, 0) else (⟨false, 0, 0, 0⟩, 8) := by unfold ptrR; rw [hlen]
  have HR := Lib.hid hr
  have HX := Lib.hid hx
  have HL := Lib.hid hlen
  clear hr h hx hlen
  cases hq : (cntOf xs 2 == len)
  · cases hq3 : (cntOf xs 3 == len)
    · rw [hq] at cA2
      rw [hq3] at cA3
      have HE : Hid (ptrR xs = (⟨false, 0, 0, 0⟩, 8)) := Lib.hid (by rw [HR.out, if_neg (by simpa using hq), if_neg (by simpa using hq3)])
      clear hq hq3 HR
      go_enter Try.func34, Try.ntmps34
      go_wp2_with fail
      refine (cA2 _ h1).mono ?_
      rintro e w2 ⟨rfl, hb2⟩
      replace h1 : RowDone _ rb big p (.slice q len cap) xs := At.below' hb2 h1
      replace dP := At.below' hb2 dP
      replace hb1 := hb1.trans (hb2.mono hb1.size)
      clear hb2
      go_wp2_with fail
      refine (cA3 _ h1).mono ?_
      rintro e w3 ⟨rfl, hb2⟩
      replace dP := At.below' hb2 dP
      replace hb1 := hb1.trans (hb2.mono hb1.size)
      clear hb2 h1
      have st := store4 dP (.bool false) (.int .i64 0) (.int .i64 0) (.int .i64 0)
      have E1 := store4_at dP (.bool false) (.int .i64 0) (.int .i64 0) (.int .i64 0)
      have E2 := store4_below hb1 (Nat.le_refl _) (.bool false) (.int .i64 0) (.int .i64 0) (.int .i64 0)
      clear dP hb1
      go_wp2_with fail
      generalize ((((w3.setCell ⟨w.heap.size, 0, none⟩ (.bool false)).setCell ⟨w.heap.size, 1, none⟩ (.int .i64 0)).setCell ⟨w.heap.size, 2, none⟩ (.int .i64 0)).setCell ⟨w.heap.size, 3, none⟩ (.int .i64 0)) = wz at E1 E2 ⊢
      have g0 : wz.cell? ⟨w.heap.size, 0, none⟩ = some (.bool false) := E1.cell 0 rfl
      have g1 : wz.cell? ⟨w.heap.size, 1, none⟩ = some (.int .i64 0) := E1.cell 1 rfl
      have g2 : wz.cell? ⟨w.heap.size, 2, none⟩ = some (.int .i64 0) := E1.cell 2 rfl
      have g3 : wz.cell? ⟨w.heap.size, 3, none⟩ = some (.int .i64 0) := E1.cell 3 rfl
      exact bodyPost_ret (v := .tuple #[.agg #[.bool false, .int .i64 0, .int .i64 0, .int .i64 0], .int .i64 8]) (by simp [results, Try.results34, go_sem, g0, g1, g2, g3]) rfl ⟨by rw [HE.out]; rfl, E2⟩
    · rw [hq] at cA2
      rw [hq3] at cA3
      have HE : Hid (ptrR xs = (⟨true, 0, (hdY xs).b, (hdY xs).o⟩, 0)) := Lib.hid (by rw [HR.out, if_neg (by simpa using hq), if_pos (by simpa using hq3)])
      generalize (hdY xs).b = fb at *
      generalize (hdY xs).o = fo at *
      clear hq hq3 HR
      go_enter Try.func34, Try.ntmps34
      go_wp2_with fail
      refine (cA2 _ h1).mono ?_
      rintro e w2 ⟨rfl, hb2⟩
      replace h1 : RowDone _ rb big p (.slice q len cap) xs := At.below' hb2 h1
      replace dP := At.below' hb2 dP
      replace hb1 := hb1.trans (hb2.mono hb1.size)
      clear hb2
      go_wp2_with fail
      refine (cA3 _ h1).mono ?_
      rintro e w3 ⟨rfl, hb2⟩
      replace h1 : RowDone _ rb big p (.slice q len cap) xs := At.below' hb2 h1
      replace dP := At.below' hb2 dP
      replace hb1 := hb1.trans (hb2.mono hb1.size)
      clear hb2
      go_wp2_with fail
      refine (cF _ h1 (HX.out.below (hb0.trans (hb1.mono hb0.size)))).mono ?_
      rintro e w4 ⟨rfl, hb2⟩
      replace dP := At.below' hb2 dP
      replace hb1 := hb1.trans (hb2.mono hb1.size)
      clear hb2 h1
      have st := store4 dP (.bool true) (.int .i64 0) (.int .i64 fb) (.int .i64 fo)
      have E1 := store4_at dP (.bool true) (.int .i64 0) (.int .i64 fb) (.int .i64 fo)
      have E2 := store4_below hb1 (Nat.le_refl _) (.bool true) (.int .i64 0) (.int .i64 fb) (.int .i64 fo)
      clear dP hb1
      go_wp2_with fail
      generalize ((((w4.setCell ⟨w.heap.size, 0, none⟩ (.bool true)).setCell ⟨w.heap.size, 1, none⟩ (.int .i64 0)).setCell ⟨w.heap.size, 2, none⟩ (.int .i64 fb)).setCell ⟨w.heap.size, 3, none⟩ (.int .i64 fo)) = wz at E1 E2 ⊢
      have g0 : wz.cell? ⟨w.heap.size, 0, none⟩ = some (.bool true) := E1.cell 0 rfl
      have g1 : wz.cell? ⟨w.heap.size, 1, none⟩ = some (.int .i64 0) := E1.cell 1 rfl
      have g2 : wz.cell? ⟨w.heap.size, 2, none⟩ = some (.int .i64 fb) := E1.cell 2 rfl
      have g3 : wz.cell? ⟨w.heap.size, 3, none⟩ = some (.int .i64 fo) := E1.cell 3 rfl
      exact bodyPost_ret (v := .tuple #[.agg #[.bool true, .int .i64 0, .int .i64 fb, .int .i64 fo], .int .i64 0]) (by simp [results, Try.results34, go_sem, g0, g1, g2, g3]) rfl ⟨by rw [HE.out]; rfl, E2⟩
  · rw [hq] at cA2
    have HE : Hid (ptrR xs = (⟨true, 0, 0, 0⟩, 0)) := Lib.hid (by rw [HR.out, if_pos (by simpa using hq)])
    clear hq HR
    go_enter Try.func34, Try.ntmps34
    go_wp2_with fail
    refine (cA2 _ h1).mono ?_
    rintro e w2 ⟨rfl, hb2⟩
    replace dP := At.below' hb2 dP
    replace hb1 := hb1.trans (hb2.mono hb1.size)
    clear hb2 h1
    have st := store4 dP (.bool true) (.int .i64 0) (.int .i64 0) (.int .i64 0)
    have E1 := store4_at dP (.bool true) (.int .i64 0) (.int .i64 0) (.int .i64 0)
    have E2 := store4_below hb1 (Nat.le_refl _) (.bool true) (.int .i64 0) (.int .i64 0) (.int .i64 0)
    clear dP hb1
    go_wp2_with fail
    generalize ((((w2.setCell ⟨w.heap.size, 0, none⟩ (.bool true)).setCell ⟨w.heap.size, 1, none⟩ (.int .i64 0)).setCell ⟨w.heap.size, 2, none⟩ (.int .i64 0)).setCell ⟨w.heap.size, 3, none⟩ (.int .i64 0)) = wz at E1 E2 ⊢
    have g0 : wz.cell? ⟨w.heap.size, 0, none⟩ = some (.bool true) := E1.cell 0 rfl
    have g1 : wz.cell? ⟨w.heap.size, 1, none⟩ = some (.int .i64 0) := E1.cell 1 rfl
    have g2 : wz.cell? ⟨w.heap.size, 2, none⟩ = some (.int .i64 0) := E1.cell 2 rfl
    have g3 : wz.cell? ⟨w.heap.size, 3, none⟩ = some (.int .i64 0) := E1.cell 3 rfl
    exact bodyPost_ret (v := .tuple #[.agg #[.bool true, .int .i64 0, .int .i64 0, .int .i64 0], .int .i64 0]) (by simp [results, Try.results34, go_sem, g0, g1, g2, g3]) rfl ⟨by rw [HE.out]; rfl, E2⟩
end Go.Proofs.Ytnhbaigagphpmaa
