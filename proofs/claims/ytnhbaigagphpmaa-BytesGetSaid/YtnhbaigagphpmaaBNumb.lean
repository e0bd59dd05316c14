/- Package bytes: what a row is as a number. -/
import Derived.Test.YtnhbaigagphpmaaBGet1
import Derived.Deep.Cut
import Derived.Deep.CutRange
import Derived.Deep.RegionHeld3
import Derived.Deep.RegionLaw
namespace Go.Proofs.Ytnhbaigagphpmaa
open Go.ChangeShapes Go.WideShapes Go.ChangeAt Go.RowKit Go.Joins Go.Deep
set_option linter.unusedVariables false

theorem shl_by (n : Int) (h : 0 ≤ n ∧ n ≤ 255) (u : Nat) (hu : u = 0 ∨ u = 8 ∨ u = 16 ∨ u = 24) (w : World) : (binOp .shl 3 (.int .i64 n) (.int .i64 (u : Nat))).run Try.prog w = .ok (.int .i64 (n * 2 ^ u)) w := by
  obtain ⟨h1, h2⟩ := h
  rcases hu with rfl | rfl | rfl | rfl <;> simp [go_sem] <;> (rw [IntKind.wrap_i64]; omega)
theorem term_bd (n : Int) (h : 0 ≤ n ∧ n ≤ 255) (u : Nat) (hu : u = 0 ∨ u = 8 ∨ u = 16 ∨ u = 24) : 0 ≤ n * 2 ^ u ∧ n * 2 ^ u ≤ 4278190080 := by
  rcases hu with rfl | rfl | rfl | rfl <;> constructor <;> omega
theorem sum_bd (big : Bool) (n : Nat) (hn : n = 1 ∨ n = 2 ∨ n = 4) (l : List BY) (h : InB l) : ∀ j, j ≤ n → 0 ≤ sumI big n l j ∧ sumI big n l j ≤ j * 4278190080 := by
  intro j
  induction j with
  | zero => intro _; simp [sumI]
  | succ j ih =>
    intro hj
    have h1 := ih (by omega)
    have h2 := term_bd _ (h j) _ (wtN_cases big n j hn (by omega))
    simp only [sumI]
    omega
/-- what a row is as a number -/
def numR (big : Bool) (l : List BY) : SC × Int := if 0 < cntOf l 1 then (⟨false, 0, 0, 0⟩, 8) else (⟨false, sumI big l.length l l.length, 0, 0⟩, 0)
def RelNum (rb P : Nat) (big : Bool) (p : Int) (sl : Value) (xs : List BY) (len : Nat) (w0 : World) (v : Value) (wr : World) : Prop :=
  ∃ j : Nat, j ≤ len ∧ v = .int .i64 (j : Nat) ∧ At wr P #[.bool false, .int .i64 (sumI big len xs j), .int .i64 0, .int .i64 0] 33 ∧ RowDone wr rb big p sl xs ∧ Below w0.heap.size w0 wr
set_option maxRecDepth 100000 in
set_option maxHeartbeats 3200000 in
theorem number_any (rb : Nat) (big : Bool) (p : Int) (q : Option Addr) (len cap : Nat) (xs : List BY) (hn : len = 1 ∨ len = 2 ∨ len = 4) (hin : InB xs) (w0 w : World) (hx : IsBys w0 q len xs) (hb0 : Below w0.heap.size w0 w) (h : RowDone w rb big p (.slice q len cap) xs) :
    Calls Try.prog 35 #[.pointer (some ⟨rb, 0, none⟩)] w (PtrPost (numR big xs).1 (numR big xs).2 w) := by
  have hlen := hx.2.1
  have hb1 := below_box1 w (.cells #[.bool false, .int .i64 0, .int .i64 0, .int .i64 0] 33)
  have dP := At.new w #[.bool false, .int .i64 0, .int .i64 0, .int .i64 0] 33
  have h1 : RowDone (w.alloc (.cells #[.bool false, .int .i64 0, .int .i64 0, .int .i64 0] 33)) rb big p (.slice q len cap) xs := At.alloc h _
  have cH := fun w h => has_again rb big p (.slice q len cap) xs 1 (Or.inr (Or.inl rfl)) (by omega) w h
  have hrl : rb < w.heap.size := At.lt h
  by_cases hq : 0 < cntOf xs 1
  · have HE : Hid (numR big xs = (⟨false, 0, 0, 0⟩, 8)) := Lib.hid (by unfold numR; rw [if_pos hq])
    have hq2 : (0 : Int) < (cntOf xs 1 : Int) := by omega
    generalize cntOf xs 1 = m at *
    have t0 : decide ((0 : Int) < (m : Int)) = true := by simpa using hq
    clear hlen hx hb0 h hrl hin hn
    go_enter Try.func35, Try.ntmps35
    go_wp2_with fail
    refine (cH _ h1).mono ?_
    rintro e w2 ⟨rfl, rfl⟩
    have st := store4 dP (.bool false) (.int .i64 0) (.int .i64 0) (.int .i64 0)
    have E1 := store4_at dP (.bool false) (.int .i64 0) (.int .i64 0) (.int .i64 0)
    have E2 := store4_below hb1 (Nat.le_refl _) (.bool false) (.int .i64 0) (.int .i64 0) (.int .i64 0)
    generalize (w.alloc (.cells #[.bool false, .int .i64 0, .int .i64 0, .int .i64 0] 33)) = w2 at *
    clear dP hb1 h1
    go_wp2_with fail
    generalize ((((w2.setCell ⟨w.heap.size, 0, none⟩ (.bool false)).setCell ⟨w.heap.size, 1, none⟩ (.int .i64 0)).setCell ⟨w.heap.size, 2, none⟩ (.int .i64 0)).setCell ⟨w.heap.size, 3, none⟩ (.int .i64 0)) = wz at E1 E2 ⊢
    have g0 : wz.cell? ⟨w.heap.size, 0, none⟩ = some (.bool false) := E1.cell 0 rfl
    have g1 : wz.cell? ⟨w.heap.size, 1, none⟩ = some (.int .i64 0) := E1.cell 1 rfl
    have g2 : wz.cell? ⟨w.heap.size, 2, none⟩ = some (.int .i64 0) := E1.cell 2 rfl
    have g3 : wz.cell? ⟨w.heap.size, 3, none⟩ = some (.int .i64 0) := E1.cell 3 rfl
    exact bodyPost_ret (v := .tuple #[.agg #[.bool false, .int .i64 0, .int .i64 0, .int .i64 0], .int .i64 8]) (by simp [results, Try.results35, go_sem, g0, g1, g2, g3]) rfl ⟨by rw [HE.out]; rfl, E2⟩
  · have HE : Hid (numR big xs = (⟨false, sumI big len xs len, 0, 0⟩, 0)) := Lib.hid (by unfold numR; rw [if_neg hq, hlen])
    have hm0 : cntOf xs 1 = 0 := by omega
    rw [hm0] at cH
    have hsb := fun j hj => sum_bd big len hn xs hin j hj
    have HW := Lib.hid (fun j hj => wtN_cases big len j hn hj)
    have cW := fun j hj w => weight_any big p len j hn hj w
    have HX := Lib.hid hx
    have hxc := hx.2.2
    have hl4 : len ≤ 4 := by omega
    have HL := Lib.hid hlen
    have hin' := Lib.hid hin
    have hP : w.heap.size = w.heap.size := rfl
    have h2 : (w.alloc (.cells #[.bool false, .int .i64 0, .int .i64 0, .int .i64 0] 33)).cell? ⟨rb, 2, none⟩ = some (.slice q len cap) := (show RowN _ _ _ _ _ _ _ _ _ _ _ from h1).at.cell 2 rfl
    clear hlen hx h hn hm0 hq hin hP
    go_enter Try.func35, Try.ntmps35
    go_wp2_with fail
    refine (cH _ h1).mono ?_
    rintro e w2 ⟨rfl, rfl⟩
    generalize (w.alloc (.cells #[.bool false, .int .i64 0, .int .i64 0, .int .i64 0] 33)) = w2 at *
    have DP := Lib.hid dP
    have H1 := Lib.hid h1
    have HB := Lib.hid hb1
    clear dP h1 hb1 cH
    go_wp2_with fail
    go_loopw [15] (fun v wr => RelNum rb w.heap.size big p (.slice q len cap) xs len w v wr) (fun v _ => len - (intOf v).toNat)
    case atStart => exact ⟨0, by omega, rfl, DP.out, H1.out, HB.out⟩
    case round =>
      clear h2 DP H1 HB
      obtain ⟨j, hj, rfl, dP, hr, hbr⟩ := hrel
      by_cases hlt : j < len
      · obtain ⟨b, off, rfl, hbb, hcells⟩ := hxc (by omega)
        have hP0 := At.lt dP
        have hcj := (hcells j hlt).below (hb0.trans (hbr.mono hb0.size))
        have hu := HW.out j hlt
        have cV := fun w => cW j hlt w
        have hS := hsb j hj
        have hni := hin'.out j
        have hS1 : sumI big len xs (j + 1) = sumI big len xs j + (xs.getD j default).n * 2 ^ wtN big len j := rfl
        obtain ⟨x, hx⟩ : ∃ x, x = xs.getD j default := ⟨_, rfl⟩
        rw [← hx] at hcj hni hS1
        obtain ⟨s, n, bb, o, i⟩ := x
        obtain ⟨p0, p1, p2, p3, p4⟩ := hcj
        dsimp only at p0 p1 p2 p3 p4 hni hS1
        generalize wtN big len j = u at *
        have hmb := term_bd n hni u hu
        generalize sumI big len xs j = S at *
        have iw : IntKind.i64.wrap (S + IntKind.i64.wrap (n * 2 ^ min u 64)) = S + n * 2 ^ u := by
          have e : min u 64 = u := by omega
          rw [e]
          generalize n * 2 ^ u = m at *
          rw [IntKind.wrap_i64, IntKind.wrap_i64]; omega
        rw [← iw] at hS1
        have HS1 := Lib.hid hS1
        have hj3 : (j : Int) < (len : Int) := by omega
        have dX := At.new wr #[.int .i64 s, .int .i64 n, .int .i64 bb, .int .i64 o, .int .i64 i] 67
        replace dP := At.alloc dP (.cells #[.int .i64 s, .int .i64 n, .int .i64 bb, .int .i64 o, .int .i64 i] 67)
        have hrs := hbr.size
        have hPl : w.heap.size < wr.heap.size := hP0
        have hr : RowDone (wr.alloc (.cells #[.int .i64 s, .int .i64 n, .int .i64 bb, .int .i64 o, .int .i64 i] 67)) rb big p (.slice (some ⟨b, off, none⟩) len cap) xs := At.alloc hr _
        replace hbr := hbr.alloc hbr.size (.cells #[.int .i64 s, .int .i64 n, .int .i64 bb, .int .i64 o, .int .i64 i] 67)
        have DR := Lib.hid hr
        have DP := Lib.hid dP
        have DX := Lib.hid dX
        have HBR := Lib.hid hbr
        clear iw hmb hcells hx hS1 hu hxc hsb cW hr dP dX hbr hb0
        go_upto_region 6 with (fail)
        generalize (wr.alloc (.cells #[.int .i64 s, .int .i64 n, .int .i64 bb, .int .i64 o, .int .i64 i] 67)) = wy at DR DP DX HBR ⊢
        clear p0 p1 p2 p3 p4
        have sN : wy.cell? ⟨w.heap.size, 1, none⟩ = some (.int .i64 S) := DP.out.cell 1 rfl
        have xN : wy.cell? ⟨wr.heap.size, 1, none⟩ = some (.int .i64 n) := DX.out.cell 1 rfl
        have r0 : wy.cell? ⟨rb, 0, none⟩ = some (.bool big) := (show RowN _ _ _ _ _ _ _ _ _ _ _ from DR.out).at.cell 0 rfl
        have r1 : wy.cell? ⟨rb, 1, none⟩ = some (.int .i64 p) := (show RowN _ _ _ _ _ _ _ _ _ _ _ from DR.out).at.cell 1 rfl
        have r2 : wy.cell? ⟨rb, 2, none⟩ = some (.slice (some ⟨b, off, none⟩) len cap) := (show RowN _ _ _ _ _ _ _ _ _ _ _ from DR.out).at.cell 2 rfl
        have hys := HBR.out.size
        have hrP : rb ≠ w.heap.size := by omega
        go_region_law
          ((go_simp
            go_at_call 61
            (with_reducible refine (cV _).mono ?_)
            rintro e wv ⟨rfl, hb5⟩
            have DP5 := Lib.hid (At.below' hb5 DP.out.drew)
            have DX5 := Lib.hid (At.below' hb5 DX.out.drew)
            have DR5 : Hid (RowDone wv rb big p (.slice (some ⟨b, off, none⟩) len cap) xs) := Lib.hid (At.below' hb5 (At.drew DR.out))
            have HBR5 := Lib.hid (HBR.out.drew.trans (hb5.mono hys))
            have t1 : wv.cell? ⟨w.heap.size, 1, none⟩ = some (.int .i64 S) := DP5.out.cell 1 rfl
            have t2 : wv.cell? ⟨wr.heap.size, 1, none⟩ = some (.int .i64 n) := DX5.out.cell 1 rfl
            have t3 := At.free DP5.out 1))
        all_goals
          have F1 := Lib.hid (At.set DP5.out 1 (.int .i64 (IntKind.i64.wrap (S + IntKind.i64.wrap (n * 2 ^ min u 64)))) (by simp))
          have F4 := Lib.hid (HBR5.out.setCell (p := ⟨w.heap.size, 1, none⟩) (Nat.le_refl _) (.int .i64 (IntKind.i64.wrap (S + IntKind.i64.wrap (n * 2 ^ min u 64)))))
          have F2 : Hid (RowDone (wv.setCell ⟨w.heap.size, 1, none⟩ (.int .i64 (IntKind.i64.wrap (S + IntKind.i64.wrap (n * 2 ^ min u 64))))) rb big p (.slice (some ⟨b, off, none⟩) len cap) xs) := Lib.hid (At.below DR5.out ((Below.refl w.heap.size wv).setCell (p := ⟨w.heap.size, 1, none⟩) (Nat.le_refl _) (.int .i64 (IntKind.i64.wrap (S + IntKind.i64.wrap (n * 2 ^ min u 64))))) hrl)
          generalize wv.setCell ⟨w.heap.size, 1, none⟩ (.int .i64 (IntKind.i64.wrap (S + IntKind.i64.wrap (n * 2 ^ min u 64)))) = wz at F1 F2 F4 ⊢
          go_wp2
          go_roundw
          case rel => exact ⟨j + 1, by omega, by go_num, by rw [HS1.out]; exact F1.out, F2.out, F4.out⟩
          case measure => simp [intOf]; omega
      · obtain rfl : j = len := by omega
        have g0 : wr.cell? ⟨w.heap.size, 0, none⟩ = some (.bool false) := dP.cell 0 rfl
        have g1 : wr.cell? ⟨w.heap.size, 1, none⟩ = some (.int .i64 (sumI big j xs j)) := dP.cell 1 rfl
        have g2 : wr.cell? ⟨w.heap.size, 2, none⟩ = some (.int .i64 0) := dP.cell 2 rfl
        have g3 : wr.cell? ⟨w.heap.size, 3, none⟩ = some (.int .i64 0) := dP.cell 3 rfl
        generalize sumI big j xs j = S at *
        have st := store4 dP (.bool false) (.int .i64 S) (.int .i64 0) (.int .i64 0)
        have E1 := store4_at dP (.bool false) (.int .i64 S) (.int .i64 0) (.int .i64 0)
        have E2 := store4_below hbr (Nat.le_refl _) (.bool false) (.int .i64 S) (.int .i64 0) (.int .i64 0)
        clear dP hbr hr
        go_wp2_with fail
        clear g0 g1 g2 g3
        generalize ((((wr.setCell ⟨w.heap.size, 0, none⟩ (.bool false)).setCell ⟨w.heap.size, 1, none⟩ (.int .i64 S)).setCell ⟨w.heap.size, 2, none⟩ (.int .i64 0)).setCell ⟨w.heap.size, 3, none⟩ (.int .i64 0)) = wz at E1 E2 ⊢
        have g0 : wz.cell? ⟨w.heap.size, 0, none⟩ = some (.bool false) := E1.cell 0 rfl
        have g1 : wz.cell? ⟨w.heap.size, 1, none⟩ = some (.int .i64 S) := E1.cell 1 rfl
        have g2 : wz.cell? ⟨w.heap.size, 2, none⟩ = some (.int .i64 0) := E1.cell 2 rfl
        have g3 : wz.cell? ⟨w.heap.size, 3, none⟩ = some (.int .i64 0) := E1.cell 3 rfl
        exact bodyPost_ret (v := .tuple #[.agg #[.bool false, .int .i64 S, .int .i64 0, .int .i64 0], .int .i64 0]) (by simp [results, Try.results35, go_sem, g0, g1, g2, g3]) rfl ⟨by rw [HE.out]; rfl, E2⟩
end Go.Proofs.Ytnhbaigagphpmaa
