/- TreeErrors: the statement's walk. -/
import Derived.Test.YtkhklndmbfbnoaaGreatDoorTWk
import Derived.Test.YtkhklndmbfbnoaaGreatDoorQParseC
namespace Go.Proofs.YtkhklndmbfbnoaaGreatDoor
open Go.ChangeShapes Go.WideShapes Go.ChangeAt Go.RowKit Go.Joins Go.Deep
set_option linter.unusedVariables false

/-- texts that are nearly programs -/
def errT : List Tx := [[], [118, 97, 114], [118, 97, 114, 32, 97], [118, 97, 114, 32, 97, 58], [118, 97, 114, 32, 97, 58, 117, 56], [118, 97, 114, 32, 97, 58, 117, 56, 59, 118, 97, 114], [118, 97, 114, 32, 105, 102, 58, 117, 56, 59], [118, 97, 114, 32, 97, 58, 115, 116, 114, 117, 99, 116, 123, 125, 59], [118, 97, 114, 32, 97, 58, 115, 116, 114, 117, 99, 116, 123, 98, 58, 117, 56, 59], [118, 97, 114, 32, 97, 58, 117, 56, 91, 59], [118, 97, 114, 32, 97, 58, 117, 56, 91, 120, 93, 59], [97], [97, 61], [97, 61, 49, 59], [97, 61, 49, 58, 59], [97, 61, 49, 58, 112, 116, 114, 59], [97, 61, 40, 49, 58, 117, 56, 41, 59], [97, 61, 40, 49, 58, 117, 56, 43, 41, 59], [97, 61, 40, 49, 58, 117, 56, 33, 50, 58, 117, 56, 41, 59], [97, 61, 117, 56, 32, 49, 58, 117, 56, 59], [97, 61, 112, 116, 114, 40, 49, 58, 117, 56, 41, 59], [42, 117, 56, 32, 97, 61, 49, 58, 117, 56, 59], [42, 117, 56, 40, 38, 97, 41, 61, 49, 58, 117, 56, 59], [42, 112, 116, 114, 40, 38, 97, 41, 61, 38, 98, 59], [97, 46, 98, 91, 49, 58, 105, 51, 50, 93, 46, 99, 61, 97, 59], [97, 46, 61, 49, 58, 117, 56, 59], [97, 91, 61, 49, 58, 117, 56, 59], [114, 101, 97, 100, 59], [114, 101, 97, 100, 32, 97], [110, 101, 119, 32, 97, 59], [110, 101, 119, 32, 97, 44, 120, 59], [102, 114, 101, 101, 59], [115, 116, 111, 112], [105, 102, 123, 125], [105, 102, 32, 49, 58, 105, 51, 50], [105, 102, 32, 49, 58, 105, 51, 50, 123], [105, 102, 32, 49, 58, 105, 51, 50, 123, 125, 101, 108, 115, 101], [105, 102, 32, 49, 58, 105, 51, 50, 123, 125, 101, 108, 115, 101, 123, 125], [101, 108, 115, 101, 123, 125], [119, 104, 105, 108, 101, 32, 49, 58, 105, 51, 50, 123, 115, 116, 111, 112, 59, 125], [123, 115, 116, 111, 112, 59, 125], [97, 61, 38, 59], [97, 61, 38, 42, 117, 56, 40, 98, 41, 59], [97, 61, 33, 45, 126, 98, 59], [97, 61, 61, 98, 59], [115, 116, 111, 112, 59, 59], [115, 116, 111, 112, 59, 118, 97, 114, 32, 97, 58, 117, 56, 59], [97, 61, 62, 98, 59], [97, 61, 40, 98, 60, 60, 99, 41, 59], [97, 61, 40, 98, 62, 99, 41, 59]]
theorem errT_len : errT.length = 50 := by decide
theorem errT_short : (errT.all fun t => decide (t.length ≤ 100)) = true := by decide +kernel
def RelE (w : World) (D : Nat) (v : Value) (wr : World) : Prop := ∃ i : Nat, i ≤ 50 ∧ v = .int .i64 (i : Nat) ∧ Below w.heap.size w wr ∧ At wr D (errT.map txV).toArray 9
set_option maxRecDepth 1000000 in
set_option maxHeartbeats 3200000 in
theorem treeErrors_any (c0 c1 : Value) (qT : Option Addr) (lT cT : Nat) (w0 : World) (htab : Tab w0) :
    Calls Tryz.prog 7 #[.agg #[c0, c1, .slice qT lT cT]] w0 fun e w' => e = .returned (.bool true) ∧ Below w0.heap.size w0 w' := by
  have cP := fun (t : Tx) (ht : t.length ≤ 100) w => parse_any ⟨t.toArray⟩ (by show t.toArray.size ≤ _; rw [List.size_toArray]; unfold maxLen; omega) w
  have cR := fun (t : Tx) (ht : t.length ≤ 100) w => rparse_any ⟨t.toArray⟩ (by show t.toArray.size ≤ _; rw [List.size_toArray]; omega) w
  have cM := fun n w => num11_any n w
  unfold PPost at cP cR
  have hb1 : Below w0.heap.size w0 (w0.alloc (.cells #[c0, c1, .slice qT lT cT] 28)) := boxT w0 _
  have hb2 : Below w0.heap.size w0 ((w0.alloc (.cells #[c0, c1, .slice qT lT cT] 28)).alloc (.cells (errT.map txV).toArray 9)) := hb1.trans ((boxT _ _).mono hb1.size)
  have hA := At.new (w0.alloc (.cells #[c0, c1, .slice qT lT cT] 28)) (errT.map txV).toArray 9
  have hB := At.alloc (At.new w0 #[c0, c1, .slice qT lT cT] 28) (.cells (errT.map txV).toArray 9)
  have b2 : ((w0.alloc (.cells #[c0, c1, .slice qT lT cT] 28)).alloc (.cells (errT.map txV).toArray 9)).cell? ⟨w0.heap.size, 2, none⟩ = some (.slice qT lT cT) := hB.cell 2 rfl
  have hT := htab.below hb2
  have hsz : (w0.alloc (.cells #[c0, c1, .slice qT lT cT] 28)).heap.size = w0.heap.size + 1 := by simp
  rw [hsz] at hA
  obtain ⟨w, hw⟩ : ∃ w, w = (w0.alloc (.cells #[c0, c1, .slice qT lT cT] 28)).alloc (.cells (errT.map txV).toArray 9) := ⟨_, rfl⟩
  rw [← hw] at hb2 hA b2 hT
  have HB := Lib.hid (And.intro hb2 hT)
  clear hb1 hb2 hB hT htab hsz
  go_enter Tryz.func7, Tryz.ntmps7
  go_upto_region 2 with (fail)
  change Code.wp _ _ _ _ ((w0.alloc (.cells #[c0, c1, .slice qT lT cT] 28)).alloc (.cells (errT.map txV).toArray 9))
  rw [← hw]
  clear hw
  have HA := Lib.hid hA
  generalize hBx : w0.heap.size = B at *
  have HBx := Lib.hid hBx
  clear hA hBx
  go_wp2_with fail
  go_loopw [4] (fun v wr => RelE w (B + 1) v wr) (fun v _ => 50 - (intOf v).toNat)
  case atStart => exact ⟨0, by omega, rfl, Below.refl _ _, HA.out⟩
  case round =>
    obtain ⟨i, hi, rfl, hbr, hAr⟩ := hrel
    by_cases hlt : i < 50
    · obtain ⟨t, ht⟩ : ∃ t, t = errT.getD i [] := ⟨_, rfl⟩
      have hie : i < errT.length := by rw [errT_len]; exact hlt
      have htl : t.length ≤ 100 := by
        have := List.all_eq_true.1 errT_short t (by rw [ht, List.getD_eq_getElem?_getD, List.getElem?_eq_getElem hie]; exact List.getElem_mem hie)
        simpa using this
      have c1t : wr.cell? ⟨B + 1, i, none⟩ = some (txV t) := hAr.cell i (by rw [ht, List.getElem?_toArray, List.getElem?_map, List.getD_eq_getElem?_getD, List.getElem?_eq_getElem hie]; rfl)
      have hj3 : (i : Int) < (50 : Int) := by omega
      have c1 := cP t htl
      have c2 := cR t htl
      generalize parseR t = pr at *
      obtain ⟨pX, pa, pe⟩ := pr
      dsimp only at c1 c2
      have HR := Lib.hid hAr
      clear cP cR ht hie htl hAr b2
      go_wp2_with fail
      refine (c1 _).mono ?_
      rintro e w2 ⟨tv, X, rfl, hR, hX, hb2⟩
      have c1t2 := cell_below c1t hb2
      clear c1 c1t
      go_wp2_with fail
      refine (c2 _).mono ?_
      rintro e w3 ⟨tv2, Y, rfl, hR2, hY, hb3⟩
      have cE := eqNodes_same tv tv2 X Y (hX.trans hY.symm) w3 (hR.nds.below hb3) hR2.nds
      have hb23 := hb2.trans (hb3.mono hb2.size)
      have H23 := Lib.hid hb23
      clear c2 c1t2 hR hR2 hb2 hb3 hb23 hX hY
      go_wp2_with (go_at_call 13; (with_reducible refine (cM _ _).mono ?_); rintro e w' ⟨rfl, rfl⟩)
      refine cE.mono ?_
      rintro e w4 ⟨rfl, hb4⟩
      have H4 := Lib.hid (H23.out.trans (hb4.mono H23.out.size))
      clear cE hb4
      go_wp2_with fail
      go_roundw
      case rel => exact ⟨i + 1, by omega, by go_num, hbr.trans (H4.out.mono hbr.size), At.below' H4.out HR.out⟩
      case measure => simp [intOf]; omega
    · obtain rfl : i = 50 := by omega
      have b3 := cell_below b2 hbr
      have cW := wakes11_any wr (HB.out.2.below hbr)
      have hge : (0 : Int) ≤ (lT : Int) := by omega
      have HH := Lib.hid hbr
      clear cP cR b2 hAr hbr
      go_wp2_with fail
      refine cW.mono ?_
      rintro e w2 ⟨rfl, hb2⟩
      have FIN : Hid (Below w0.heap.size w0 w2) := Lib.hid (by have h1 : Below B w0 w := HB.out.1; rw [HBx.out]; exact h1.trans ((HH.out.trans (hb2.mono HH.out.size)).mono (by rw [← HBx.out]; exact h1.size)))
      clear cW b3 hb2
      go_wp2_with fail
      go_ret
      exact ⟨rfl, FIN.out⟩
end Go.Proofs.YtkhklndmbfbnoaaGreatDoor
