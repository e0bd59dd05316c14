/- MemOver: its walk. -/
import Derived.Test.YtoooddjlgbflfaaKOver0
namespace Go.Proofs.Ytoooddjlgbflfaa
open Go.ChangeShapes Go.WideShapes Go.ChangeAt Go.RowKit Go.Joins Go.Deep
set_option linter.unusedVariables false

theorem scV_pt (b o : Int) : scV (pt b o) = .agg #[.bool true, .int .i64 0, .int .i64 b, .int .i64 o] := rfl
theorem scV_one1 : scV one1 = .agg #[.bool false, .int .i64 1, .int .i64 0, .int .i64 0] := rfl
theorem scV_nul : scV nul = .agg #[.bool true, .int .i64 0, .int .i64 0, .int .i64 0] := rfl
def zer8 : List BY := List.replicate 8 default
def RelOv (w0 : World) (v : Value) (wr : World) : Prop := ∃ q : Nat, q ≤ 4 ∧ v = .int .i64 (q : Nat) ∧ Below w0.heap.size w0 wr
theorem below_box5 (w : World) (a b c d e : Obj) : Below w.heap.size w (((((w.alloc a).alloc b).alloc c).alloc d).alloc e) := ((below_box3 w a b c).alloc (by simp; omega) d).alloc (by simp; omega) e
theorem at3 {w : World} {cs : Array Value} {t : TypeId} (a b c : Obj) : At ((((w.alloc a).alloc b).alloc c).alloc (.cells cs t)) (w.heap.size + 3) cs t := by simpa using At.new (((w.alloc a).alloc b).alloc c) cs t
theorem at4 {w : World} {cs : Array Value} {t : TypeId} (a b c d : Obj) : At (((((w.alloc a).alloc b).alloc c).alloc d).alloc (.cells cs t)) (w.heap.size + 4) cs t := by simpa using At.new ((((w.alloc a).alloc b).alloc c).alloc d) cs t
set_option maxRecDepth 100000 in
set_option maxHeartbeats 12800000 in
theorem over_any (pm ps pn pa : Option Addr) (lm cm ls cs ln cn la ca : Nat) (hn : ln ≤ 140737488355328) (w : World) :
    Calls Try.prog 8 #[.agg #[.slice pm lm cm, .slice ps ls cs, .slice pn ln cn, .slice pa la ca]] w fun e w' => e = .returned (.bool true) ∧ Below w.heap.size w w' := by
  have dK := At.new w #[.slice pm lm cm, .slice ps ls cs, .slice pn ln cn, .slice pa la ca] 55
  have hb0 := below_box1 w (.cells #[.slice pm lm cm, .slice ps ls cs, .slice pn ln cn, .slice pa la ca] 55)
  have cM : ∀ w, (Instr.makeSlice 24 (.int .i64 8) (.int .i64 8)).run Try.prog w = .ok (.slice (some ⟨w.heap.size, 0, none⟩) 8 8) (w.alloc (.cells (byC zer8) 51)) := fun w => make_by8 8 (Or.inr rfl) w
  have cN := fun x w => num9_any x w
  have cW := fun w => wakes9_any w
  obtain ⟨t5, ht5⟩ : ∃ t5, t5 = ln % 5 := ⟨_, rfl⟩
  have rt5 : (ln : Int) % 5 = (t5 : Nat) := by omega
  have lt5 : t5 < 5 := by omega
  clear ht5
  have HN := Lib.hid hn
  clear hn
  go_enter Try.func8, Try.ntmps8
  go_wp2_with fail
  generalize w.alloc (.cells #[.slice pm lm cm, .slice ps ls cs, .slice pn ln cn, .slice pa la ca] 55) = w1 at *
  go_loopw [3] (fun v wr => RelOv w1 v wr) (fun v _ => 4 - (intOf v).toNat)
  case atStart => exact ⟨0, by omega, rfl, Below.refl _ _⟩
  case round =>
    obtain ⟨q, hq, rfl, hbr⟩ := hrel
    by_cases hq4 : q < 4
    · have hq3 : (q : Int) < 4 := by omega
      obtain ⟨d, hd⟩ : ∃ d, d = q / 2 := ⟨_, rfl⟩
      have rd : (q : Int) / 2 = (d : Nat) := by omega
      have ld : d < 2 := by omega
      have hp : mayA (2 + (d : Int) * 2) := by unfold mayA; omega
      have ht : 1 ≤ (1 + (t5 : Int)) ∧ (1 + (t5 : Int)) ≤ 5 := by omega
      have hcase : q % 2 = 0 ∨ q % 2 = 1 := by omega
      have HOV := fun big => Lib.hid (ov_all (wr.heap.size + 1) big (2 + (d : Int) * 2) (1 + (t5 : Int)) hp ht)
      have HP := Lib.hid hp
      clear hd hp ht
      have hKl : w.heap.size < wr.heap.size := (At.below' hbr dK).lt
      have k2 : wr.cell? ⟨w.heap.size, 2, none⟩ = some (.slice pn ln cn) := (At.below' hbr dK).cell 2 rfl
      rcases hcase with hr | hr
      · have rr : (q : Int) % 2 = 0 := by omega
        clear hr
        obtain ⟨⟨f1, f2, f3⟩, ⟨g1, g2, g3, g4, g5, g6⟩, ⟨i1, i2, i3, i4, i5, i6⟩, j1, j2⟩ := (HOV false).out
        have dA := At.alloc (At.alloc (At.alloc (At.alloc (At.new wr #[.bool false, .int .i64 (2 + (d : Int) * 2)] 38) (.cells (byC zer8) 51)) (.cells #[.int .i64 0, .slice none 0 0, .int .i64 1, .slice (some ⟨wr.heap.size + 1, 0, none⟩) 8 8] 72)) (.cells #[.bool true, .int .i64 0, .int .i64 1, .int .i64 4] 33)) (.cells #[.bool true, .int .i64 0, .int .i64 1, .int .i64 (1 + (t5 : Int))] 33)
        have dB := At.alloc (At.alloc (At.alloc (At.new2 wr (.cells #[.bool false, .int .i64 (2 + (d : Int) * 2)] 38) (byC zer8) 51) (.cells #[.int .i64 0, .slice none 0 0, .int .i64 1, .slice (some ⟨wr.heap.size + 1, 0, none⟩) 8 8] 72)) (.cells #[.bool true, .int .i64 0, .int .i64 1, .int .i64 4] 33)) (.cells #[.bool true, .int .i64 0, .int .i64 1, .int .i64 (1 + (t5 : Int))] 33)
        have dG := At.alloc (At.alloc (At.new3 wr (.cells #[.bool false, .int .i64 (2 + (d : Int) * 2)] 38) (.cells (byC zer8) 51) #[.int .i64 0, .slice none 0 0, .int .i64 1, .slice (some ⟨wr.heap.size + 1, 0, none⟩) 8 8] 72) (.cells #[.bool true, .int .i64 0, .int .i64 1, .int .i64 4] 33)) (.cells #[.bool true, .int .i64 0, .int .i64 1, .int .i64 (1 + (t5 : Int))] 33)
        have dT := At.alloc (at3 (w := wr) (cs := #[.bool true, .int .i64 0, .int .i64 1, .int .i64 4]) (t := 33) (.cells #[.bool false, .int .i64 (2 + (d : Int) * 2)] 38) (.cells (byC zer8) 51) (.cells #[.int .i64 0, .slice none 0 0, .int .i64 1, .slice (some ⟨wr.heap.size + 1, 0, none⟩) 8 8] 72)) (.cells #[.bool true, .int .i64 0, .int .i64 1, .int .i64 (1 + (t5 : Int))] 33)
        have dV := at4 (w := wr) (cs := #[.bool true, .int .i64 0, .int .i64 1, .int .i64 (1 + (t5 : Int))]) (t := 33) (.cells #[.bool false, .int .i64 (2 + (d : Int) * 2)] 38) (.cells (byC zer8) 51) (.cells #[.int .i64 0, .slice none 0 0, .int .i64 1, .slice (some ⟨wr.heap.size + 1, 0, none⟩) 8 8] 72) (.cells #[.bool true, .int .i64 0, .int .i64 1, .int .i64 4] 33)
        have dK4 := At.alloc (At.alloc (At.alloc (At.alloc (At.below' hbr dK) (.cells #[.bool false, .int .i64 (2 + (d : Int) * 2)] 38)) (.cells (byC zer8) 51)) (.cells #[.int .i64 0, .slice none 0 0, .int .i64 1, .slice (some ⟨wr.heap.size + 1, 0, none⟩) 8 8] 72)) (.cells #[.bool true, .int .i64 0, .int .i64 1, .int .i64 4] 33)
        have k24 := dK4.cell 2 rfl
        clear k2
        have hb5 := hbr.trans ((below_box5 wr (.cells #[.bool false, .int .i64 (2 + (d : Int) * 2)] 38) (.cells (byC zer8) 51) (.cells #[.int .i64 0, .slice none 0 0, .int .i64 1, .slice (some ⟨wr.heap.size + 1, 0, none⟩) 8 8] 72) (.cells #[.bool true, .int .i64 0, .int .i64 1, .int .i64 4] 33) (.cells #[.bool true, .int .i64 0, .int .i64 1, .int .i64 (1 + (t5 : Int))] 33)).mono hbr.size)
        have hmem := isMem_two (n := 8) (by decide) dG dB
        clear dG dB hbr
        have F1H := Lib.hid f1
        have F2H := Lib.hid f2
        have F3H := Lib.hid f3
        have G1H := Lib.hid g1
        have G2H := Lib.hid g2
        have G3H := Lib.hid g3
        have G4H := Lib.hid g4
        have G5H := Lib.hid g5
        have G6H := Lib.hid g6
        have I1H := Lib.hid i1
        have I2H := Lib.hid i2
        have I3H := Lib.hid i3
        have I4H := Lib.hid i4
        have I5H := Lib.hid i5
        have I6H := Lib.hid i6
        have J1H := Lib.hid j1
        have J2H := Lib.hid j2
        clear f1 f2 f3 g1 g2 g3 g4 g5 g6 i1 i2 i3 i4 i5 i6 j1 j2
        go_upto_region 8 with (fail)
        generalize (((((wr.alloc (.cells #[.bool false, .int .i64 (2 + (d : Int) * 2)] 38)).alloc (.cells (byC zer8) 51)).alloc (.cells #[.int .i64 0, .slice none 0 0, .int .i64 1, .slice (some ⟨wr.heap.size + 1, 0, none⟩) 8 8] 72)).alloc (.cells #[.bool true, .int .i64 0, .int .i64 1, .int .i64 4] 33)).alloc (.cells #[.bool true, .int .i64 0, .int .i64 1, .int .i64 (1 + (t5 : Int))] 33)) = v5 at *
        have HA := Lib.hid dA
        have HT := Lib.hid dT
        have HV := Lib.hid dV
        have HB := Lib.hid hb5
        clear dA dT dV hb5 k24 dK4 hKl
        generalize wr.heap.size = X at *
        have a0 : v5.cell? ⟨X, 0, none⟩ = some (.bool false) := HA.out.cell 0 rfl
        have a1 : v5.cell? ⟨X, 1, none⟩ = some (.int .i64 (2 + (d : Int) * 2)) := HA.out.cell 1 rfl
        have t0 : v5.cell? ⟨X + 3, 0, none⟩ = some (.bool true) := HT.out.cell 0 rfl
        have t1 : v5.cell? ⟨X + 3, 1, none⟩ = some (.int .i64 0) := HT.out.cell 1 rfl
        have t2 : v5.cell? ⟨X + 3, 2, none⟩ = some (.int .i64 1) := HT.out.cell 2 rfl
        have t3 : v5.cell? ⟨X + 3, 3, none⟩ = some (.int .i64 4) := HT.out.cell 3 rfl
        have v0 : v5.cell? ⟨X + 4, 0, none⟩ = some (.bool true) := HV.out.cell 0 rfl
        have v1 : v5.cell? ⟨X + 4, 1, none⟩ = some (.int .i64 0) := HV.out.cell 1 rfl
        have v2 : v5.cell? ⟨X + 4, 2, none⟩ = some (.int .i64 1) := HV.out.cell 2 rfl
        have v3 : v5.cell? ⟨X + 4, 3, none⟩ = some (.int .i64 (1 + (t5 : Int))) := HV.out.cell 3 rfl
        have cS := Store_yes false (2 + (d : Int) * 2) 7 (some ⟨X + 2, 0, none⟩) 2 2 (two8 (X + 1) 8) (pt 1 4) (pt 1 (1 + (t5 : Int))) HP.out F2H.out F1H.out v5 hmem
        rw [F3H.out, sto_eq F3H.out] at cS
        simp only [scV_pt, scV_one1, scV_nul] at cS
        go_wp2_with fail
        refine cS.mono ?_
        rintro e v6 ⟨B2, C2, x2, rfl, hown, hd2, hxl, hcap, hbS⟩
        have mx2 := hown.isMem hxl (by decide)
        clear a0 a1 t0 t1 t2 t3 v0 v1 v2 v3
        clear cS hown hxl hcap
        have Dx2 : Hid (datM x2 = datM (ov2 (X + 1) false (2 + (d : Int) * 2) (1 + (t5 : Int)))) := Lib.hid hd2
        clear hd2
        replace HA := Lib.hid (At.below' hbS HA.out)
        replace HT := Lib.hid (At.below' hbS HT.out)
        replace HV := Lib.hid (At.below' hbS HV.out)
        replace HB := Lib.hid (HB.out.trans (hbS.mono HB.out.size))
        clear hbS
        clear hmem
        have e1 : loadS false (2 + (d : Int) * 2) 7 x2 (pt 1 4) = (pt 1 (1 + (t5 : Int)), 0) := by rw [loadS_dat Dx2.out]; exact G3H.out
        have e2 : hasM x2 (pt 1 4) = true := by rw [hasM_dat Dx2.out]; exact G1H.out
        have a0 : v6.cell? ⟨X, 0, none⟩ = some (.bool false) := HA.out.cell 0 rfl
        have a1 : v6.cell? ⟨X, 1, none⟩ = some (.int .i64 (2 + (d : Int) * 2)) := HA.out.cell 1 rfl
        have t0 : v6.cell? ⟨X + 3, 0, none⟩ = some (.bool true) := HT.out.cell 0 rfl
        have t1 : v6.cell? ⟨X + 3, 1, none⟩ = some (.int .i64 0) := HT.out.cell 1 rfl
        have t2 : v6.cell? ⟨X + 3, 2, none⟩ = some (.int .i64 1) := HT.out.cell 2 rfl
        have t3 : v6.cell? ⟨X + 3, 3, none⟩ = some (.int .i64 4) := HT.out.cell 3 rfl
        have cL := Load_yes false (2 + (d : Int) * 2) 7 (some ⟨B2, 0, none⟩) 2 C2 x2 (pt 1 4) HP.out (by decide) e2 v6 mx2
        rw [e1] at cL
        simp only [scV_pt, scV_one1, scV_nul] at cL
        go_wp2_with fail
        refine cL.mono ?_
        rintro e v7 ⟨rfl, hbS⟩
        clear a0 a1 t0 t1 t2 t3
        clear cL e1 e2
        replace HA := Lib.hid (At.below' hbS HA.out)
        replace HT := Lib.hid (At.below' hbS HT.out)
        replace HV := Lib.hid (At.below' hbS HV.out)
        replace mx2 := mx2.below hbS
        replace HB := Lib.hid (HB.out.trans (hbS.mono HB.out.size))
        clear hbS
        have hbS := below_box1 v7 (.cells #[.bool true, .int .i64 0, .int .i64 1, .int .i64 (1 + (t5 : Int))] 33)
        have HX := Lib.hid (At.new v7 #[.bool true, .int .i64 0, .int .i64 1, .int .i64 (1 + (t5 : Int))] 33)
        replace HA := Lib.hid (At.below' hbS HA.out)
        replace HT := Lib.hid (At.below' hbS HT.out)
        replace HV := Lib.hid (At.below' hbS HV.out)
        replace mx2 := mx2.below hbS
        replace HB := Lib.hid (HB.out.trans (hbS.mono HB.out.size))
        clear hbS
        simp only [scA, noS, pt, one1, nul]
        go_upto_region 10 with (fail)
        have hXn : v7.heap.size = v7.heap.size := rfl
        clear hXn
        generalize (v7.alloc (.cells #[.bool true, .int .i64 0, .int .i64 1, .int .i64 (1 + (t5 : Int))] 33)) = v8 at *
        generalize v7.heap.size = XB at *
        have e1 : loadS false (2 + (d : Int) * 2) 1 x2 (pt 1 4) = (noS, 8) := by rw [loadS_dat Dx2.out]; exact G4H.out
        have e2 : hasM x2 (pt 1 4) = true := by rw [hasM_dat Dx2.out]; exact G1H.out
        have a0 : v8.cell? ⟨X, 0, none⟩ = some (.bool false) := HA.out.cell 0 rfl
        have a1 : v8.cell? ⟨X, 1, none⟩ = some (.int .i64 (2 + (d : Int) * 2)) := HA.out.cell 1 rfl
        have t0 : v8.cell? ⟨X + 3, 0, none⟩ = some (.bool true) := HT.out.cell 0 rfl
        have t1 : v8.cell? ⟨X + 3, 1, none⟩ = some (.int .i64 0) := HT.out.cell 1 rfl
        have t2 : v8.cell? ⟨X + 3, 2, none⟩ = some (.int .i64 1) := HT.out.cell 2 rfl
        have t3 : v8.cell? ⟨X + 3, 3, none⟩ = some (.int .i64 4) := HT.out.cell 3 rfl
        have cL := Load_yes false (2 + (d : Int) * 2) 1 (some ⟨B2, 0, none⟩) 2 C2 x2 (pt 1 4) HP.out (by decide) e2 v8 mx2
        rw [e1] at cL
        simp only [scV_pt, scV_one1, scV_nul] at cL
        go_wp2_with fail
        refine cL.mono ?_
        rintro e v9 ⟨rfl, hbS⟩
        clear a0 a1 t0 t1 t2 t3
        clear cL e1 e2
        replace HA := Lib.hid (At.below' hbS HA.out)
        replace HT := Lib.hid (At.below' hbS HT.out)
        replace HV := Lib.hid (At.below' hbS HV.out)
        replace HX := Lib.hid (At.below' hbS HX.out)
        replace mx2 := mx2.below hbS
        replace HB := Lib.hid (HB.out.trans (hbS.mono HB.out.size))
        clear hbS
        have hbS := below_box1 v9 (.cells #[.bool false, .int .i64 0, .int .i64 0, .int .i64 0] 33)
        replace HA := Lib.hid (At.below' hbS HA.out)
        replace HT := Lib.hid (At.below' hbS HT.out)
        replace HV := Lib.hid (At.below' hbS HV.out)
        replace HX := Lib.hid (At.below' hbS HX.out)
        replace mx2 := mx2.below hbS
        replace HB := Lib.hid (HB.out.trans (hbS.mono HB.out.size))
        clear hbS
        simp only [scA, noS, pt, one1, nul]
        go_upto_region 11 with (fail)
        generalize (v9.alloc (.cells #[.bool false, .int .i64 0, .int .i64 0, .int .i64 0] 33)) = v10 at *
        have e2 : hasM x2 (pt 1 5) = true := by rw [hasM_dat Dx2.out]; exact G2H.out
        have e3 : reachM x2 (pt 1 5) (sizN (2 + (d : Int) * 2) 1) = 0 := by rw [reachM_dat Dx2.out]; exact G6H.out
        have a0 : v10.cell? ⟨X, 0, none⟩ = some (.bool false) := HA.out.cell 0 rfl
        have a1 : v10.cell? ⟨X, 1, none⟩ = some (.int .i64 (2 + (d : Int) * 2)) := HA.out.cell 1 rfl
        have cS := Store_yes false (2 + (d : Int) * 2) 1 (some ⟨B2, 0, none⟩) 2 C2 x2 (pt 1 5) one1 HP.out G5H.out e2 v10 mx2
        rw [e3, storeD_dat Dx2.out, sto_eq G6H.out] at cS
        simp only [scV_pt, scV_one1, scV_nul] at cS
        go_wp2_with fail
        refine cS.mono ?_
        rintro e v11 ⟨B3, C3, x3, rfl, hown, hd3, hxl, hcap, hbS⟩
        have mx3 := hown.isMem hxl (by decide)
        clear a0 a1
        clear cS hown hxl hcap
        have Dx3 : Hid (datM x3 = datM (ov3 (X + 1) false (2 + (d : Int) * 2) (1 + (t5 : Int)))) := Lib.hid hd3
        clear hd3
        replace HA := Lib.hid (At.below' hbS HA.out)
        replace HT := Lib.hid (At.below' hbS HT.out)
        replace HV := Lib.hid (At.below' hbS HV.out)
        replace HX := Lib.hid (At.below' hbS HX.out)
        replace HB := Lib.hid (HB.out.trans (hbS.mono HB.out.size))
        clear hbS
        clear e2 e3 mx2 Dx2
        have x0 : v11.cell? ⟨XB, 0, none⟩ = some (.bool true) := HX.out.cell 0 rfl
        have x1 : v11.cell? ⟨XB, 1, none⟩ = some (.int .i64 0) := HX.out.cell 1 rfl
        have x2 : v11.cell? ⟨XB, 2, none⟩ = some (.int .i64 1) := HX.out.cell 2 rfl
        have x3 : v11.cell? ⟨XB, 3, none⟩ = some (.int .i64 (1 + (t5 : Int))) := HX.out.cell 3 rfl
        have v0 : v11.cell? ⟨X + 4, 0, none⟩ = some (.bool true) := HV.out.cell 0 rfl
        have v1 : v11.cell? ⟨X + 4, 1, none⟩ = some (.int .i64 0) := HV.out.cell 1 rfl
        have v2 : v11.cell? ⟨X + 4, 2, none⟩ = some (.int .i64 1) := HV.out.cell 2 rfl
        have v3 : v11.cell? ⟨X + 4, 3, none⟩ = some (.int .i64 (1 + (t5 : Int))) := HV.out.cell 3 rfl
        have hNE := fun w => neq_sc' true 0 1 (1 + (t5 : Int)) true 0 1 (1 + (t5 : Int)) w
        rw [eqS_refl] at hNE
        go_upto_region 14 with (go_at_call 31; (with_reducible refine (cN _ _).mono ?_); rintro e w' ⟨rfl, rfl⟩)
        clear x0 x1 x2 x3 v0 v1 v2 v3
        clear hNE
        have e1 : loadS false (2 + (d : Int) * 2) 7 x3 (pt 1 4) = (noS, 8) := by rw [loadS_dat Dx3.out]; exact I3H.out
        have e2 : hasM x3 (pt 1 4) = true := by rw [hasM_dat Dx3.out]; exact I1H.out
        have a0 : v11.cell? ⟨X, 0, none⟩ = some (.bool false) := HA.out.cell 0 rfl
        have a1 : v11.cell? ⟨X, 1, none⟩ = some (.int .i64 (2 + (d : Int) * 2)) := HA.out.cell 1 rfl
        have t0 : v11.cell? ⟨X + 3, 0, none⟩ = some (.bool true) := HT.out.cell 0 rfl
        have t1 : v11.cell? ⟨X + 3, 1, none⟩ = some (.int .i64 0) := HT.out.cell 1 rfl
        have t2 : v11.cell? ⟨X + 3, 2, none⟩ = some (.int .i64 1) := HT.out.cell 2 rfl
        have t3 : v11.cell? ⟨X + 3, 3, none⟩ = some (.int .i64 4) := HT.out.cell 3 rfl
        have cL := Load_yes false (2 + (d : Int) * 2) 7 (some ⟨B3, 0, none⟩) 2 C3 x3 (pt 1 4) HP.out (by decide) e2 v11 mx3
        rw [e1] at cL
        simp only [scV_pt, scV_one1, scV_nul] at cL
        go_wp2_with fail
        refine cL.mono ?_
        rintro e v12 ⟨rfl, hbS⟩
        clear a0 a1 t0 t1 t2 t3
        clear cL e1 e2
        replace HA := Lib.hid (At.below' hbS HA.out)
        replace HT := Lib.hid (At.below' hbS HT.out)
        replace HV := Lib.hid (At.below' hbS HV.out)
        replace HX := Lib.hid (At.below' hbS HX.out)
        replace mx3 := mx3.below hbS
        replace HB := Lib.hid (HB.out.trans (hbS.mono HB.out.size))
        clear hbS
        have hbS := below_box1 v12 (.cells #[.bool false, .int .i64 0, .int .i64 0, .int .i64 0] 33)
        replace HA := Lib.hid (At.below' hbS HA.out)
        replace HT := Lib.hid (At.below' hbS HT.out)
        replace HV := Lib.hid (At.below' hbS HV.out)
        replace HX := Lib.hid (At.below' hbS HX.out)
        replace mx3 := mx3.below hbS
        replace HB := Lib.hid (HB.out.trans (hbS.mono HB.out.size))
        clear hbS
        simp only [scA, noS, pt, one1, nul]
        go_upto_region 15 with (fail)
        generalize (v12.alloc (.cells #[.bool false, .int .i64 0, .int .i64 0, .int .i64 0] 33)) = v13 at *
        have e1 : loadS false (2 + (d : Int) * 2) 1 x3 (pt 1 5) = (one1, 0) := by rw [loadS_dat Dx3.out]; exact I4H.out
        have e2 : hasM x3 (pt 1 5) = true := by rw [hasM_dat Dx3.out]; exact I2H.out
        have a0 : v13.cell? ⟨X, 0, none⟩ = some (.bool false) := HA.out.cell 0 rfl
        have a1 : v13.cell? ⟨X, 1, none⟩ = some (.int .i64 (2 + (d : Int) * 2)) := HA.out.cell 1 rfl
        have cL := Load_yes false (2 + (d : Int) * 2) 1 (some ⟨B3, 0, none⟩) 2 C3 x3 (pt 1 5) HP.out (by decide) e2 v13 mx3
        rw [e1] at cL
        simp only [scV_pt, scV_one1, scV_nul] at cL
        go_wp2_with fail
        refine cL.mono ?_
        rintro e v14 ⟨rfl, hbS⟩
        clear a0 a1
        clear cL e1 e2
        replace HA := Lib.hid (At.below' hbS HA.out)
        replace HT := Lib.hid (At.below' hbS HT.out)
        replace HV := Lib.hid (At.below' hbS HV.out)
        replace HX := Lib.hid (At.below' hbS HX.out)
        replace mx3 := mx3.below hbS
        replace HB := Lib.hid (HB.out.trans (hbS.mono HB.out.size))
        clear hbS
        have hbS := below_box1 v14 (.cells #[.bool false, .int .i64 1, .int .i64 0, .int .i64 0] 33)
        have HY := Lib.hid (At.new v14 #[.bool false, .int .i64 1, .int .i64 0, .int .i64 0] 33)
        replace HA := Lib.hid (At.below' hbS HA.out)
        replace HT := Lib.hid (At.below' hbS HT.out)
        replace HV := Lib.hid (At.below' hbS HV.out)
        replace HX := Lib.hid (At.below' hbS HX.out)
        replace mx3 := mx3.below hbS
        replace HB := Lib.hid (HB.out.trans (hbS.mono HB.out.size))
        clear hbS
        simp only [scA, noS, pt, one1, nul]
        go_upto_region 16 with (fail)
        generalize (v14.alloc (.cells #[.bool false, .int .i64 1, .int .i64 0, .int .i64 0] 33)) = v15 at *
        generalize v14.heap.size = YB at *
        have e2 : hasM x3 (pt 1 4) = true := by rw [hasM_dat Dx3.out]; exact I1H.out
        have e3 : reachM x3 (pt 1 4) (sizN (2 + (d : Int) * 2) 7) = 0 := by rw [reachM_dat Dx3.out]; exact I6H.out
        have a0 : v15.cell? ⟨X, 0, none⟩ = some (.bool false) := HA.out.cell 0 rfl
        have a1 : v15.cell? ⟨X, 1, none⟩ = some (.int .i64 (2 + (d : Int) * 2)) := HA.out.cell 1 rfl
        have t0 : v15.cell? ⟨X + 3, 0, none⟩ = some (.bool true) := HT.out.cell 0 rfl
        have t1 : v15.cell? ⟨X + 3, 1, none⟩ = some (.int .i64 0) := HT.out.cell 1 rfl
        have t2 : v15.cell? ⟨X + 3, 2, none⟩ = some (.int .i64 1) := HT.out.cell 2 rfl
        have t3 : v15.cell? ⟨X + 3, 3, none⟩ = some (.int .i64 4) := HT.out.cell 3 rfl
        have cS := Store_yes false (2 + (d : Int) * 2) 7 (some ⟨B3, 0, none⟩) 2 C3 x3 (pt 1 4) nul HP.out I5H.out e2 v15 mx3
        rw [e3, storeD_dat Dx3.out, sto_eq I6H.out] at cS
        simp only [scV_pt, scV_one1, scV_nul] at cS
        go_wp2_with fail
        refine cS.mono ?_
        rintro e v16 ⟨B4, C4, x4, rfl, hown, hd4, hxl, hcap, hbS⟩
        have mx4 := hown.isMem hxl (by decide)
        clear a0 a1 t0 t1 t2 t3
        clear cS hown hxl hcap
        have Dx4 : Hid (datM x4 = datM (ov4 (X + 1) false (2 + (d : Int) * 2) (1 + (t5 : Int)))) := Lib.hid hd4
        clear hd4
        replace HA := Lib.hid (At.below' hbS HA.out)
        replace HT := Lib.hid (At.below' hbS HT.out)
        replace HV := Lib.hid (At.below' hbS HV.out)
        replace HX := Lib.hid (At.below' hbS HX.out)
        replace HY := Lib.hid (At.below' hbS HY.out)
        replace HB := Lib.hid (HB.out.trans (hbS.mono HB.out.size))
        clear hbS
        clear e2 e3 mx3 Dx3
        have e1 : loadS false (2 + (d : Int) * 2) 7 x4 (pt 1 4) = (nul, 0) := by rw [loadS_dat Dx4.out]; exact J2H.out
        have e2 : hasM x4 (pt 1 4) = true := by rw [hasM_dat Dx4.out]; exact J1H.out
        have a0 : v16.cell? ⟨X, 0, none⟩ = some (.bool false) := HA.out.cell 0 rfl
        have a1 : v16.cell? ⟨X, 1, none⟩ = some (.int .i64 (2 + (d : Int) * 2)) := HA.out.cell 1 rfl
        have t0 : v16.cell? ⟨X + 3, 0, none⟩ = some (.bool true) := HT.out.cell 0 rfl
        have t1 : v16.cell? ⟨X + 3, 1, none⟩ = some (.int .i64 0) := HT.out.cell 1 rfl
        have t2 : v16.cell? ⟨X + 3, 2, none⟩ = some (.int .i64 1) := HT.out.cell 2 rfl
        have t3 : v16.cell? ⟨X + 3, 3, none⟩ = some (.int .i64 4) := HT.out.cell 3 rfl
        have cL := Load_yes false (2 + (d : Int) * 2) 7 (some ⟨B4, 0, none⟩) 2 C4 x4 (pt 1 4) HP.out (by decide) e2 v16 mx4
        rw [e1] at cL
        simp only [scV_pt, scV_one1, scV_nul] at cL
        go_wp2_with fail
        refine cL.mono ?_
        rintro e v17 ⟨rfl, hbS⟩
        clear a0 a1 t0 t1 t2 t3
        clear cL e1 e2
        replace HA := Lib.hid (At.below' hbS HA.out)
        replace HT := Lib.hid (At.below' hbS HT.out)
        replace HV := Lib.hid (At.below' hbS HV.out)
        replace HX := Lib.hid (At.below' hbS HX.out)
        replace HY := Lib.hid (At.below' hbS HY.out)
        replace mx4 := mx4.below hbS
        replace HB := Lib.hid (HB.out.trans (hbS.mono HB.out.size))
        clear hbS
        have hbS := below_box1 v17 (.cells #[.bool true, .int .i64 0, .int .i64 0, .int .i64 0] 33)
        have HZ := Lib.hid (At.new v17 #[.bool true, .int .i64 0, .int .i64 0, .int .i64 0] 33)
        replace HA := Lib.hid (At.below' hbS HA.out)
        replace HT := Lib.hid (At.below' hbS HT.out)
        replace HV := Lib.hid (At.below' hbS HV.out)
        replace HX := Lib.hid (At.below' hbS HX.out)
        replace HY := Lib.hid (At.below' hbS HY.out)
        replace mx4 := mx4.below hbS
        replace HB := Lib.hid (HB.out.trans (hbS.mono HB.out.size))
        clear hbS
        simp only [scA, noS, pt, one1, nul]
        go_upto_region 18 with (fail)
        generalize (v17.alloc (.cells #[.bool true, .int .i64 0, .int .i64 0, .int .i64 0] 33)) = v18 at *
        generalize v17.heap.size = ZB at *
        have y0 : v18.cell? ⟨YB, 0, none⟩ = some (.bool false) := HY.out.cell 0 rfl
        have y1 : v18.cell? ⟨YB, 1, none⟩ = some (.int .i64 1) := HY.out.cell 1 rfl
        have y2 : v18.cell? ⟨YB, 2, none⟩ = some (.int .i64 0) := HY.out.cell 2 rfl
        have y3 : v18.cell? ⟨YB, 3, none⟩ = some (.int .i64 0) := HY.out.cell 3 rfl
        have z0 : v18.cell? ⟨ZB, 0, none⟩ = some (.bool true) := HZ.out.cell 0 rfl
        have z1 : v18.cell? ⟨ZB, 1, none⟩ = some (.int .i64 0) := HZ.out.cell 1 rfl
        have z2 : v18.cell? ⟨ZB, 2, none⟩ = some (.int .i64 0) := HZ.out.cell 2 rfl
        have z3 : v18.cell? ⟨ZB, 3, none⟩ = some (.int .i64 0) := HZ.out.cell 3 rfl
        have hNE := fun w => neq_sc' true 0 0 0 true 0 0 0 w
        rw [eqS_refl] at hNE
        go_wp2_with (go_at_call 31; (with_reducible refine (cN _ _).mono ?_); rintro e w' ⟨rfl, rfl⟩)
        go_roundw
        case rel => exact ⟨q + 1, by omega, by go_num, HB.out⟩
        case measure => (simp [intOf]; try omega)
      · have rr : (q : Int) % 2 = 1 := by omega
        clear hr
        obtain ⟨⟨f1, f2, f3⟩, ⟨g1, g2, g3, g4, g5, g6⟩, ⟨i1, i2, i3, i4, i5, i6⟩, j1, j2⟩ := (HOV true).out
        have dA := At.alloc (At.alloc (At.alloc (At.alloc (At.new wr #[.bool true, .int .i64 (2 + (d : Int) * 2)] 38) (.cells (byC zer8) 51)) (.cells #[.int .i64 0, .slice none 0 0, .int .i64 1, .slice (some ⟨wr.heap.size + 1, 0, none⟩) 8 8] 72)) (.cells #[.bool true, .int .i64 0, .int .i64 1, .int .i64 4] 33)) (.cells #[.bool true, .int .i64 0, .int .i64 1, .int .i64 (1 + (t5 : Int))] 33)
        have dB := At.alloc (At.alloc (At.alloc (At.new2 wr (.cells #[.bool true, .int .i64 (2 + (d : Int) * 2)] 38) (byC zer8) 51) (.cells #[.int .i64 0, .slice none 0 0, .int .i64 1, .slice (some ⟨wr.heap.size + 1, 0, none⟩) 8 8] 72)) (.cells #[.bool true, .int .i64 0, .int .i64 1, .int .i64 4] 33)) (.cells #[.bool true, .int .i64 0, .int .i64 1, .int .i64 (1 + (t5 : Int))] 33)
        have dG := At.alloc (At.alloc (At.new3 wr (.cells #[.bool true, .int .i64 (2 + (d : Int) * 2)] 38) (.cells (byC zer8) 51) #[.int .i64 0, .slice none 0 0, .int .i64 1, .slice (some ⟨wr.heap.size + 1, 0, none⟩) 8 8] 72) (.cells #[.bool true, .int .i64 0, .int .i64 1, .int .i64 4] 33)) (.cells #[.bool true, .int .i64 0, .int .i64 1, .int .i64 (1 + (t5 : Int))] 33)
        have dT := At.alloc (at3 (w := wr) (cs := #[.bool true, .int .i64 0, .int .i64 1, .int .i64 4]) (t := 33) (.cells #[.bool true, .int .i64 (2 + (d : Int) * 2)] 38) (.cells (byC zer8) 51) (.cells #[.int .i64 0, .slice none 0 0, .int .i64 1, .slice (some ⟨wr.heap.size + 1, 0, none⟩) 8 8] 72)) (.cells #[.bool true, .int .i64 0, .int .i64 1, .int .i64 (1 + (t5 : Int))] 33)
        have dV := at4 (w := wr) (cs := #[.bool true, .int .i64 0, .int .i64 1, .int .i64 (1 + (t5 : Int))]) (t := 33) (.cells #[.bool true, .int .i64 (2 + (d : Int) * 2)] 38) (.cells (byC zer8) 51) (.cells #[.int .i64 0, .slice none 0 0, .int .i64 1, .slice (some ⟨wr.heap.size + 1, 0, none⟩) 8 8] 72) (.cells #[.bool true, .int .i64 0, .int .i64 1, .int .i64 4] 33)
        have dK4 := At.alloc (At.alloc (At.alloc (At.alloc (At.below' hbr dK) (.cells #[.bool true, .int .i64 (2 + (d : Int) * 2)] 38)) (.cells (byC zer8) 51)) (.cells #[.int .i64 0, .slice none 0 0, .int .i64 1, .slice (some ⟨wr.heap.size + 1, 0, none⟩) 8 8] 72)) (.cells #[.bool true, .int .i64 0, .int .i64 1, .int .i64 4] 33)
        have k24 := dK4.cell 2 rfl
        clear k2
        have hb5 := hbr.trans ((below_box5 wr (.cells #[.bool true, .int .i64 (2 + (d : Int) * 2)] 38) (.cells (byC zer8) 51) (.cells #[.int .i64 0, .slice none 0 0, .int .i64 1, .slice (some ⟨wr.heap.size + 1, 0, none⟩) 8 8] 72) (.cells #[.bool true, .int .i64 0, .int .i64 1, .int .i64 4] 33) (.cells #[.bool true, .int .i64 0, .int .i64 1, .int .i64 (1 + (t5 : Int))] 33)).mono hbr.size)
        have hmem := isMem_two (n := 8) (by decide) dG dB
        clear dG dB hbr
        have F1H := Lib.hid f1
        have F2H := Lib.hid f2
        have F3H := Lib.hid f3
        have G1H := Lib.hid g1
        have G2H := Lib.hid g2
        have G3H := Lib.hid g3
        have G4H := Lib.hid g4
        have G5H := Lib.hid g5
        have G6H := Lib.hid g6
        have I1H := Lib.hid i1
        have I2H := Lib.hid i2
        have I3H := Lib.hid i3
        have I4H := Lib.hid i4
        have I5H := Lib.hid i5
        have I6H := Lib.hid i6
        have J1H := Lib.hid j1
        have J2H := Lib.hid j2
        clear f1 f2 f3 g1 g2 g3 g4 g5 g6 i1 i2 i3 i4 i5 i6 j1 j2
        go_upto_region 8 with (fail)
        generalize (((((wr.alloc (.cells #[.bool true, .int .i64 (2 + (d : Int) * 2)] 38)).alloc (.cells (byC zer8) 51)).alloc (.cells #[.int .i64 0, .slice none 0 0, .int .i64 1, .slice (some ⟨wr.heap.size + 1, 0, none⟩) 8 8] 72)).alloc (.cells #[.bool true, .int .i64 0, .int .i64 1, .int .i64 4] 33)).alloc (.cells #[.bool true, .int .i64 0, .int .i64 1, .int .i64 (1 + (t5 : Int))] 33)) = v5 at *
        have HA := Lib.hid dA
        have HT := Lib.hid dT
        have HV := Lib.hid dV
        have HB := Lib.hid hb5
        clear dA dT dV hb5 k24 dK4 hKl
        generalize wr.heap.size = X at *
        have a0 : v5.cell? ⟨X, 0, none⟩ = some (.bool true) := HA.out.cell 0 rfl
        have a1 : v5.cell? ⟨X, 1, none⟩ = some (.int .i64 (2 + (d : Int) * 2)) := HA.out.cell 1 rfl
        have t0 : v5.cell? ⟨X + 3, 0, none⟩ = some (.bool true) := HT.out.cell 0 rfl
        have t1 : v5.cell? ⟨X + 3, 1, none⟩ = some (.int .i64 0) := HT.out.cell 1 rfl
        have t2 : v5.cell? ⟨X + 3, 2, none⟩ = some (.int .i64 1) := HT.out.cell 2 rfl
        have t3 : v5.cell? ⟨X + 3, 3, none⟩ = some (.int .i64 4) := HT.out.cell 3 rfl
        have v0 : v5.cell? ⟨X + 4, 0, none⟩ = some (.bool true) := HV.out.cell 0 rfl
        have v1 : v5.cell? ⟨X + 4, 1, none⟩ = some (.int .i64 0) := HV.out.cell 1 rfl
        have v2 : v5.cell? ⟨X + 4, 2, none⟩ = some (.int .i64 1) := HV.out.cell 2 rfl
        have v3 : v5.cell? ⟨X + 4, 3, none⟩ = some (.int .i64 (1 + (t5 : Int))) := HV.out.cell 3 rfl
        have cS := Store_yes true (2 + (d : Int) * 2) 7 (some ⟨X + 2, 0, none⟩) 2 2 (two8 (X + 1) 8) (pt 1 4) (pt 1 (1 + (t5 : Int))) HP.out F2H.out F1H.out v5 hmem
        rw [F3H.out, sto_eq F3H.out] at cS
        simp only [scV_pt, scV_one1, scV_nul] at cS
        go_wp2_with fail
        refine cS.mono ?_
        rintro e v6 ⟨B2, C2, x2, rfl, hown, hd2, hxl, hcap, hbS⟩
        have mx2 := hown.isMem hxl (by decide)
        clear a0 a1 t0 t1 t2 t3 v0 v1 v2 v3
        clear cS hown hxl hcap
        have Dx2 : Hid (datM x2 = datM (ov2 (X + 1) true (2 + (d : Int) * 2) (1 + (t5 : Int)))) := Lib.hid hd2
        clear hd2
        replace HA := Lib.hid (At.below' hbS HA.out)
        replace HT := Lib.hid (At.below' hbS HT.out)
        replace HV := Lib.hid (At.below' hbS HV.out)
        replace HB := Lib.hid (HB.out.trans (hbS.mono HB.out.size))
        clear hbS
        clear hmem
        have e1 : loadS true (2 + (d : Int) * 2) 7 x2 (pt 1 4) = (pt 1 (1 + (t5 : Int)), 0) := by rw [loadS_dat Dx2.out]; exact G3H.out
        have e2 : hasM x2 (pt 1 4) = true := by rw [hasM_dat Dx2.out]; exact G1H.out
        have a0 : v6.cell? ⟨X, 0, none⟩ = some (.bool true) := HA.out.cell 0 rfl
        have a1 : v6.cell? ⟨X, 1, none⟩ = some (.int .i64 (2 + (d : Int) * 2)) := HA.out.cell 1 rfl
        have t0 : v6.cell? ⟨X + 3, 0, none⟩ = some (.bool true) := HT.out.cell 0 rfl
        have t1 : v6.cell? ⟨X + 3, 1, none⟩ = some (.int .i64 0) := HT.out.cell 1 rfl
        have t2 : v6.cell? ⟨X + 3, 2, none⟩ = some (.int .i64 1) := HT.out.cell 2 rfl
        have t3 : v6.cell? ⟨X + 3, 3, none⟩ = some (.int .i64 4) := HT.out.cell 3 rfl
        have cL := Load_yes true (2 + (d : Int) * 2) 7 (some ⟨B2, 0, none⟩) 2 C2 x2 (pt 1 4) HP.out (by decide) e2 v6 mx2
        rw [e1] at cL
        simp only [scV_pt, scV_one1, scV_nul] at cL
        go_wp2_with fail
        refine cL.mono ?_
        rintro e v7 ⟨rfl, hbS⟩
        clear a0 a1 t0 t1 t2 t3
        clear cL e1 e2
        replace HA := Lib.hid (At.below' hbS HA.out)
        replace HT := Lib.hid (At.below' hbS HT.out)
        replace HV := Lib.hid (At.below' hbS HV.out)
        replace mx2 := mx2.below hbS
        replace HB := Lib.hid (HB.out.trans (hbS.mono HB.out.size))
        clear hbS
        have hbS := below_box1 v7 (.cells #[.bool true, .int .i64 0, .int .i64 1, .int .i64 (1 + (t5 : Int))] 33)
        have HX := Lib.hid (At.new v7 #[.bool true, .int .i64 0, .int .i64 1, .int .i64 (1 + (t5 : Int))] 33)
        replace HA := Lib.hid (At.below' hbS HA.out)
        replace HT := Lib.hid (At.below' hbS HT.out)
        replace HV := Lib.hid (At.below' hbS HV.out)
        replace mx2 := mx2.below hbS
        replace HB := Lib.hid (HB.out.trans (hbS.mono HB.out.size))
        clear hbS
        simp only [scA, noS, pt, one1, nul]
        go_upto_region 10 with (fail)
        have hXn : v7.heap.size = v7.heap.size := rfl
        clear hXn
        generalize (v7.alloc (.cells #[.bool true, .int .i64 0, .int .i64 1, .int .i64 (1 + (t5 : Int))] 33)) = v8 at *
        generalize v7.heap.size = XB at *
        have e1 : loadS true (2 + (d : Int) * 2) 1 x2 (pt 1 4) = (noS, 8) := by rw [loadS_dat Dx2.out]; exact G4H.out
        have e2 : hasM x2 (pt 1 4) = true := by rw [hasM_dat Dx2.out]; exact G1H.out
        have a0 : v8.cell? ⟨X, 0, none⟩ = some (.bool true) := HA.out.cell 0 rfl
        have a1 : v8.cell? ⟨X, 1, none⟩ = some (.int .i64 (2 + (d : Int) * 2)) := HA.out.cell 1 rfl
        have t0 : v8.cell? ⟨X + 3, 0, none⟩ = some (.bool true) := HT.out.cell 0 rfl
        have t1 : v8.cell? ⟨X + 3, 1, none⟩ = some (.int .i64 0) := HT.out.cell 1 rfl
        have t2 : v8.cell? ⟨X + 3, 2, none⟩ = some (.int .i64 1) := HT.out.cell 2 rfl
        have t3 : v8.cell? ⟨X + 3, 3, none⟩ = some (.int .i64 4) := HT.out.cell 3 rfl
        have cL := Load_yes true (2 + (d : Int) * 2) 1 (some ⟨B2, 0, none⟩) 2 C2 x2 (pt 1 4) HP.out (by decide) e2 v8 mx2
        rw [e1] at cL
        simp only [scV_pt, scV_one1, scV_nul] at cL
        go_wp2_with fail
        refine cL.mono ?_
        rintro e v9 ⟨rfl, hbS⟩
        clear a0 a1 t0 t1 t2 t3
        clear cL e1 e2
        replace HA := Lib.hid (At.below' hbS HA.out)
        replace HT := Lib.hid (At.below' hbS HT.out)
        replace HV := Lib.hid (At.below' hbS HV.out)
        replace HX := Lib.hid (At.below' hbS HX.out)
        replace mx2 := mx2.below hbS
        replace HB := Lib.hid (HB.out.trans (hbS.mono HB.out.size))
        clear hbS
        have hbS := below_box1 v9 (.cells #[.bool false, .int .i64 0, .int .i64 0, .int .i64 0] 33)
        replace HA := Lib.hid (At.below' hbS HA.out)
        replace HT := Lib.hid (At.below' hbS HT.out)
        replace HV := Lib.hid (At.below' hbS HV.out)
        replace HX := Lib.hid (At.below' hbS HX.out)
        replace mx2 := mx2.below hbS
        replace HB := Lib.hid (HB.out.trans (hbS.mono HB.out.size))
        clear hbS
        simp only [scA, noS, pt, one1, nul]
        go_upto_region 11 with (fail)
        generalize (v9.alloc (.cells #[.bool false, .int .i64 0, .int .i64 0, .int .i64 0] 33)) = v10 at *
        have e2 : hasM x2 (pt 1 5) = true := by rw [hasM_dat Dx2.out]; exact G2H.out
        have e3 : reachM x2 (pt 1 5) (sizN (2 + (d : Int) * 2) 1) = 0 := by rw [reachM_dat Dx2.out]; exact G6H.out
        have a0 : v10.cell? ⟨X, 0, none⟩ = some (.bool true) := HA.out.cell 0 rfl
        have a1 : v10.cell? ⟨X, 1, none⟩ = some (.int .i64 (2 + (d : Int) * 2)) := HA.out.cell 1 rfl
        have cS := Store_yes true (2 + (d : Int) * 2) 1 (some ⟨B2, 0, none⟩) 2 C2 x2 (pt 1 5) one1 HP.out G5H.out e2 v10 mx2
        rw [e3, storeD_dat Dx2.out, sto_eq G6H.out] at cS
        simp only [scV_pt, scV_one1, scV_nul] at cS
        go_wp2_with fail
        refine cS.mono ?_
        rintro e v11 ⟨B3, C3, x3, rfl, hown, hd3, hxl, hcap, hbS⟩
        have mx3 := hown.isMem hxl (by decide)
        clear a0 a1
        clear cS hown hxl hcap
        have Dx3 : Hid (datM x3 = datM (ov3 (X + 1) true (2 + (d : Int) * 2) (1 + (t5 : Int)))) := Lib.hid hd3
        clear hd3
        replace HA := Lib.hid (At.below' hbS HA.out)
        replace HT := Lib.hid (At.below' hbS HT.out)
        replace HV := Lib.hid (At.below' hbS HV.out)
        replace HX := Lib.hid (At.below' hbS HX.out)
        replace HB := Lib.hid (HB.out.trans (hbS.mono HB.out.size))
        clear hbS
        clear e2 e3 mx2 Dx2
        have x0 : v11.cell? ⟨XB, 0, none⟩ = some (.bool true) := HX.out.cell 0 rfl
        have x1 : v11.cell? ⟨XB, 1, none⟩ = some (.int .i64 0) := HX.out.cell 1 rfl
        have x2 : v11.cell? ⟨XB, 2, none⟩ = some (.int .i64 1) := HX.out.cell 2 rfl
        have x3 : v11.cell? ⟨XB, 3, none⟩ = some (.int .i64 (1 + (t5 : Int))) := HX.out.cell 3 rfl
        have v0 : v11.cell? ⟨X + 4, 0, none⟩ = some (.bool true) := HV.out.cell 0 rfl
        have v1 : v11.cell? ⟨X + 4, 1, none⟩ = some (.int .i64 0) := HV.out.cell 1 rfl
        have v2 : v11.cell? ⟨X + 4, 2, none⟩ = some (.int .i64 1) := HV.out.cell 2 rfl
        have v3 : v11.cell? ⟨X + 4, 3, none⟩ = some (.int .i64 (1 + (t5 : Int))) := HV.out.cell 3 rfl
        have hNE := fun w => neq_sc' true 0 1 (1 + (t5 : Int)) true 0 1 (1 + (t5 : Int)) w
        rw [eqS_refl] at hNE
        go_upto_region 14 with (go_at_call 31; (with_reducible refine (cN _ _).mono ?_); rintro e w' ⟨rfl, rfl⟩)
        clear x0 x1 x2 x3 v0 v1 v2 v3
        clear hNE
        have e1 : loadS true (2 + (d : Int) * 2) 7 x3 (pt 1 4) = (noS, 8) := by rw [loadS_dat Dx3.out]; exact I3H.out
        have e2 : hasM x3 (pt 1 4) = true := by rw [hasM_dat Dx3.out]; exact I1H.out
        have a0 : v11.cell? ⟨X, 0, none⟩ = some (.bool true) := HA.out.cell 0 rfl
        have a1 : v11.cell? ⟨X, 1, none⟩ = some (.int .i64 (2 + (d : Int) * 2)) := HA.out.cell 1 rfl
        have t0 : v11.cell? ⟨X + 3, 0, none⟩ = some (.bool true) := HT.out.cell 0 rfl
        have t1 : v11.cell? ⟨X + 3, 1, none⟩ = some (.int .i64 0) := HT.out.cell 1 rfl
        have t2 : v11.cell? ⟨X + 3, 2, none⟩ = some (.int .i64 1) := HT.out.cell 2 rfl
        have t3 : v11.cell? ⟨X + 3, 3, none⟩ = some (.int .i64 4) := HT.out.cell 3 rfl
        have cL := Load_yes true (2 + (d : Int) * 2) 7 (some ⟨B3, 0, none⟩) 2 C3 x3 (pt 1 4) HP.out (by decide) e2 v11 mx3
        rw [e1] at cL
        simp only [scV_pt, scV_one1, scV_nul] at cL
        go_wp2_with fail
        refine cL.mono ?_
        rintro e v12 ⟨rfl, hbS⟩
        clear a0 a1 t0 t1 t2 t3
        clear cL e1 e2
        replace HA := Lib.hid (At.below' hbS HA.out)
        replace HT := Lib.hid (At.below' hbS HT.out)
        replace HV := Lib.hid (At.below' hbS HV.out)
        replace HX := Lib.hid (At.below' hbS HX.out)
        replace mx3 := mx3.below hbS
        replace HB := Lib.hid (HB.out.trans (hbS.mono HB.out.size))
        clear hbS
        have hbS := below_box1 v12 (.cells #[.bool false, .int .i64 0, .int .i64 0, .int .i64 0] 33)
        replace HA := Lib.hid (At.below' hbS HA.out)
        replace HT := Lib.hid (At.below' hbS HT.out)
        replace HV := Lib.hid (At.below' hbS HV.out)
        replace HX := Lib.hid (At.below' hbS HX.out)
        replace mx3 := mx3.below hbS
        replace HB := Lib.hid (HB.out.trans (hbS.mono HB.out.size))
        clear hbS
        simp only [scA, noS, pt, one1, nul]
        go_upto_region 15 with (fail)
        generalize (v12.alloc (.cells #[.bool false, .int .i64 0, .int .i64 0, .int .i64 0] 33)) = v13 at *
        have e1 : loadS true (2 + (d : Int) * 2) 1 x3 (pt 1 5) = (one1, 0) := by rw [loadS_dat Dx3.out]; exact I4H.out
        have e2 : hasM x3 (pt 1 5) = true := by rw [hasM_dat Dx3.out]; exact I2H.out
        have a0 : v13.cell? ⟨X, 0, none⟩ = some (.bool true) := HA.out.cell 0 rfl
        have a1 : v13.cell? ⟨X, 1, none⟩ = some (.int .i64 (2 + (d : Int) * 2)) := HA.out.cell 1 rfl
        have cL := Load_yes true (2 + (d : Int) * 2) 1 (some ⟨B3, 0, none⟩) 2 C3 x3 (pt 1 5) HP.out (by decide) e2 v13 mx3
        rw [e1] at cL
        simp only [scV_pt, scV_one1, scV_nul] at cL
        go_wp2_with fail
        refine cL.mono ?_
        rintro e v14 ⟨rfl, hbS⟩
        clear a0 a1
        clear cL e1 e2
        replace HA := Lib.hid (At.below' hbS HA.out)
        replace HT := Lib.hid (At.below' hbS HT.out)
        replace HV := Lib.hid (At.below' hbS HV.out)
        replace HX := Lib.hid (At.below' hbS HX.out)
        replace mx3 := mx3.below hbS
        replace HB := Lib.hid (HB.out.trans (hbS.mono HB.out.size))
        clear hbS
        have hbS := below_box1 v14 (.cells #[.bool false, .int .i64 1, .int .i64 0, .int .i64 0] 33)
        have HY := Lib.hid (At.new v14 #[.bool false, .int .i64 1, .int .i64 0, .int .i64 0] 33)
        replace HA := Lib.hid (At.below' hbS HA.out)
        replace HT := Lib.hid (At.below' hbS HT.out)
        replace HV := Lib.hid (At.below' hbS HV.out)
        replace HX := Lib.hid (At.below' hbS HX.out)
        replace mx3 := mx3.below hbS
        replace HB := Lib.hid (HB.out.trans (hbS.mono HB.out.size))
        clear hbS
        simp only [scA, noS, pt, one1, nul]
        go_upto_region 16 with (fail)
        generalize (v14.alloc (.cells #[.bool false, .int .i64 1, .int .i64 0, .int .i64 0] 33)) = v15 at *
        generalize v14.heap.size = YB at *
        have e2 : hasM x3 (pt 1 4) = true := by rw [hasM_dat Dx3.out]; exact I1H.out
        have e3 : reachM x3 (pt 1 4) (sizN (2 + (d : Int) * 2) 7) = 0 := by rw [reachM_dat Dx3.out]; exact I6H.out
        have a0 : v15.cell? ⟨X, 0, none⟩ = some (.bool true) := HA.out.cell 0 rfl
        have a1 : v15.cell? ⟨X, 1, none⟩ = some (.int .i64 (2 + (d : Int) * 2)) := HA.out.cell 1 rfl
        have t0 : v15.cell? ⟨X + 3, 0, none⟩ = some (.bool true) := HT.out.cell 0 rfl
        have t1 : v15.cell? ⟨X + 3, 1, none⟩ = some (.int .i64 0) := HT.out.cell 1 rfl
        have t2 : v15.cell? ⟨X + 3, 2, none⟩ = some (.int .i64 1) := HT.out.cell 2 rfl
        have t3 : v15.cell? ⟨X + 3, 3, none⟩ = some (.int .i64 4) := HT.out.cell 3 rfl
        have cS := Store_yes true (2 + (d : Int) * 2) 7 (some ⟨B3, 0, none⟩) 2 C3 x3 (pt 1 4) nul HP.out I5H.out e2 v15 mx3
        rw [e3, storeD_dat Dx3.out, sto_eq I6H.out] at cS
        simp only [scV_pt, scV_one1, scV_nul] at cS
        go_wp2_with fail
        refine cS.mono ?_
        rintro e v16 ⟨B4, C4, x4, rfl, hown, hd4, hxl, hcap, hbS⟩
        have mx4 := hown.isMem hxl (by decide)
        clear a0 a1 t0 t1 t2 t3
        clear cS hown hxl hcap
        have Dx4 : Hid (datM x4 = datM (ov4 (X + 1) true (2 + (d : Int) * 2) (1 + (t5 : Int)))) := Lib.hid hd4
        clear hd4
        replace HA := Lib.hid (At.below' hbS HA.out)
        replace HT := Lib.hid (At.below' hbS HT.out)
        replace HV := Lib.hid (At.below' hbS HV.out)
        replace HX := Lib.hid (At.below' hbS HX.out)
        replace HY := Lib.hid (At.below' hbS HY.out)
        replace HB := Lib.hid (HB.out.trans (hbS.mono HB.out.size))
        clear hbS
        clear e2 e3 mx3 Dx3
        have e1 : loadS true (2 + (d : Int) * 2) 7 x4 (pt 1 4) = (nul, 0) := by rw [loadS_dat Dx4.out]; exact J2H.out
        have e2 : hasM x4 (pt 1 4) = true := by rw [hasM_dat Dx4.out]; exact J1H.out
        have a0 : v16.cell? ⟨X, 0, none⟩ = some (.bool true) := HA.out.cell 0 rfl
        have a1 : v16.cell? ⟨X, 1, none⟩ = some (.int .i64 (2 + (d : Int) * 2)) := HA.out.cell 1 rfl
        have t0 : v16.cell? ⟨X + 3, 0, none⟩ = some (.bool true) := HT.out.cell 0 rfl
        have t1 : v16.cell? ⟨X + 3, 1, none⟩ = some (.int .i64 0) := HT.out.cell 1 rfl
        have t2 : v16.cell? ⟨X + 3, 2, none⟩ = some (.int .i64 1) := HT.out.cell 2 rfl
        have t3 : v16.cell? ⟨X + 3, 3, none⟩ = some (.int .i64 4) := HT.out.cell 3 rfl
        have cL := Load_yes true (2 + (d : Int) * 2) 7 (some ⟨B4, 0, none⟩) 2 C4 x4 (pt 1 4) HP.out (by decide) e2 v16 mx4
        rw [e1] at cL
        simp only [scV_pt, scV_one1, scV_nul] at cL
        go_wp2_with fail
        refine cL.mono ?_
        rintro e v17 ⟨rfl, hbS⟩
        clear a0 a1 t0 t1 t2 t3
        clear cL e1 e2
        replace HA := Lib.hid (At.below' hbS HA.out)
        replace HT := Lib.hid (At.below' hbS HT.out)
        replace HV := Lib.hid (At.below' hbS HV.out)
        replace HX := Lib.hid (At.below' hbS HX.out)
        replace HY := Lib.hid (At.below' hbS HY.out)
        replace mx4 := mx4.below hbS
        replace HB := Lib.hid (HB.out.trans (hbS.mono HB.out.size))
        clear hbS
        have hbS := below_box1 v17 (.cells #[.bool true, .int .i64 0, .int .i64 0, .int .i64 0] 33)
        have HZ := Lib.hid (At.new v17 #[.bool true, .int .i64 0, .int .i64 0, .int .i64 0] 33)
        replace HA := Lib.hid (At.below' hbS HA.out)
        replace HT := Lib.hid (At.below' hbS HT.out)
        replace HV := Lib.hid (At.below' hbS HV.out)
        replace HX := Lib.hid (At.below' hbS HX.out)
        replace HY := Lib.hid (At.below' hbS HY.out)
        replace mx4 := mx4.below hbS
        replace HB := Lib.hid (HB.out.trans (hbS.mono HB.out.size))
        clear hbS
        simp only [scA, noS, pt, one1, nul]
        go_upto_region 18 with (fail)
        generalize (v17.alloc (.cells #[.bool true, .int .i64 0, .int .i64 0, .int .i64 0] 33)) = v18 at *
        generalize v17.heap.size = ZB at *
        have y0 : v18.cell? ⟨YB, 0, none⟩ = some (.bool false) := HY.out.cell 0 rfl
        have y1 : v18.cell? ⟨YB, 1, none⟩ = some (.int .i64 1) := HY.out.cell 1 rfl
        have y2 : v18.cell? ⟨YB, 2, none⟩ = some (.int .i64 0) := HY.out.cell 2 rfl
        have y3 : v18.cell? ⟨YB, 3, none⟩ = some (.int .i64 0) := HY.out.cell 3 rfl
        have z0 : v18.cell? ⟨ZB, 0, none⟩ = some (.bool true) := HZ.out.cell 0 rfl
        have z1 : v18.cell? ⟨ZB, 1, none⟩ = some (.int .i64 0) := HZ.out.cell 1 rfl
        have z2 : v18.cell? ⟨ZB, 2, none⟩ = some (.int .i64 0) := HZ.out.cell 2 rfl
        have z3 : v18.cell? ⟨ZB, 3, none⟩ = some (.int .i64 0) := HZ.out.cell 3 rfl
        have hNE := fun w => neq_sc' true 0 0 0 true 0 0 0 w
        rw [eqS_refl] at hNE
        go_wp2_with (go_at_call 31; (with_reducible refine (cN _ _).mono ?_); rintro e w' ⟨rfl, rfl⟩)
        go_roundw
        case rel => exact ⟨q + 1, by omega, by go_num, HB.out⟩
        case measure => (simp [intOf]; try omega)
    · have hb9 := hb0.trans (hbr.mono hb0.size)
      clear hbr
      go_wp2_with fail
      refine (cW _).mono ?_
      rintro e w3 ⟨rfl, hb3⟩
      go_wp2
      go_ret
      exact ⟨rfl, hb9.trans (hb3.mono hb9.size)⟩
end Go.Proofs.Ytoooddjlgbflfaa
