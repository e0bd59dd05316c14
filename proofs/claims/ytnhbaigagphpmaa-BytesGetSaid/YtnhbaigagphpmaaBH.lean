/- BytesGet: its inner loop: each machine. -/
import Derived.Test.YtnhbaigagphpmaaBGR
import Derived.Test.YtnhbaigagphpmaaBRGet
import Derived.Test.YtnhbaigagphpmaaBGet
import Derived.Deep.Cut
import Derived.Deep.CutRange
namespace Go.Proofs.Ytnhbaigagphpmaa
open Go.ChangeShapes Go.WideShapes Go.ChangeAt Go.RowKit Go.Joins Go.Deep
set_option linter.unusedVariables false

theorem open_124 (t : Array Value) (h : t.size = 124) : t = #[sl t 0, sl t 1, sl t 2, sl t 3, sl t 4, sl t 5, sl t 6, sl t 7, sl t 8, sl t 9, sl t 10, sl t 11, sl t 12, sl t 13, sl t 14, sl t 15, sl t 16, sl t 17, sl t 18, sl t 19, sl t 20, sl t 21, sl t 22, sl t 23, sl t 24, sl t 25, sl t 26, sl t 27, sl t 28, sl t 29, sl t 30, sl t 31, sl t 32, sl t 33, sl t 34, sl t 35, sl t 36, sl t 37, sl t 38, sl t 39, sl t 40, sl t 41, sl t 42, sl t 43, sl t 44, sl t 45, sl t 46, sl t 47, sl t 48, sl t 49, sl t 50, sl t 51, sl t 52, sl t 53, sl t 54, sl t 55, sl t 56, sl t 57, sl t 58, sl t 59, sl t 60, sl t 61, sl t 62, sl t 63, sl t 64, sl t 65, sl t 66, sl t 67, sl t 68, sl t 69, sl t 70, sl t 71, sl t 72, sl t 73, sl t 74, sl t 75, sl t 76, sl t 77, sl t 78, sl t 79, sl t 80, sl t 81, sl t 82, sl t 83, sl t 84, sl t 85, sl t 86, sl t 87, sl t 88, sl t 89, sl t 90, sl t 91, sl t 92, sl t 93, sl t 94, sl t 95, sl t 96, sl t 97, sl t 98, sl t 99, sl t 100, sl t 101, sl t 102, sl t 103, sl t 104, sl t 105, sl t 106, sl t 107, sl t 108, sl t 109, sl t 110, sl t 111, sl t 112, sl t 113, sl t 114, sl t 115, sl t 116, sl t 117, sl t 118, sl t 119, sl t 120, sl t 121, sl t 122, sl t 123] := (frame_list t 124 h).trans (by kernel_rfl)
noncomputable def gBody1 : Code := ((Try.f3.body.map loops).getD []).getD 0 .skip
noncomputable def gBody2 : Code := (loops gBody1).getD 0 .skip
noncomputable def gBody3 : Code := (loops gBody2).getD 0 .skip
noncomputable def gBody4 : Code := (loops gBody3).getD 0 .skip
def CanG (pp k : Int) (m : Nat) (ys : List BY) : Prop := mayA pp ∧ (1 ≤ k ∧ k ≤ 7) ∧ sizN pp k = m ∧ maysY ys = true
theorem Get_all (big : Bool) (pp k : Int) (q : Option Addr) (m cap : Nat) (ys : List BY) : ∃ (R : SC) (bad ev : Int), (∀ w, IsBys w q m ys → Calls Try.prog 9 #[.agg #[.bool big, .int .i64 pp], .int .i64 k, .slice q m cap] w (GetPost R bad ev w)) ∧
    ((CanG pp k m ys ∧ ev = 0 ∧ getS big k ys = (R, bad)) ∨ (¬ CanG pp k m ys ∧ ev = 1 ∧ R = noS ∧ bad = 0)) := by
  by_cases h : CanG pp k m ys
  · exact ⟨(getS big k ys).1, (getS big k ys).2, 0, fun w hx => Get_any big pp k q m cap ys h.1 h.2.1 h.2.2.1 w hx h.2.2.2, Or.inl ⟨h, rfl, rfl⟩⟩
  · exact ⟨noS, 0, 1, fun w hx => Get_no big pp k q m cap ys w hx h, Or.inr ⟨h, rfl, rfl, rfl⟩⟩
def GetD (w : World) (ga ma : Nat) (fa : List (Bool × Int)) (gl i : Nat) (xq : Option Addr) (m xc : Nat) (qi : Option Addr) (ys : List BY) : Prop :=
  MachAt w ga ma fa ∧ w.cell? ⟨gl, i, none⟩ = some (.slice xq m xc) ∧ IsBys w xq m ys ∧ IsBys w qi m ys
theorem GetD.below {w w' : World} {ga ma gl i m xc : Nat} {fa : List (Bool × Int)} {xq qi : Option Addr} {ys : List BY} (h : GetD w ga ma fa gl i xq m xc qi ys) (hb : Below w.heap.size w w') : GetD w' ga ma fa gl i xq m xc qi ys :=
  ⟨h.1.below hb, cell_below h.2.1 hb, h.2.2.1.below hb, h.2.2.2.below hb⟩
def GFr4 (t : Array Value) (v1 v3 v4 v5 v6 v7 v8 : Value) : Prop := t.size = 124 ∧ sl t 1 = v1 ∧ sl t 3 = v3 ∧ sl t 4 = v4 ∧ sl t 5 = v5 ∧ sl t 6 = v6 ∧ sl t 7 = v7 ∧ sl t 8 = v8
def GRel4 (B ga ma capa n gl nl capl i m ci xc kd : Nat) (qi xq : Option Addr) (ys : List BY) (fa : List (Bool × Int)) (w0 : World) (nn : Nat) (a : Act) (wr : World) : Prop :=
  ∃ t j z, a = ⟨t, []⟩ ∧ GFr4 t (.pointer (some ⟨B, 0, none⟩)) (.slice (some ⟨ga, 0, none⟩) ma capa) (.int .i64 (n : Nat)) (.slice (some ⟨gl, 0, none⟩) nl capl) (.int .i64 (i : Nat)) (.slice qi m ci) (.int .i64 (kd : Nat)) ∧ sl t 9 = .int .i64 z ∧ z = (j : Nat) ∧ j + nn = ma ∧ Below w0.heap.size w0 wr
set_option maxRecDepth 1000000 in
set_option maxHeartbeats 12800000 in
theorem gloop4 (B ga ma capa n gl nl capl i m ci xc kd : Nat) (qi xq : Option Addr) (ys : List BY) (fa : List (Bool × Int)) (w0 : World) (hi : i < nl) (hma : ma ≤ 6) (hD : GetD w0 ga ma fa gl i xq m xc qi ys)
    (t : Array Value) (hF : GFr4 t (.pointer (some ⟨B, 0, none⟩)) (.slice (some ⟨ga, 0, none⟩) ma capa) (.int .i64 (n : Nat)) (.slice (some ⟨gl, 0, none⟩) nl capl) (.int .i64 (i : Nat)) (.slice qi m ci) (.int .i64 (kd : Nat))) (fc : sl t 9 = .int .i64 0) (Q : Exit → Act → World → Prop)
    (hQ : ∀ t w', GFr4 t (.pointer (some ⟨B, 0, none⟩)) (.slice (some ⟨ga, 0, none⟩) ma capa) (.int .i64 (n : Nat)) (.slice (some ⟨gl, 0, none⟩) nl capl) (.int .i64 (i : Nat)) (.slice qi m ci) (.int .i64 (kd : Nat)) → Below w0.heap.size w0 w' → Q (.exit 6) ⟨t, []⟩ w') :
    (Code.loop gBody4).wp Try.prog (NoPanic Q) ⟨t, []⟩ w0 := by
  refine wp_loop_ghost_k (GRel4 B ga ma capa n gl nl capl i m ci xc kd qi xq ys fa w0) ma ⟨t, 0, 0, rfl, hF, fc, rfl, by omega, Below.refl _ _⟩ ?_
  clear hF fc
  intro nn a wr hrel iK iJv hJ hK
  clear t
  obtain ⟨t, j, z, rfl, ⟨f0, f1, f3, f4, f5, f6, f7, f8⟩, fc, rfl, hjn, hbd⟩ := hrel
  rw [open_124 t f0]
  simp only [f1, f3, f4, f5, f6, f7, f8, fc]
  clear f0 f1 f3 f4 f5 f6 f7 f8 fc
  conv => arg 2; whnf
  by_cases hj : j < ma
  · have t1 : (j : Int) < (ma : Int) := by omega
    have hi3 : (i : Int) < (nl : Int) := by omega
    have HD := Lib.hid (hD.below hbd)
    have HBD := Lib.hid hbd
    clear hD hbd hQ
    obtain ⟨hMa, x0, hX, hI⟩ := HD.out
    obtain ⟨m0, m1⟩ := hMa.2.2 j hj
    have HI := Lib.hid hI
    clear hMa x0 hX hI
    obtain ⟨big, pp, hfa⟩ : ∃ big pp, fa.getD j (false, 0) = (big, pp) := ⟨_, _, rfl⟩
    rw [hfa] at m0 m1
    dsimp only at m0 m1
    have HFA := Lib.hid hfa
    clear hfa
    have cN := fun x w => num_any x w
    obtain ⟨⟨rp, rn, rb, ro⟩, bad, ev, cG, hcase⟩ := Get_all big pp (kd : Nat) qi m ci ys
    have HCASE := Lib.hid hcase
    have hRG := fun w (h : CanG pp (kd : Nat) m ys) hx => rGet_any big pp (kd : Nat) qi m ci ys h.1 h.2.1 h.2.2.1 w hx h.2.2.2
    have HRG := Lib.hid hRG
    have cG1 := cG wr HI.out
    unfold GetPost scA at cG1
    dsimp only at cG1
    clear cG hcase hRG
    go_wp2_with fail
    refine cG1.mono ?_
    rintro e w5 ⟨rfl, hb5⟩
    replace HD := Lib.hid (HD.out.below hb5)
    replace HBD := Lib.hid (HBD.out.trans (hb5.mono HBD.out.size))
    clear cG1 m0 m1 HI
    obtain ⟨X1, hX1⟩ : ∃ X1, X1 = w5.heap.size := ⟨_, rfl⟩
    have d1 := At.new w5 #[.bool rp, .int .i64 rn, .int .i64 rb, .int .i64 ro] 33
    have hb6 := below_box1 w5 (.cells #[.bool rp, .int .i64 rn, .int .i64 rb, .int .i64 ro] 33)
    have d2 := At.new (w5.alloc (.cells #[.bool rp, .int .i64 rn, .int .i64 rb, .int .i64 ro] 33)) #[.bool false, .int .i64 0, .int .i64 0, .int .i64 0] 33
    have hb7 := below_box1 (w5.alloc (.cells #[.bool rp, .int .i64 rn, .int .i64 rb, .int .i64 ro] 33)) (.cells #[.bool false, .int .i64 0, .int .i64 0, .int .i64 0] 33)
    have hB6 := hb6.trans (hb7.mono hb6.size)
    replace d1 := At.below' hb7 d1
    have d2' : At ((w5.alloc (.cells #[.bool rp, .int .i64 rn, .int .i64 rb, .int .i64 ro] 33)).alloc (.cells #[.bool false, .int .i64 0, .int .i64 0, .int .i64 0] 33)) (w5.heap.size + 1) #[.bool false, .int .i64 0, .int .i64 0, .int .i64 0] 33 := by simpa using d2
    clear hb5 hb6 hb7 d2
    go_upto_region 20 with (fail)
    generalize hw6 : (w5.alloc (.cells #[.bool rp, .int .i64 rn, .int .i64 rb, .int .i64 ro] 33)).alloc (.cells #[.bool false, .int .i64 0, .int .i64 0, .int .i64 0] 33) = w6 at *
    rw [← hX1] at d1 d2' hB6 ⊢
    have HX1 := Lib.hid hX1
    have HB6 := Lib.hid hB6
    clear hw6 hX1 hB6
    obtain ⟨hMa, _, _, hI2⟩ := HD.out.below (by rw [← HX1.out]; exact HB6.out)
    obtain ⟨m0, m1⟩ := hMa.2.2 j hj
    rw [HFA.out] at m0 m1
    dsimp only at m0 m1
    have HI2 := Lib.hid hI2
    have HD1 := Lib.hid d1
    have HD2 := Lib.hid d2'
    clear hMa hI2 d1 d2'
    go_cut [89] from 66 to 88 (fun v wx => ∃ c : Bool, v = .bool c ∧ (c = true ↔ CanG pp (kd : Nat) m ys) ∧ Below w6.heap.size w6 wx)
    case first =>
      clear hJ hK HD HBD HCASE HRG HD1 HD2
      have cA := fun w => Abi_any big pp w
      have cK := fun w => Kind_any (kd : Nat) w
      have cB := fun w hx => rBytes_any qi m ci ys w hx
      obtain ⟨ab, hab⟩ : ∃ ab, ab = (pp == 2 || pp == 4) := ⟨_, rfl⟩
      obtain ⟨kb, hkb⟩ : ∃ kb, kb = upTo (kd : Nat) 1 7 := ⟨_, rfl⟩
      obtain ⟨yb, hyb⟩ : ∃ yb, yb = maysY ys := ⟨_, rfl⟩
      rw [← hab] at cA
      rw [← hkb] at cK
      rw [← hyb] at cB
      have hA : ab = true ↔ mayA pp := by rw [hab]; unfold mayA; simp
      have hK2 : kb = true ↔ (1 ≤ (kd : Int) ∧ (kd : Int) ≤ 7) := by rw [hkb]; simp [upTo]
      have hcan : CanG pp (kd : Nat) m ys ↔ (ab = true ∧ kb = true ∧ sizN pp (kd : Nat) = m ∧ yb = true) := by
        unfold CanG; rw [hA, hK2, hyb]
      have HCAN := Lib.hid hcan
      have HA := Lib.hid hA
      have HK2 := Lib.hid hK2
      clear hcan hA hK2 hab hkb hyb
      cases ab
      · go_wp2_with (first | (go_at_call 10; (with_reducible refine (cA _).mono ?_); rintro e wa ⟨rfl, hba⟩; replace m0 := cell_below m0 hba; replace m1 := cell_below m1 hba) | (go_at_call 11; (with_reducible refine (cK _).mono ?_); rintro e wk ⟨rfl, rfl⟩) | (go_at_call 12; (with_reducible refine (cZ _).mono ?_); rintro e wz ⟨rfl, hbz⟩) | (go_at_call 13; (with_reducible refine (cB _ (HI2.out.below (hba.trans (hbz.mono hba.size)))).mono ?_); rintro e wb ⟨rfl, hbb⟩))
        go_meet
        case rel => exact ⟨false, rfl, by rw [HCAN.out]; simp, hba⟩
      · cases kb
        · go_wp2_with (first | (go_at_call 10; (with_reducible refine (cA _).mono ?_); rintro e wa ⟨rfl, hba⟩; replace m0 := cell_below m0 hba; replace m1 := cell_below m1 hba) | (go_at_call 11; (with_reducible refine (cK _).mono ?_); rintro e wk ⟨rfl, rfl⟩) | (go_at_call 12; (with_reducible refine (cZ _).mono ?_); rintro e wz ⟨rfl, hbz⟩) | (go_at_call 13; (with_reducible refine (cB _ (HI2.out.below (hba.trans (hbz.mono hba.size)))).mono ?_); rintro e wb ⟨rfl, hbb⟩))
          go_meet
          case rel => exact ⟨false, rfl, by rw [HCAN.out]; simp, hba⟩
        · have cZ := fun w => rSize_any big pp (kd : Nat) (HA.out.1 rfl) (HK2.out.1 rfl) w
          generalize hsz : sizN pp (kd : Nat) = sz at *
          have HSZ := Lib.hid hsz
          clear hsz
          by_cases hms : sz = m
          · have tz : ((m : Int) == (sz : Int)) = true := by rw [beq_iff_eq]; omega
            have HMS := Lib.hid hms
            clear hms
            go_wp2_with (first | (go_at_call 10; (with_reducible refine (cA _).mono ?_); rintro e wa ⟨rfl, hba⟩; replace m0 := cell_below m0 hba; replace m1 := cell_below m1 hba) | (go_at_call 11; (with_reducible refine (cK _).mono ?_); rintro e wk ⟨rfl, rfl⟩) | (go_at_call 12; (with_reducible refine (cZ _).mono ?_); rintro e wz ⟨rfl, hbz⟩) | (go_at_call 13; (with_reducible refine (cB _ (HI2.out.below (hba.trans (hbz.mono hba.size)))).mono ?_); rintro e wb ⟨rfl, hbb⟩))
            go_meet
            case rel => exact ⟨yb, rfl, by rw [HCAN.out]; simp [HMS.out], (hba.trans (hbz.mono hba.size)).trans (hbb.mono (hba.trans (hbz.mono hba.size)).size)⟩
          · have tz : ((m : Int) == (sz : Int)) = false := by rw [beq_eq_false_iff_ne]; omega
            have HMS := Lib.hid hms
            clear hms
            go_wp2_with (first | (go_at_call 10; (with_reducible refine (cA _).mono ?_); rintro e wa ⟨rfl, hba⟩; replace m0 := cell_below m0 hba; replace m1 := cell_below m1 hba) | (go_at_call 11; (with_reducible refine (cK _).mono ?_); rintro e wk ⟨rfl, rfl⟩) | (go_at_call 12; (with_reducible refine (cZ _).mono ?_); rintro e wz ⟨rfl, hbz⟩) | (go_at_call 13; (with_reducible refine (cB _ (HI2.out.below (hba.trans (hbz.mono hba.size)))).mono ?_); rintro e wb ⟨rfl, hbb⟩))
            go_meet
            case rel => exact ⟨false, rfl, by rw [HCAN.out]; simp [HMS.out], hba.trans (hbz.mono hba.size)⟩
    case rest =>
      obtain ⟨c, rfl, hc, hbw⟩ := hcut
      have hs6 := HD2.out.lt
      replace HB6 := Lib.hid (HB6.out.trans (hbw.mono (by omega)))
      replace HD1 := Lib.hid (At.below' hbw HD1.out)
      replace HD2 := Lib.hid (At.below' hbw HD2.out)
      have HC := Lib.hid hc
      clear hbw hc m0 m1 HI2
      obtain ⟨w7, hw7⟩ : ∃ w7, w7 = wc := ⟨_, rfl⟩
      rw [← hw7] at HB6 HD1 HD2 ⊢
      clear hw7
      go_upto_if 89 with (fail)
      go_cut [13, 15] from 90 to 99 (fun v13 v15 wx => v13 = .int .i64 ev ∧ v15 = .int .i64 bad ∧ At wx X1 #[.bool rp, .int .i64 rn, .int .i64 rb, .int .i64 ro] 33 ∧ At wx (X1 + 1) #[.bool rp, .int .i64 rn, .int .i64 rb, .int .i64 ro] 33 ∧ Below (X1 + 1) w7 wx)
      case first =>
        clear hJ hK HBD
        cases c
        · obtain ⟨_, rfl, hR, rfl⟩ : ¬ CanG pp (kd : Nat) m ys ∧ ev = 1 ∧ (⟨rp, rn, rb, ro⟩ : SC) = noS ∧ bad = 0 := HCASE.out.resolve_left (fun h => absurd (HC.out.2 h.1) (by simp))
          cases hR
          go_wp2_with fail
          go_meet
          case rel => exact ⟨rfl, rfl, HD1.out, HD2.out, Below.refl _ _⟩
        · have hcan := HC.out.1 rfl
          obtain ⟨_, rfl, hLS⟩ : CanG pp (kd : Nat) m ys ∧ ev = 0 ∧ getS big (kd : Nat) ys = (⟨rp, rn, rb, ro⟩, bad) := HCASE.out.resolve_right (fun h => absurd hcan h.1)
          have hRl := fun w => HRG.out w hcan
          rw [hLS] at hRl
          unfold RGetPost scA at hRl
          dsimp only at hRl
          obtain ⟨hMa, _, _, hI2⟩ := HD.out.below (by rw [← HX1.out]; exact HB6.out)
          obtain ⟨m0, m1⟩ := hMa.2.2 j hj
          rw [HFA.out] at m0 m1
          dsimp only at m0 m1
          have cR := hRl w7 hI2
          clear hMa hI2 hLS hcan hRl HC HCASE HRG
          go_wp2_with fail
          refine cR.mono ?_
          rintro e wL ⟨rfl, hbL⟩
          have d2L := At.below' hbL HD2.out
          have st := store4 d2L (.bool rp) (.int .i64 rn) (.int .i64 rb) (.int .i64 ro)
          have E1 := store4_at d2L (.bool rp) (.int .i64 rn) (.int .i64 rb) (.int .i64 ro)
          have E2 := store4_below (hbL.mono (Nat.le_of_lt HD2.out.lt)) (Nat.le_refl (X1 + 1)) (.bool rp) (.int .i64 rn) (.int .i64 rb) (.int .i64 ro)
          have E3 := ((At.below' hbL HD1.out).below (store4_below (Below.refl (X1 + 1) wL) (Nat.le_refl _) (.bool rp) (.int .i64 rn) (.int .i64 rb) (.int .i64 ro)) (Nat.lt_succ_self X1))
          have HE1 := Lib.hid E1
          have HE2 := Lib.hid E2
          have HE3 := Lib.hid E3
          clear E1 E2 E3 d2L cR m0 m1
          go_wp2_with fail
          go_meet
          case rel => exact ⟨rfl, rfl, HE3.out, HE1.out, HE2.out⟩
      case rest =>
        obtain ⟨rfl, rfl, dX, dW, hbw⟩ := hcut
        have x0 := dX.cell 0 rfl
        have x1 := dX.cell 1 rfl
        have x2 := dX.cell 2 rfl
        have x3 := dX.cell 3 rfl
        have y0 := dW.cell 0 rfl
        have y1 := dW.cell 1 rfl
        have y2 := dW.cell 2 rfl
        have y3 := dW.cell 3 rfl
        have hNE := fun w => neq_sc' rp rn rb ro rp rn rb ro w
        rw [eqS_refl] at hNE
        have hee : (ev != ev) = false := by simp
        have hbb2 : (bad != bad) = false := by simp
        have hB9 := HB6.out.trans (hbw.mono (by omega))
        obtain ⟨_, c0, hX, hI⟩ := HD.out.below (by rw [← HX1.out]; exact hB9)
        have hEQ := EqBytes_any qi m ci ys xq m xc ys wc hI hX
        rw [eqLY_iff.2 rfl] at hEQ
        have HB9 := Lib.hid (show Below w5.heap.size w5 wc by rw [← HX1.out]; exact hB9)
        clear dX dW hbw hB9 hX hI HD HD1 HD2 HCASE HRG HC HB6 HX1 HFA
        go_wp2_with (first | (go_at_call 15; (with_reducible refine (cN _ _).mono ?_); rintro e w' ⟨rfl, rfl⟩) | (go_at_call 16; (with_reducible refine hEQ.mono ?_); rintro e w9 ⟨rfl, hb9⟩))
        refine Handed.intro (nn - 1) (by omega) (hJ _ _ _ ⟨_, j + 1, _, rfl, ⟨rfl, rfl, rfl, rfl, rfl, rfl, rfl, rfl⟩, rfl, (by go_num), by omega, HBD.out.trans ((HB9.out.trans (hb9.mono HB9.out.size)).mono HBD.out.size)⟩)
  · have t1 : decide ((j : Int) < (ma : Int)) = false := by simp; omega
    clear hJ hD
    go_wp2_with fail
    exact hQ _ _ ⟨rfl, rfl, rfl, rfl, rfl, rfl, rfl, rfl⟩ hbd
end Go.Proofs.Ytnhbaigagphpmaa
