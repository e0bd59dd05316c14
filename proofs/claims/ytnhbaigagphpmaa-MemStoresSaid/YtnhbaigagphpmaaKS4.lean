/- MemStores: its inner loop: what is stored. -/
import Derived.Test.YtnhbaigagphpmaaKS
namespace Go.Proofs.Ytnhbaigagphpmaa
open Go.ChangeShapes Go.WideShapes Go.ChangeAt Go.RowKit Go.Joins Go.Deep
set_option linter.unusedVariables false

def Fr4 (t : Array Value) (v1 v3 v4 v5 v6 v7 v8 v9 v10 v11 : Value) : Prop := t.size = 180 ∧ sl t 1 = v1 ∧ sl t 3 = v3 ∧ sl t 4 = v4 ∧ sl t 5 = v5 ∧ sl t 6 = v6 ∧ sl t 7 = v7 ∧ sl t 8 = v8 ∧ sl t 9 = v9 ∧ sl t 10 = v10 ∧ sl t 11 = v11
def RelS4 (B i gp np capp k kd AX gv nv capv : Nat) (bm om lm cm mc l ci : Nat) (mq qi : Option Addr) (mm mi : List BK) (big : Bool) (pp : Int) (Lp Vs : List SC) (v3 : Value) (w0 : World) (nn : Nat) (a : Act) (wr : World) : Prop :=
  ∃ t j z, a = ⟨t, []⟩ ∧ Fr4 t (.pointer (some ⟨B, 0, none⟩)) v3 (.int .i64 (i : Nat)) (.slice qi l ci) (.bool (mayM mi)) (.slice (some ⟨gp, 0, none⟩) np capp) (.int .i64 (k : Nat)) (.int .i64 (kd : Nat)) (.pointer (some ⟨AX, 0, none⟩)) (.slice (some ⟨gv, 0, none⟩) nv capv) ∧ sl t 12 = .int .i64 z ∧ z = (j : Nat) ∧ j + nn = 4 ∧ Below w0.heap.size w0 wr
set_option maxRecDepth 1000000 in
set_option maxHeartbeats 12800000 in
theorem sloop4 (B i gp np capp k kd AX gv nv capv : Nat) (bm om lm cm mc l ci : Nat) (mq qi : Option Addr) (mm mi : List BK) (big : Bool) (pp : Int) (Lp Vs : List SC) (v3 : Value) (w0 : World) (hi : i < lm) (hk : k < np) (hkd : kd ≤ 7) (hnv : nv ≤ 1000) (hdat : datM mi = datM mm) (hD : StD w0 B bm om lm cm i mq mc l mm qi mi gp np Lp AX big pp gv nv Vs)
    (t : Array Value) (hF : Fr4 t (.pointer (some ⟨B, 0, none⟩)) v3 (.int .i64 (i : Nat)) (.slice qi l ci) (.bool (mayM mi)) (.slice (some ⟨gp, 0, none⟩) np capp) (.int .i64 (k : Nat)) (.int .i64 (kd : Nat)) (.pointer (some ⟨AX, 0, none⟩)) (.slice (some ⟨gv, 0, none⟩) nv capv)) (fc : sl t 12 = .int .i64 0) (Q : Exit → Act → World → Prop)
    (hQ : ∀ t w', Fr4 t (.pointer (some ⟨B, 0, none⟩)) v3 (.int .i64 (i : Nat)) (.slice qi l ci) (.bool (mayM mi)) (.slice (some ⟨gp, 0, none⟩) np capp) (.int .i64 (k : Nat)) (.int .i64 (kd : Nat)) (.pointer (some ⟨AX, 0, none⟩)) (.slice (some ⟨gv, 0, none⟩) nv capv) → Below w0.heap.size w0 w' → Q (.exit 6) ⟨t, []⟩ w') :
    (Code.loop sBody4).wp Try.prog (NoPanic Q) ⟨t, []⟩ w0 := by
  refine wp_loop_ghost_k (RelS4 B i gp np capp k kd AX gv nv capv bm om lm cm mc l ci mq qi mm mi big pp Lp Vs v3 w0) 4 ⟨t, 0, 0, rfl, hF, fc, rfl, by omega, Below.refl _ _⟩ ?_
  clear hF fc
  intro nn a wr hrel iK iJv hJ hK
  clear t
  obtain ⟨t, j, z, rfl, ⟨f0, f1, f3, f4, f5, f6, f7, f8, f9, f10, f11⟩, fc, rfl, hjn, hbd⟩ := hrel
  rw [open_180 t f0]
  simp only [f1, f3, f4, f5, f6, f7, f8, f9, f10, f11, fc]
  clear f0 f1 f3 f4 f5 f6 f7 f8 f9 f10 f11 fc
  conv => arg 2; whnf
  by_cases hlt : j < nv ∧ j < 4
  · obtain ⟨h1, h2⟩ := hlt
    have t1 : (j : Int) < (nv : Int) := by omega
    have t2 : (j : Int) < 4 := by omega
    have hi3 : (i : Int) < (lm : Int) := by omega
    have hk3 : (k : Int) < (np : Int) := by omega
    have cN := fun x w => num9_any x w
    have HD := Lib.hid (hD.below hbd)
    have HBD := Lib.hid hbd
    have HDAT := Lib.hid hdat
    have hl1 := hD.2.2.2.1.1
    clear hD hbd hQ hdat
    obtain ⟨c0, c1, _, hMI, hRow, hA, hRv⟩ := HD.out
    have hS := hRow.2 k hk
    have hV := hRv.2 j h1
    have hmil := hMI.2.1
    have HM := Lib.hid hMI
    have a0 := hA.cell 0 rfl
    have a1 := hA.cell 1 rfl
    clear hRow hA hRv hMI c0 c1
    generalize Lp.getD k default = pt at *
    generalize Vs.getD j default = sv at *
    obtain ⟨D, bad, ev, n, cS, hcase⟩ := Store_all big pp (kd : Nat) qi l ci mi pt sv hl1
    have cRy := fun (h : CanS pp (kd : Nat) mi pt sv) w hx => rStore_any big pp (kd : Nat) qi l ci mi pt sv h.1 h.2.1 h.2.2 w hx
    have cA := fun w => Abi_any big pp w
    have cK := fun w => rScalar_any (kd : Nat) sv w
    have cP := fun w => rPointer_any qi l ci pt w
    have hcan : CanS pp (kd : Nat) mi pt sv ↔ (mayM mi = true ∧ (pp == 2 || pp == 4) = true ∧ mayS (kd : Nat) sv = true ∧ (mayS 7 pt && decide (pt.b < (l : Int))) = true) := by
      unfold CanS hasM mayA
      rw [hmil]
      simp only [Bool.and_eq_true, Bool.or_eq_true, beq_iff_eq]
      constructor
      · rintro ⟨p1, p2, p3, p4⟩; exact ⟨p3, p1, p2, p4⟩
      · rintro ⟨p3, p1, p2, p4⟩; exact ⟨p1, p2, p3, p4⟩
    have HCAN := Lib.hid hcan
    have HCASE := Lib.hid hcase
    have HRY := Lib.hid cRy
    unfold StoreAll at cS
    obtain ⟨p0, p1, p2, p3⟩ := pt
    obtain ⟨q0, q1, q2, q3⟩ := sv
    simp only [scV_eq] at cS cK cP
    obtain ⟨s0, s1, s2, s3⟩ := hS
    obtain ⟨r0, r1, r2, r3⟩ := hV
    dsimp only at s0 s1 s2 s3 r0 r1 r2 r3 cP
    clear hcan hcase cRy hmil
    go_upto_region 21 with (fail)
    have hSd : wr.drew.cell? ⟨AX, 0, none⟩ = some (.bool big) ∧ wr.drew.cell? ⟨AX, 1, none⟩ = some (.int .i64 pp) ∧ wr.drew.cell? ⟨gp, k * 4, none⟩ = some (.bool p0) ∧ wr.drew.cell? ⟨gp, k * 4 + 1, none⟩ = some (.int .i64 p1) ∧ wr.drew.cell? ⟨gp, k * 4 + 2, none⟩ = some (.int .i64 p2) ∧ wr.drew.cell? ⟨gp, k * 4 + 3, none⟩ = some (.int .i64 p3) ∧ wr.drew.cell? ⟨gv, j * 4, none⟩ = some (.bool q0) ∧ wr.drew.cell? ⟨gv, j * 4 + 1, none⟩ = some (.int .i64 q1) ∧ wr.drew.cell? ⟨gv, j * 4 + 2, none⟩ = some (.int .i64 q2) ∧ wr.drew.cell? ⟨gv, j * 4 + 3, none⟩ = some (.int .i64 q3) := ⟨a0, a1, s0, s1, s2, s3, r0, r1, r2, r3⟩
    go_wp2_with fail
    go_region_held3 (fun w' => w'.cell? ⟨AX, 0, none⟩ = some (.bool big) ∧ w'.cell? ⟨AX, 1, none⟩ = some (.int .i64 pp) ∧ w'.cell? ⟨gp, k * 4, none⟩ = some (.bool p0) ∧ w'.cell? ⟨gp, k * 4 + 1, none⟩ = some (.int .i64 p1) ∧ w'.cell? ⟨gp, k * 4 + 2, none⟩ = some (.int .i64 p2) ∧ w'.cell? ⟨gp, k * 4 + 3, none⟩ = some (.int .i64 p3) ∧ w'.cell? ⟨gv, j * 4, none⟩ = some (.bool q0) ∧ w'.cell? ⟨gv, j * 4 + 1, none⟩ = some (.int .i64 q1) ∧ w'.cell? ⟨gv, j * 4 + 2, none⟩ = some (.int .i64 q2) ∧ w'.cell? ⟨gv, j * 4 + 3, none⟩ = some (.int .i64 q3))
      (first
        | with_reducible exact hSd
        | with_reducible exact keep10 hSd hbL)
      ((go_at_call 22; (with_reducible refine (cS _ (HM.out.below ((Below.refl wr.heap.size wr).drew))).mono ?_); rintro e w5 ⟨xq, cx, x, rfl, hX, hdx, hbL⟩))
    replace hbL : Below wr.heap.size wr w5 := (Below.refl wr.heap.size wr).drew.trans hbL
    have hX5 : XAt w5 wr.heap.size xq n cx x := hX
    have HX := Lib.hid hX5
    have HDX := Lib.hid hdx
    have HBW := Lib.hid hbL
    replace a0 := cell_below a0 hbL
    replace a1 := cell_below a1 hbL
    replace s0 := cell_below s0 hbL
    replace s1 := cell_below s1 hbL
    replace s2 := cell_below s2 hbL
    replace s3 := cell_below s3 hbL
    replace r0 := cell_below r0 hbL
    replace r1 := cell_below r1 hbL
    replace r2 := cell_below r2 hbL
    replace r3 := cell_below r3 hbL
    replace HM := Lib.hid (HM.out.below hbL)
    clear hSd hX hX5 hdx hbL cS
    go_upto_region 24 with (fail)
    obtain ⟨wm, hwm⟩ : ∃ wm, wm = w5 := ⟨_, rfl⟩
    rw [← hwm] at a0 a1 s0 s1 s2 s3 r0 r1 r2 r3 HM HX HBW ⊢
    clear hwm
    go_cut [128] from 108 to 127 (fun v wx => ∃ c : Bool, v = .bool c ∧ (c = true ↔ CanS pp (kd : Nat) mi ⟨p0, p1, p2, p3⟩ ⟨q0, q1, q2, q3⟩) ∧ Below wm.heap.size wm wx)
    case first =>
      clear hJ hK HX HDX HCASE HRY HD HBD HDAT HBW
      generalize hbm : mayM mi = b at *
      generalize hab : (pp == 2 || pp == 4) = ab at *
      generalize hkb : mayS (kd : Nat) ⟨q0, q1, q2, q3⟩ = kb at *
      generalize hpb : (mayS 7 ⟨p0, p1, p2, p3⟩ && decide (p2 < (l : Int))) = pb at *
      clear hbm hab hkb hpb
      cases b
      · go_wp2_with fail
        go_meet
        case rel => exact ⟨false, rfl, by rw [HCAN.out]; simp, Below.refl _ _⟩
      · cases ab
        · go_wp2_with (first | (go_at_call 10; (with_reducible refine (cA _).mono ?_); rintro e wa ⟨rfl, hba⟩; replace a0 := cell_below a0 hba; replace a1 := cell_below a1 hba; replace s0 := cell_below s0 hba; replace s1 := cell_below s1 hba; replace s2 := cell_below s2 hba; replace s3 := cell_below s3 hba; replace r0 := cell_below r0 hba; replace r1 := cell_below r1 hba; replace r2 := cell_below r2 hba; replace r3 := cell_below r3 hba) | (go_at_call 23; (with_reducible refine (cK _).mono ?_); rintro e wk ⟨rfl, hbk⟩; replace a0 := cell_below a0 hbk; replace a1 := cell_below a1 hbk; replace s0 := cell_below s0 hbk; replace s1 := cell_below s1 hbk; replace s2 := cell_below s2 hbk; replace s3 := cell_below s3 hbk; replace r0 := cell_below r0 hbk; replace r1 := cell_below r1 hbk; replace r2 := cell_below r2 hbk; replace r3 := cell_below r3 hbk) | (go_at_call 24; (with_reducible refine (cP _).mono ?_); rintro e wp ⟨rfl, hbp⟩))
          go_meet
          case rel => exact ⟨false, rfl, by rw [HCAN.out]; simp, hba⟩
        · cases kb
          · go_wp2_with (first | (go_at_call 10; (with_reducible refine (cA _).mono ?_); rintro e wa ⟨rfl, hba⟩; replace a0 := cell_below a0 hba; replace a1 := cell_below a1 hba; replace s0 := cell_below s0 hba; replace s1 := cell_below s1 hba; replace s2 := cell_below s2 hba; replace s3 := cell_below s3 hba; replace r0 := cell_below r0 hba; replace r1 := cell_below r1 hba; replace r2 := cell_below r2 hba; replace r3 := cell_below r3 hba) | (go_at_call 23; (with_reducible refine (cK _).mono ?_); rintro e wk ⟨rfl, hbk⟩; replace a0 := cell_below a0 hbk; replace a1 := cell_below a1 hbk; replace s0 := cell_below s0 hbk; replace s1 := cell_below s1 hbk; replace s2 := cell_below s2 hbk; replace s3 := cell_below s3 hbk; replace r0 := cell_below r0 hbk; replace r1 := cell_below r1 hbk; replace r2 := cell_below r2 hbk; replace r3 := cell_below r3 hbk) | (go_at_call 24; (with_reducible refine (cP _).mono ?_); rintro e wp ⟨rfl, hbp⟩))
            go_meet
            case rel => exact ⟨false, rfl, by rw [HCAN.out]; simp, hba.trans (hbk.mono hba.size)⟩
          · go_wp2_with (first | (go_at_call 10; (with_reducible refine (cA _).mono ?_); rintro e wa ⟨rfl, hba⟩; replace a0 := cell_below a0 hba; replace a1 := cell_below a1 hba; replace s0 := cell_below s0 hba; replace s1 := cell_below s1 hba; replace s2 := cell_below s2 hba; replace s3 := cell_below s3 hba; replace r0 := cell_below r0 hba; replace r1 := cell_below r1 hba; replace r2 := cell_below r2 hba; replace r3 := cell_below r3 hba) | (go_at_call 23; (with_reducible refine (cK _).mono ?_); rintro e wk ⟨rfl, hbk⟩; replace a0 := cell_below a0 hbk; replace a1 := cell_below a1 hbk; replace s0 := cell_below s0 hbk; replace s1 := cell_below s1 hbk; replace s2 := cell_below s2 hbk; replace s3 := cell_below s3 hbk; replace r0 := cell_below r0 hbk; replace r1 := cell_below r1 hbk; replace r2 := cell_below r2 hbk; replace r3 := cell_below r3 hbk) | (go_at_call 24; (with_reducible refine (cP _).mono ?_); rintro e wp ⟨rfl, hbp⟩))
            go_meet
            case rel => exact ⟨pb, rfl, by rw [HCAN.out]; simp, (hba.trans (hbk.mono hba.size)).trans (hbp.mono (hba.trans (hbk.mono hba.size)).size)⟩
    case rest =>
      obtain ⟨c, rfl, hc, hbw⟩ := hcut
      replace HM := Lib.hid (HM.out.below hbw)
      replace HX := Lib.hid (HX.out.below hbw)
      replace a0 := cell_below a0 hbw
      replace a1 := cell_below a1 hbw
      replace s0 := cell_below s0 hbw
      replace s1 := cell_below s1 hbw
      replace s2 := cell_below s2 hbw
      replace s3 := cell_below s3 hbw
      replace r0 := cell_below r0 hbw
      replace r1 := cell_below r1 hbw
      replace r2 := cell_below r2 hbw
      replace r3 := cell_below r3 hbw
      replace HBW := Lib.hid (HBW.out.trans (hbw.mono HBW.out.size))
      have HC := Lib.hid hc
      clear hbw hc cA cK cP HCAN
      go_upto_if 128 with (fail)
      obtain ⟨wn, hwn⟩ : ∃ wn, wn = wc := ⟨_, rfl⟩
      rw [← hwn] at a0 a1 s0 s1 s2 s3 r0 r1 r2 r3 HM HX HBW ⊢
      clear hwn
      go_cut [16, 17, 18] from 129 to 143 (fun v16 v17 v18 wx => WantOut D bad ev n v16 v17 v18 wn wx)
      case first =>
        clear hJ hK HX HDX HD HBD HDAT HBW
        cases c
        · obtain ⟨_, rfl, rfl, rfl, rfl⟩ := HCASE.out.resolve_left (fun h => absurd (HC.out.2 h.1) (by simp))
          clear HCASE HRY HC
          go_wp2_with fail
          go_meet
          case rel => exact ⟨none, 0, [], rfl, rfl, rfl, ⟨by omega, rfl, fun h => by omega⟩, rfl, Below.refl _ _⟩
        · have hcn := HC.out.1 rfl
          obtain ⟨_, rfl, hDs, hbs, hnl⟩ := HCASE.out.resolve_right (fun h => absurd hcn h.1)
          have cRS := fun w => HRY.out hcn w
          rw [← hDs, ← hbs] at cRS
          simp only [scV_eq] at cRS
          unfold RStorePost at cRS
          have HNL := Lib.hid hnl
          clear HCASE HRY HC hcn hDs hbs hnl
          go_upto_region 26 with (fail)
          have hSd : wn.drew.cell? ⟨AX, 0, none⟩ = some (.bool big) ∧ wn.drew.cell? ⟨AX, 1, none⟩ = some (.int .i64 pp) ∧ wn.drew.cell? ⟨gp, k * 4, none⟩ = some (.bool p0) ∧ wn.drew.cell? ⟨gp, k * 4 + 1, none⟩ = some (.int .i64 p1) ∧ wn.drew.cell? ⟨gp, k * 4 + 2, none⟩ = some (.int .i64 p2) ∧ wn.drew.cell? ⟨gp, k * 4 + 3, none⟩ = some (.int .i64 p3) ∧ wn.drew.cell? ⟨gv, j * 4, none⟩ = some (.bool q0) ∧ wn.drew.cell? ⟨gv, j * 4 + 1, none⟩ = some (.int .i64 q1) ∧ wn.drew.cell? ⟨gv, j * 4 + 2, none⟩ = some (.int .i64 q2) ∧ wn.drew.cell? ⟨gv, j * 4 + 3, none⟩ = some (.int .i64 q3) := ⟨a0, a1, s0, s1, s2, s3, r0, r1, r2, r3⟩
          go_wp2_with fail
          go_region_held3 (fun w' => w'.cell? ⟨AX, 0, none⟩ = some (.bool big) ∧ w'.cell? ⟨AX, 1, none⟩ = some (.int .i64 pp) ∧ w'.cell? ⟨gp, k * 4, none⟩ = some (.bool p0) ∧ w'.cell? ⟨gp, k * 4 + 1, none⟩ = some (.int .i64 p1) ∧ w'.cell? ⟨gp, k * 4 + 2, none⟩ = some (.int .i64 p2) ∧ w'.cell? ⟨gp, k * 4 + 3, none⟩ = some (.int .i64 p3) ∧ w'.cell? ⟨gv, j * 4, none⟩ = some (.bool q0) ∧ w'.cell? ⟨gv, j * 4 + 1, none⟩ = some (.int .i64 q1) ∧ w'.cell? ⟨gv, j * 4 + 2, none⟩ = some (.int .i64 q2) ∧ w'.cell? ⟨gv, j * 4 + 3, none⟩ = some (.int .i64 q3))
            (first
              | with_reducible exact hSd
              | with_reducible exact keep10 hSd hbL)
            ((go_at_call 25; (with_reducible refine (cRS _ (HM.out.below ((Below.refl wn.heap.size wn).drew))).mono ?_); rintro e w6 ⟨yq, cy, y, rfl, hy, hdy, hbL⟩))
          replace hbL : Below wn.heap.size wn w6 := (Below.refl wn.heap.size wn).drew.trans hbL
          have fin : WantOut D bad 0 n (.int .i64 0) (.int .i64 bad) (.slice yq l cy) wn w6 := by rw [HNL.out]; exact ⟨yq, cy, y, rfl, rfl, rfl, hy, hdy, hbL⟩
          have FIN := Lib.hid fin
          clear hSd hy hdy hbL cRS fin a0 a1 s0 s1 s2 s3 r0 r1 r2 r3
          go_wp2_with fail
          go_meet
          case rel => exact FIN.out
      case rest =>
        obtain ⟨yq, cy, y, rfl, rfl, rfl, hy, hdy, hbw⟩ := hcut
        replace HX := Lib.hid (HX.out.below hbw)
        replace HBW := Lib.hid (HBW.out.trans (hbw.mono HBW.out.size))
        have hE1 := fun w h => eqBlocks_yes xq n cx x yq cy y w (HX.out.isMem.below h) (hy.below h) (HDX.out.trans hdy.symm)
        obtain ⟨c0, c1, hMM, hMI, _⟩ := HD.out.below HBW.out
        have hE2 := fun w h => eqBlocks_yes qi l ci mi mq mc mm w (hMI.below h) (hMM.below h) HDAT.out
        have hbb : (bad != bad) = false := by simp
        have hee : (ev != ev) = false := by simp
        have HMM := Lib.hid hMM
        clear hy hdy hbw HC HCASE HRY a0 a1 s0 s1 s2 s3 r0 r1 r2 r3 hMM hMI
        obtain ⟨wp, hwp⟩ : ∃ wp, wp = wc := ⟨_, rfl⟩
        rw [← hwp] at c0 c1 HX HBW hE1 hE2 ⊢
        clear hwp
        go_wp2_with (first | (go_at_call 26; (with_reducible refine (cN _ _).mono ?_); rintro e w' ⟨rfl, rfl⟩) | (go_at_call 27; (with_reducible refine (hE1 _ (Below.refl _ _)).mono ?_); rintro e w6 ⟨rfl, hbE⟩; replace c0 := cell_below c0 hbE; replace c1 := cell_below c1 hbE) | (go_at_call 27; (with_reducible refine (hE2 _ hbE).mono ?_); rintro e w7 ⟨rfl, hbF⟩))
        have hbX := hbE.trans (hbF.mono hbE.size)
        have hXs := HX.out.below hbX
        have hb7 : Below wr.heap.size wr w7 := HBW.out.trans (hbX.mono HBW.out.size)
        clear c0 c1 hE1 hE2 hbE hbF hbX
        refine (spoilX wr.heap.size xq n cx x w7 hXs).mono ?_
        rintro e w8 ⟨rfl, hbS⟩
        have hb8 := hb7.trans hbS
        obtain ⟨c0, c1, hMM, hMI, _⟩ := HD.out.below hb8
        have hE3 := eqBlocks_yes qi l ci mi mq mc mm w8 hMI hMM HDAT.out
        have HB8 := Lib.hid hb8
        clear hXs hb7 hbS hb8 hMM hMI HX HBW HDX
        go_wp2_with (go_at_call 27; (with_reducible refine hE3.mono ?_); rintro e w9 ⟨rfl, hbG⟩)
        refine Handed.intro (nn - 1) (by omega) (hJ _ _ _ ⟨_, j + 1, _, rfl, ⟨rfl, rfl, rfl, rfl, rfl, rfl, rfl, rfl, rfl, rfl, rfl⟩, rfl, (by go_num), by omega, HBD.out.trans ((HB8.out.trans (hbG.mono HB8.out.size)).mono HBD.out.size)⟩)
  · have hcase : ¬ j < nv ∨ (j < nv ∧ ¬ j < 4) := by
      by_cases h1 : j < nv
      · exact Or.inr ⟨h1, fun h2 => hlt ⟨h1, h2⟩⟩
      · exact Or.inl h1
    clear hlt hJ hD
    rcases hcase with hc1 | ⟨hc1, hc2⟩
    · have t1 : decide ((j : Int) < (nv : Int)) = false := by simp; omega
      go_wp2_with fail
      exact hQ _ _ ⟨rfl, rfl, rfl, rfl, rfl, rfl, rfl, rfl, rfl, rfl, rfl⟩ hbd
    · have t1 : (j : Int) < (nv : Int) := by omega
      have t2 : decide ((j : Int) < 4) = false := by simp; omega
      go_wp2_with fail
      exact hQ _ _ ⟨rfl, rfl, rfl, rfl, rfl, rfl, rfl, rfl, rfl, rfl, rfl⟩ hbd
end Go.Proofs.Ytnhbaigagphpmaa
