/- BytesGet: rows' innermost loop: what is put, on each machine, and changed. -/
import Derived.Test.YtnhbaigagphpmaaBG1
import Derived.Deep.RegionHeld3
import Derived.StillTailTactics
import Derived.Test.YtnhbaigagphpmaaBCopy2
namespace Go.Proofs.Ytnhbaigagphpmaa
open Go.ChangeShapes Go.WideShapes Go.ChangeAt Go.RowKit Go.Joins Go.Deep
set_option linter.unusedVariables false

theorem keep7 {w w' : World} {p0 p1 p2 p3 p4 p5 p6 : Addr} {v0 v1 v2 v3 v4 v5 v6 : Value} (h : w.cell? p0 = some v0 ∧ w.cell? p1 = some v1 ∧ w.cell? p2 = some v2 ∧ w.cell? p3 = some v3 ∧ w.cell? p4 = some v4 ∧ w.cell? p5 = some v5 ∧ w.cell? p6 = some v6) (hb : Below w.heap.size w w') : w'.cell? p0 = some v0 ∧ w'.cell? p1 = some v1 ∧ w'.cell? p2 = some v2 ∧ w'.cell? p3 = some v3 ∧ w'.cell? p4 = some v4 ∧ w'.cell? p5 = some v5 ∧ w'.cell? p6 = some v6 := by
  obtain ⟨h0, h1, h2, h3, h4, h5, h6⟩ := h
  exact ⟨cell_below h0 hb, cell_below h1 hb, cell_below h2 hb, cell_below h3 hb, cell_below h4 hb, cell_below h5 hb, cell_below h6 hb⟩
theorem scV_eq8 (a : Bool) (b c d : Int) : scV ⟨a, b, c, d⟩ = .agg #[.bool a, .int .i64 b, .int .i64 c, .int .i64 d] := rfl
/-- block g alone is another, and it is a row of so many bytes -/
def RowBy (g n : Nat) (w0 w : World) : Prop := (∃ ys : List BY, ys.length = n ∧ BRow w g ys) ∧ (∀ b, b ≠ g → b < w0.heap.size → w.heap[b]? = w0.heap[b]?) ∧ Below g w0 w
theorem RowBy.step {w0 w : World} {g n k : Nat} {ys : List BY} (hl : ys.length = n) (hO : (∀ b, b ≠ g → b < w0.heap.size → w.heap[b]? = w0.heap[b]?) ∧ Below g w0 w) (x : BY) (h : BRow (((((w.setCell ⟨g, k * 5, none⟩ (.int .i64 x.st)).setCell ⟨g, k * 5 + 1, none⟩ (.int .i64 x.n)).setCell ⟨g, k * 5 + 2, none⟩ (.int .i64 x.b)).setCell ⟨g, k * 5 + 3, none⟩ (.int .i64 x.o)).setCell ⟨g, k * 5 + 4, none⟩ (.int .i64 x.i)) g (ys.set k x)) :
    RowBy g n w0 (((((w.setCell ⟨g, k * 5, none⟩ (.int .i64 x.st)).setCell ⟨g, k * 5 + 1, none⟩ (.int .i64 x.n)).setCell ⟨g, k * 5 + 2, none⟩ (.int .i64 x.b)).setCell ⟨g, k * 5 + 3, none⟩ (.int .i64 x.o)).setCell ⟨g, k * 5 + 4, none⟩ (.int .i64 x.i)) := by
  refine ⟨⟨_, by rw [List.length_set]; exact hl, h⟩, fun b hb hlt => ?_, ?_⟩
  · rw [Below.heap_setCell _ _ _ _ hb, Below.heap_setCell _ _ _ _ hb, Below.heap_setCell _ _ _ _ hb, Below.heap_setCell _ _ _ _ hb, Below.heap_setCell _ _ _ _ hb]
    exact hO.1 b hb hlt
  · exact ((((hO.2.setCell (p := ⟨g, k * 5, none⟩) (Nat.le_refl _) _).setCell (p := ⟨g, k * 5 + 1, none⟩) (Nat.le_refl _) _).setCell (p := ⟨g, k * 5 + 2, none⟩) (Nat.le_refl _) _).setCell (p := ⟨g, k * 5 + 3, none⟩) (Nat.le_refl _) _).setCell (p := ⟨g, k * 5 + 4, none⟩) (Nat.le_refl _) _
theorem RowBy.drew {w0 w : World} {g n : Nat} (h : RowBy g n w0 w) : RowBy g n w0 w.drew := ⟨h.1, h.2.1, h.2.2.drew⟩
def FrD (t : Array Value) (v1 v2 v3 v9 v10 : Value) : Prop := t.size = 145 ∧ sl t 1 = v1 ∧ sl t 2 = v2 ∧ sl t 3 = v3 ∧ sl t 9 = v9 ∧ sl t 10 = v10
def RelD (B n ga ma capa i kd M : Nat) (wb : World) (nn : Nat) (a : Act) (wr : World) : Prop :=
  ∃ t j z X, a = ⟨t, []⟩ ∧ FrD t (.int .i64 (n : Nat)) (.slice (some ⟨ga, 0, none⟩) ma capa) (.pointer (some ⟨B, 0, none⟩)) (.int .i64 (i : Nat)) (.int .i64 (kd : Nat)) ∧ sl t 11 = .int .i64 z ∧ z = (j : Nat) ∧ j + nn = ma ∧ X.length ≤ M + 3 * j ∧ HRow wb.heap.size X (sl t 7) wr ∧ Below wb.heap.size wb wr
set_option maxRecDepth 1000000 in
set_option maxHeartbeats 12800000 in
theorem rloopD (B n ga ma capa i kd : Nat) (pa ps pb : Option Addr) (la ca ls cs lb cb : Nat) (ss : List SC) (bs : List BY) (fa : List (Bool × Int)) (M : Nat) (X0 : List HB) (wb w0 : World) (hbw0 : Below wb.heap.size wb w0) (hM : M ≤ 10000) (hma : ma ≤ 6) (hn : n = 1 ∨ n = 2 ∨ n = 4) (hi : i < ls) (hi2 : i < 10) (hkd : 1 ≤ kd ∧ kd ≤ 7) (hlb : lb ≤ 300) (hD : RowsD wb B pa ps pb la ca ls cs lb cb ss bs ga ma fa)
    (t : Array Value) (hF : FrD t (.int .i64 (n : Nat)) (.slice (some ⟨ga, 0, none⟩) ma capa) (.pointer (some ⟨B, 0, none⟩)) (.int .i64 (i : Nat)) (.int .i64 (kd : Nat))) (fc : sl t 11 = .int .i64 0) (hX : X0.length ≤ M) (hR : HRow wb.heap.size X0 (sl t 7) w0) (Q : Exit → Act → World → Prop)
    (hQ : ∀ t w' X, FrD t (.int .i64 (n : Nat)) (.slice (some ⟨ga, 0, none⟩) ma capa) (.pointer (some ⟨B, 0, none⟩)) (.int .i64 (i : Nat)) (.int .i64 (kd : Nat)) → X.length ≤ M + 3 * ma → HRow wb.heap.size X (sl t 7) w' → Below wb.heap.size wb w' → Q (.exit 6) ⟨t, []⟩ w') :
    (Code.loop rowsD).wp Try.prog (NoPanic Q) ⟨t, []⟩ w0 := by
  refine wp_loop_ghost_k (RelD B n ga ma capa i kd M wb) ma ⟨t, 0, 0, X0, rfl, hF, fc, rfl, by omega, by omega, hR, hbw0⟩ ?_
  clear hF fc hX hR X0
  intro nn a wr hrel iK iJv hJ hK
  clear t hbw0
  obtain ⟨t, j, z, X, rfl, ⟨f0, f1, f2, f3, f9, f10⟩, fc, rfl, hjn, hXl, hrow, hbd⟩ := hrel
  rw [open_145 t f0]
  obtain ⟨v7, f7⟩ : ∃ v7, v7 = sl t 7 := ⟨_, rfl⟩
  rw [← f7] at hrow ⊢
  simp only [f1, f2, f3, f9, f10, fc]
  clear f0 f1 f2 f3 f9 f10 fc f7
  conv => arg 2; whnf
  by_cases hj : j < ma
  · have t1 : (j : Int) < (ma : Int) := by omega
    have hi3 : (i : Int) < (ls : Int) := by omega
    have HD := Lib.hid (hD.below hbd)
    have HBD := Lib.hid hbd
    have HROW := Lib.hid hrow
    have HXL := Lib.hid hXl
    clear hD hbd hQ hrow hXl
    obtain ⟨dB, hss, hbb, hMa⟩ := HD.out
    obtain ⟨m0, m1⟩ := hMa.2.2 j hj
    obtain ⟨bS, oS, rfl, hbS, hsc⟩ := hss.2.2 (by omega)
    have hS := hsc i hi
    have c1 := dB.cell 1 rfl
    clear dB hss hbb hMa hsc
    generalize fa.getD j (false, 0) = mac at *
    obtain ⟨big, pp⟩ := mac
    generalize ss.getD i default = sv at *
    dsimp only at m0 m1
    have cA := fun w => Abi_any big pp w
    have cK := fun w => rScalar_any (kd : Nat) sv w
    have cZ0 := fun h w => rSize_any big pp (kd : Nat) h (by omega) w
    have cPut := fun h1 h2 w => rPut_any big pp (kd : Nat) h1 sv h2 w
    have hpl := putL_len big (sizN pp (kd : Nat)) sv
    generalize putL big (sizN pp (kd : Nat)) sv = L at *
    generalize hsz : sizN pp (kd : Nat) = sz at *
    have HSZ := Lib.hid hsz
    have HPL := Lib.hid hpl
    have HPUT := Lib.hid cPut
    have HCZ := Lib.hid cZ0
    obtain ⟨kb, hkb⟩ : ∃ kb, kb = mayS (kd : Nat) sv := ⟨_, rfl⟩
    rw [← hkb] at cK
    have HKB := Lib.hid hkb
    obtain ⟨p0, p1, p2, p3⟩ := sv
    simp only [scV_eq8] at cK
    obtain ⟨s0, s1, s2, s3⟩ := hS
    dsimp only at s0 s1 s2 s3
    clear hsz hpl cPut cZ0 hkb
    go_upto_region 15 with (fail)
    go_cut [84] from 59 to 83 (fun v wx => ∃ c : Bool, v = .bool c ∧ (c = false → mayA pp ∧ sz = n ∧ kb = true) ∧ Below wr.heap.size wr wx)
    case first =>
      clear hJ hK HD HBD HROW HXL HPUT
      obtain ⟨ab, hab⟩ : ∃ ab, ab = (pp == 2 || pp == 4) := ⟨_, rfl⟩
      rw [← hab] at cA
      cases ab
      · clear hab
        go_wp2_with (first | (go_at_call 10; (with_reducible refine (cA _).mono ?_); rintro e wa ⟨rfl, hba⟩; replace m0 := cell_below m0 hba; replace m1 := cell_below m1 hba; replace c1 := cell_below c1 hba; replace s0 := cell_below s0 hba; replace s1 := cell_below s1 hba; replace s2 := cell_below s2 hba; replace s3 := cell_below s3 hba) | (go_at_call 12; (with_reducible refine (cZ _).mono ?_); rintro e wz ⟨rfl, hbz⟩; replace m0 := cell_below m0 hbz; replace m1 := cell_below m1 hbz; replace c1 := cell_below c1 hbz; replace s0 := cell_below s0 hbz; replace s1 := cell_below s1 hbz; replace s2 := cell_below s2 hbz; replace s3 := cell_below s3 hbz) | (go_at_call 23; (with_reducible refine (cK _).mono ?_); rintro e wk ⟨rfl, hbk⟩))
        go_meet
        case rel => exact ⟨true, rfl, (fun h => by cases h), hba⟩
      · have hA : mayA pp := by
          unfold mayA
          simpa using hab.symm
        have cZ := fun w => HCZ.out hA w
        clear hab HCZ
        by_cases hzn : sz = n
        · have tz : ((sz : Int) == (n : Int)) = true := by rw [beq_iff_eq]; omega
          have tz2 : ((sz : Int) != (n : Int)) = false := by rw [bne_eq_false_iff_eq]; omega
          have HZN := Lib.hid hzn
          clear hzn
          cases kb
          · go_wp2_with (first | (go_at_call 10; (with_reducible refine (cA _).mono ?_); rintro e wa ⟨rfl, hba⟩; replace m0 := cell_below m0 hba; replace m1 := cell_below m1 hba; replace c1 := cell_below c1 hba; replace s0 := cell_below s0 hba; replace s1 := cell_below s1 hba; replace s2 := cell_below s2 hba; replace s3 := cell_below s3 hba) | (go_at_call 12; (with_reducible refine (cZ _).mono ?_); rintro e wz ⟨rfl, hbz⟩; replace m0 := cell_below m0 hbz; replace m1 := cell_below m1 hbz; replace c1 := cell_below c1 hbz; replace s0 := cell_below s0 hbz; replace s1 := cell_below s1 hbz; replace s2 := cell_below s2 hbz; replace s3 := cell_below s3 hbz) | (go_at_call 23; (with_reducible refine (cK _).mono ?_); rintro e wk ⟨rfl, hbk⟩))
            go_meet
            case rel => exact ⟨true, rfl, (fun h => by cases h), (hba.trans (hbz.mono hba.size)).trans (hbk.mono (hba.trans (hbz.mono hba.size)).size)⟩
          · go_wp2_with (first | (go_at_call 10; (with_reducible refine (cA _).mono ?_); rintro e wa ⟨rfl, hba⟩; replace m0 := cell_below m0 hba; replace m1 := cell_below m1 hba; replace c1 := cell_below c1 hba; replace s0 := cell_below s0 hba; replace s1 := cell_below s1 hba; replace s2 := cell_below s2 hba; replace s3 := cell_below s3 hba) | (go_at_call 12; (with_reducible refine (cZ _).mono ?_); rintro e wz ⟨rfl, hbz⟩; replace m0 := cell_below m0 hbz; replace m1 := cell_below m1 hbz; replace c1 := cell_below c1 hbz; replace s0 := cell_below s0 hbz; replace s1 := cell_below s1 hbz; replace s2 := cell_below s2 hbz; replace s3 := cell_below s3 hbz) | (go_at_call 23; (with_reducible refine (cK _).mono ?_); rintro e wk ⟨rfl, hbk⟩))
            go_meet
            case rel => exact ⟨false, rfl, (fun _ => ⟨hA, HZN.out, trivial⟩), (hba.trans (hbz.mono hba.size)).trans (hbk.mono (hba.trans (hbz.mono hba.size)).size)⟩
        · have tz : ((sz : Int) == (n : Int)) = false := by rw [beq_eq_false_iff_ne]; omega
          have tz2 : ((sz : Int) != (n : Int)) = true := by rw [bne_iff_ne]; omega
          clear hzn
          go_wp2_with (first | (go_at_call 10; (with_reducible refine (cA _).mono ?_); rintro e wa ⟨rfl, hba⟩; replace m0 := cell_below m0 hba; replace m1 := cell_below m1 hba; replace c1 := cell_below c1 hba; replace s0 := cell_below s0 hba; replace s1 := cell_below s1 hba; replace s2 := cell_below s2 hba; replace s3 := cell_below s3 hba) | (go_at_call 12; (with_reducible refine (cZ _).mono ?_); rintro e wz ⟨rfl, hbz⟩; replace m0 := cell_below m0 hbz; replace m1 := cell_below m1 hbz; replace c1 := cell_below c1 hbz; replace s0 := cell_below s0 hbz; replace s1 := cell_below s1 hbz; replace s2 := cell_below s2 hbz; replace s3 := cell_below s3 hbz) | (go_at_call 23; (with_reducible refine (cK _).mono ?_); rintro e wk ⟨rfl, hbk⟩))
          go_meet
          case rel => exact ⟨true, rfl, (fun h => by cases h), hba.trans (hbz.mono hba.size)⟩
    case rest =>
      obtain ⟨c, rfl, hc, hbw⟩ := hcut
      replace m0 := cell_below m0 hbw
      replace m1 := cell_below m1 hbw
      replace c1 := cell_below c1 hbw
      replace s0 := cell_below s0 hbw
      replace s1 := cell_below s1 hbw
      replace s2 := cell_below s2 hbw
      replace s3 := cell_below s3 hbw
      replace HD := Lib.hid (HD.out.below hbw)
      replace HBD := Lib.hid (HBD.out.trans (hbw.mono HBD.out.size))
      replace HROW := Lib.hid (HROW.out.below hbw)
      clear hbw cA cK HCZ
      cases c
      · obtain ⟨hA, hzn, hk⟩ := hc rfl
        have cP := fun w => HPUT.out hA (by rw [← HKB.out]; exact hk) w
        subst hk
        rw [hzn] at cP
        have hpl := HPL.out
        rw [hzn] at hpl
        replace HPL := Lib.hid hpl
        clear hc hA hzn HPUT HSZ HKB hpl
        unfold RowPost at cP
        simp only [scV_eq8] at cP
        go_upto_region 16 with (fail)
        obtain ⟨w4, hw4⟩ : ∃ w4, w4 = wc := ⟨_, rfl⟩
        rw [← hw4] at m0 m1 c1 s0 s1 s2 s3 HD HBD HROW ⊢
        clear hw4
        have hSd : w4.drew.cell? ⟨ga, j * 2, none⟩ = some (.bool big) ∧ w4.drew.cell? ⟨ga, j * 2 + 1, none⟩ = some (.int .i64 pp) ∧ w4.drew.cell? ⟨B, 1, none⟩ = some (.slice (some ⟨bS, oS, none⟩) ls cs) ∧ w4.drew.cell? ⟨bS, oS + i * 4, none⟩ = some (.bool p0) ∧ w4.drew.cell? ⟨bS, oS + i * 4 + 1, none⟩ = some (.int .i64 p1) ∧ w4.drew.cell? ⟨bS, oS + i * 4 + 2, none⟩ = some (.int .i64 p2) ∧ w4.drew.cell? ⟨bS, oS + i * 4 + 3, none⟩ = some (.int .i64 p3) := ⟨m0, m1, c1, s0, s1, s2, s3⟩
        go_wp2_with fail
        go_region_held3 (fun w' => w'.cell? ⟨ga, j * 2, none⟩ = some (.bool big) ∧ w'.cell? ⟨ga, j * 2 + 1, none⟩ = some (.int .i64 pp) ∧ w'.cell? ⟨B, 1, none⟩ = some (.slice (some ⟨bS, oS, none⟩) ls cs) ∧ w'.cell? ⟨bS, oS + i * 4, none⟩ = some (.bool p0) ∧ w'.cell? ⟨bS, oS + i * 4 + 1, none⟩ = some (.int .i64 p1) ∧ w'.cell? ⟨bS, oS + i * 4 + 2, none⟩ = some (.int .i64 p2) ∧ w'.cell? ⟨bS, oS + i * 4 + 3, none⟩ = some (.int .i64 p3))
          (first
            | with_reducible exact hSd
            | with_reducible exact keep7 hSd hbL)
          ((go_at_call 30; (with_reducible refine (cP _).mono ?_); rintro e w5 ⟨PB, rfl, hPge0, dPB, hbL⟩))
        replace hbL : Below w4.heap.size w4 w5 := (Below.refl w4.heap.size w4).drew.trans hbL
        have hPge : w4.heap.size ≤ PB := hPge0
        have hn4 : n ≤ 4 := by omega
        have hn0 : 0 < n := by omega
        have hx5 := bys_of_at dPB HPL.out (show n ≤ 1000 by omega)
        have HPB := Lib.hid dPB
        have HB5 := Lib.hid hbL
        have hPB5 := dPB.lt
        clear hSd cP hbL dPB m0 m1 c1 s0 s1 s2 s3 hPge0
        go_wp2_with fail
        refine (CopyBytes_any (some ⟨PB, 0, none⟩) n n L w5 hx5 hn0).mono ?_
        rintro e w6 ⟨PY, cy, rfl, hPY, hY, hb6⟩
        have HB6 := Lib.hid (HB5.out.trans (hb6.mono HB5.out.size))
        have HPB6 := Lib.hid (At.below' hb6 HPB.out)
        have HY := Lib.hid hY
        have hPY6 := hY.lt
        obtain ⟨dB, _, hin, _⟩ := HD.out.below HB6.out
        have c2 := dB.cell 2 rfl
        have HIN := Lib.hid hin
        have HDB := Lib.hid dB
        clear hx5 hb6 hY dB hin HPB HB5
        go_upto_if 101 with (fail)
        go_cut [13] from 101 to 117 (fun v13 wx => v13 = .slice (some ⟨PY, 0, none⟩) n cy ∧ RowBy PY n w6 wx)
        case first =>
          clear hJ hK HD HBD HROW HXL HB6 HPB6
          by_cases hl0 : 0 < lb
          · have tl : (0 : Int) < (lb : Int) := by omega
            obtain ⟨hbl, _, _, hbc⟩ := HIN.out
            obtain ⟨bb, ob, rfl, hbb, hcells⟩ := hbc hl0
            obtain ⟨rb, hrb⟩ : ∃ rb, rb = i % lb := ⟨_, rfl⟩
            have hrl : rb < lb := by rw [hrb]; exact Nat.mod_lt _ hl0
            obtain ⟨s, hs⟩ : ∃ s, s = i + j := ⟨_, rfl⟩
            obtain ⟨r, hr⟩ : ∃ r, r = s % n := ⟨_, rfl⟩
            have hrn : r < n := by rw [hr]; exact Nat.mod_lt _ hn0
            have e1 : IntKind.i64.wrap ((i : Int) + (j : Int)) = (s : Int) := by rw [IntKind.wrap_i64]; omega
            have e2 : (s : Int).tmod (n : Int) = (r : Nat) := by rw [Int.tmod_eq_emod_of_nonneg (by omega), hr, Int.natCast_emod]
            have e3 : (i : Int).tmod (lb : Int) = (rb : Nat) := by rw [Int.tmod_eq_emod_of_nonneg (by omega), hrb, Int.natCast_emod]
            have g1 : (r : Int) < (n : Int) := by omega
            have g2 : (rb : Int) < (lb : Int) := by omega
            have g3 : ¬ n = 0 := by omega
            have g4 : ¬ lb = 0 := by omega
            obtain ⟨z0, z1, z2, z3, z4⟩ := hcells rb hrl
            generalize bs.getD rb default = y at *
            obtain ⟨w7, hw7⟩ : ∃ w7, w7 = w6.drew := ⟨_, rfl⟩
            obtain ⟨u0, u1, u2, u3, u4, st, hr2⟩ := BRow.store (w := w7) (by rw [hw7]; exact HY.out) r (by rw [HPL.out]; exact hrn) y
            have hRB := RowBy.step (w0 := w6) (n := n) HPL.out (by rw [hw7]; exact ⟨fun _ _ _ => rfl, (Below.refl PY w6).drew⟩) y hr2
            have HRB := Lib.hid hRB
            have HW7 := Lib.hid hw7
            obtain ⟨⟨k0, f0⟩, ⟨k1, f1⟩, ⟨k2, f2⟩, ⟨k3, f3⟩, ⟨k4, f4⟩⟩ := st
            clear hrb hs hr hw7 hr2 hRB hbl hbc hcells
            go_upto_region 19 with (fail)
            go_still_tail 16, (by kernel_rfl)
            change wpList _ _ _ _ _ w6.drew
            rw [← HW7.out]
            go_wp2
            go_meet
            case rel => exact ⟨rfl, HRB.out⟩
          · have tl : decide ((0 : Int) < (lb : Int)) = false := by simp; omega
            have tl2 : decide (0 < lb) = false := by simp; omega
            go_wp2_with fail
            go_meet
            case rel => exact ⟨rfl, ⟨L, HPL.out, HY.out⟩, fun _ _ _ => rfl, Below.refl _ _⟩
        case rest =>
          obtain ⟨rfl, ⟨ysY, hlY, hYr⟩, hoY, hbY⟩ := hcut
          obtain ⟨w7, hw7⟩ : ∃ w7, w7 = wc := ⟨_, rfl⟩
          rw [← hw7] at hYr hoY hbY ⊢
          clear hw7
          have dPB7 : At w7 PB (byC L) 67 := (hoY PB (by omega) HPB6.out.lt).trans HPB6.out
          have hx7 := bys_of_at dPB7 HPL.out (show n ≤ 1000 by omega)
          have HB7 := Lib.hid (HB6.out.trans (hbY.mono (by omega)))
          have hs7 := hbY.size
          have HPB7 := Lib.hid dPB7
          have HYR := Lib.hid hYr
          have HLY := Lib.hid hlY
          clear c2 HIN HDB HPB6 HB6 hoY hbY dPB7 hYr hlY HY
          go_wp2_with fail
          refine (CopyBytes_any (some ⟨PB, 0, none⟩) n n L w7 hx7 hn0).mono ?_
          rintro e w8 ⟨PW, cw, rfl, hPW, hW, hb8⟩
          have HB8 := Lib.hid (HB7.out.trans (hb8.mono HB7.out.size))
          have HPB8 := Lib.hid (At.below' hb8 HPB7.out)
          have HY8 := Lib.hid (HYR.out.below' hb8)
          have HW := Lib.hid hW
          have hPW8 := hW.lt
          clear hx7 hb8 hW HPB7 HB7 HYR
          go_upto_region 21 with (fail)
          go_cut [14] from 120 to 133 (fun v14 wx => v14 = .slice (some ⟨PW, 0, none⟩) n cw ∧ RowBy PW n w8 wx)
          case first =>
            clear hJ hK HD HBD HROW HXL HB8 HPB8 HY8
            rcases hn with rfl | rfl | rfl
            · have e1 : IntKind.i64.wrap (((1 : Nat) : Int) - 1) = 0 := by rw [IntKind.wrap_i64]; omega
              have e2 : IntKind.i64.wrap 0 = 0 := by rw [IntKind.wrap_i64]; omega
              obtain ⟨cs, hA, hsz, hget⟩ := id HW.out
              have hg0 := fun c hc => hget 0 (by rw [HPL.out]; omega) c hc
              have hg1 := fun c hc => hget 0 (by rw [HPL.out]; omega) c hc
              have a0 : w8.cell? ⟨PW, 0, none⟩ = some (.int .i64 (L.getD 0 default).st) := hA.cell _ (by have h := hg0 0 (by decide); simpa [byCells] using h)
              have fza0 := At.free hA 0
              have a1 : w8.cell? ⟨PW, 1, none⟩ = some (.int .i64 (L.getD 0 default).n) := hA.cell _ (by have h := hg0 1 (by decide); simpa [byCells] using h)
              have fza1 := At.free hA 1
              have a2 : w8.cell? ⟨PW, 2, none⟩ = some (.int .i64 (L.getD 0 default).b) := hA.cell _ (by have h := hg0 2 (by decide); simpa [byCells] using h)
              have fza2 := At.free hA 2
              have a3 : w8.cell? ⟨PW, 3, none⟩ = some (.int .i64 (L.getD 0 default).o) := hA.cell _ (by have h := hg0 3 (by decide); simpa [byCells] using h)
              have fza3 := At.free hA 3
              have a4 : w8.cell? ⟨PW, 4, none⟩ = some (.int .i64 (L.getD 0 default).i) := hA.cell _ (by have h := hg0 4 (by decide); simpa [byCells] using h)
              have fza4 := At.free hA 4
              obtain ⟨u0, u1, u2, u3, u4, st, hr2⟩ := BRow.store (w := w8) HW.out 0 (by rw [HPL.out]; omega) (L.getD 0 default)
              have hRB := RowBy.step (w0 := w8) (n := 1) HPL.out ⟨fun _ _ _ => rfl, Below.refl PW w8⟩ (L.getD 0 default) hr2
              obtain ⟨v0, v1, v2, v3, v4, st2, hr3⟩ := BRow.store hr2 0 (by rw [List.length_set, HPL.out]; omega) (L.getD 0 default)
              have hRB2 := (RowBy.step (w0 := w8) (n := 1) (by rw [List.length_set]; exact HPL.out) hRB.2 (L.getD 0 default) hr3).drew
              simp only [Nat.zero_mul, Nat.zero_add] at hRB2
              have HRB := Lib.hid hRB2
              clear hRB hr2 hr3 hget hg0 hg1 hA hsz hRB2 st st2
              generalize L.getD 0 default = y0 at *
              go_region
              all_goals
                go_wp2
                go_meet
                case rel => exact ⟨rfl, HRB.out⟩
            · have e1 : IntKind.i64.wrap (((2 : Nat) : Int) - 1) = 1 := by rw [IntKind.wrap_i64]; omega
              have e2 : IntKind.i64.wrap 1 = 1 := by rw [IntKind.wrap_i64]; omega
              obtain ⟨cs, hA, hsz, hget⟩ := id HW.out
              have hg0 := fun c hc => hget 0 (by rw [HPL.out]; omega) c hc
              have hg1 := fun c hc => hget 1 (by rw [HPL.out]; omega) c hc
              have a0 : w8.cell? ⟨PW, 0, none⟩ = some (.int .i64 (L.getD 0 default).st) := hA.cell _ (by have h := hg0 0 (by decide); simpa [byCells] using h)
              have fza0 := At.free hA 0
              have a1 : w8.cell? ⟨PW, 1, none⟩ = some (.int .i64 (L.getD 0 default).n) := hA.cell _ (by have h := hg0 1 (by decide); simpa [byCells] using h)
              have fza1 := At.free hA 1
              have a2 : w8.cell? ⟨PW, 2, none⟩ = some (.int .i64 (L.getD 0 default).b) := hA.cell _ (by have h := hg0 2 (by decide); simpa [byCells] using h)
              have fza2 := At.free hA 2
              have a3 : w8.cell? ⟨PW, 3, none⟩ = some (.int .i64 (L.getD 0 default).o) := hA.cell _ (by have h := hg0 3 (by decide); simpa [byCells] using h)
              have fza3 := At.free hA 3
              have a4 : w8.cell? ⟨PW, 4, none⟩ = some (.int .i64 (L.getD 0 default).i) := hA.cell _ (by have h := hg0 4 (by decide); simpa [byCells] using h)
              have fza4 := At.free hA 4
              have b0 : w8.cell? ⟨PW, 5, none⟩ = some (.int .i64 (L.getD 1 default).st) := hA.cell _ (by have h := hg1 0 (by decide); simpa [byCells] using h)
              have fzb0 := At.free hA 5
              have b1 : w8.cell? ⟨PW, 6, none⟩ = some (.int .i64 (L.getD 1 default).n) := hA.cell _ (by have h := hg1 1 (by decide); simpa [byCells] using h)
              have fzb1 := At.free hA 6
              have b2 : w8.cell? ⟨PW, 7, none⟩ = some (.int .i64 (L.getD 1 default).b) := hA.cell _ (by have h := hg1 2 (by decide); simpa [byCells] using h)
              have fzb2 := At.free hA 7
              have b3 : w8.cell? ⟨PW, 8, none⟩ = some (.int .i64 (L.getD 1 default).o) := hA.cell _ (by have h := hg1 3 (by decide); simpa [byCells] using h)
              have fzb3 := At.free hA 8
              have b4 : w8.cell? ⟨PW, 9, none⟩ = some (.int .i64 (L.getD 1 default).i) := hA.cell _ (by have h := hg1 4 (by decide); simpa [byCells] using h)
              have fzb4 := At.free hA 9
              obtain ⟨u0, u1, u2, u3, u4, st, hr2⟩ := BRow.store (w := w8) HW.out 0 (by rw [HPL.out]; omega) (L.getD 1 default)
              have hRB := RowBy.step (w0 := w8) (n := 2) HPL.out ⟨fun _ _ _ => rfl, Below.refl PW w8⟩ (L.getD 1 default) hr2
              obtain ⟨v0, v1, v2, v3, v4, st2, hr3⟩ := BRow.store hr2 1 (by rw [List.length_set, HPL.out]; omega) (L.getD 0 default)
              have hRB2 := (RowBy.step (w0 := w8) (n := 2) (by rw [List.length_set]; exact HPL.out) hRB.2 (L.getD 0 default) hr3).drew
              simp only [Nat.zero_mul, Nat.zero_add, Nat.reduceMul, Nat.reduceAdd] at hRB2
              have HRB := Lib.hid hRB2
              clear hRB hr2 hr3 hget hg0 hg1 hA hsz hRB2 st st2
              generalize L.getD 1 default = y1 at *
              generalize L.getD 0 default = y0 at *
              go_region
              all_goals
                go_wp2
                go_meet
                case rel => exact ⟨rfl, HRB.out⟩
            · have e1 : IntKind.i64.wrap (((4 : Nat) : Int) - 1) = 3 := by rw [IntKind.wrap_i64]; omega
              have e2 : IntKind.i64.wrap 3 = 3 := by rw [IntKind.wrap_i64]; omega
              obtain ⟨cs, hA, hsz, hget⟩ := id HW.out
              have hg0 := fun c hc => hget 0 (by rw [HPL.out]; omega) c hc
              have hg1 := fun c hc => hget 3 (by rw [HPL.out]; omega) c hc
              have a0 : w8.cell? ⟨PW, 0, none⟩ = some (.int .i64 (L.getD 0 default).st) := hA.cell _ (by have h := hg0 0 (by decide); simpa [byCells] using h)
              have fza0 := At.free hA 0
              have a1 : w8.cell? ⟨PW, 1, none⟩ = some (.int .i64 (L.getD 0 default).n) := hA.cell _ (by have h := hg0 1 (by decide); simpa [byCells] using h)
              have fza1 := At.free hA 1
              have a2 : w8.cell? ⟨PW, 2, none⟩ = some (.int .i64 (L.getD 0 default).b) := hA.cell _ (by have h := hg0 2 (by decide); simpa [byCells] using h)
              have fza2 := At.free hA 2
              have a3 : w8.cell? ⟨PW, 3, none⟩ = some (.int .i64 (L.getD 0 default).o) := hA.cell _ (by have h := hg0 3 (by decide); simpa [byCells] using h)
              have fza3 := At.free hA 3
              have a4 : w8.cell? ⟨PW, 4, none⟩ = some (.int .i64 (L.getD 0 default).i) := hA.cell _ (by have h := hg0 4 (by decide); simpa [byCells] using h)
              have fza4 := At.free hA 4
              have b0 : w8.cell? ⟨PW, 15, none⟩ = some (.int .i64 (L.getD 3 default).st) := hA.cell _ (by have h := hg1 0 (by decide); simpa [byCells] using h)
              have fzb0 := At.free hA 15
              have b1 : w8.cell? ⟨PW, 16, none⟩ = some (.int .i64 (L.getD 3 default).n) := hA.cell _ (by have h := hg1 1 (by decide); simpa [byCells] using h)
              have fzb1 := At.free hA 16
              have b2 : w8.cell? ⟨PW, 17, none⟩ = some (.int .i64 (L.getD 3 default).b) := hA.cell _ (by have h := hg1 2 (by decide); simpa [byCells] using h)
              have fzb2 := At.free hA 17
              have b3 : w8.cell? ⟨PW, 18, none⟩ = some (.int .i64 (L.getD 3 default).o) := hA.cell _ (by have h := hg1 3 (by decide); simpa [byCells] using h)
              have fzb3 := At.free hA 18
              have b4 : w8.cell? ⟨PW, 19, none⟩ = some (.int .i64 (L.getD 3 default).i) := hA.cell _ (by have h := hg1 4 (by decide); simpa [byCells] using h)
              have fzb4 := At.free hA 19
              obtain ⟨u0, u1, u2, u3, u4, st, hr2⟩ := BRow.store (w := w8) HW.out 0 (by rw [HPL.out]; omega) (L.getD 3 default)
              have hRB := RowBy.step (w0 := w8) (n := 4) HPL.out ⟨fun _ _ _ => rfl, Below.refl PW w8⟩ (L.getD 3 default) hr2
              obtain ⟨v0, v1, v2, v3, v4, st2, hr3⟩ := BRow.store hr2 3 (by rw [List.length_set, HPL.out]; omega) (L.getD 0 default)
              have hRB2 := (RowBy.step (w0 := w8) (n := 4) (by rw [List.length_set]; exact HPL.out) hRB.2 (L.getD 0 default) hr3).drew
              simp only [Nat.zero_mul, Nat.zero_add, Nat.reduceMul, Nat.reduceAdd] at hRB2
              have HRB := Lib.hid hRB2
              clear hRB hr2 hr3 hget hg0 hg1 hA hsz hRB2 st st2
              generalize L.getD 3 default = y1 at *
              generalize L.getD 0 default = y0 at *
              go_region
              all_goals
                go_wp2
                go_meet
                case rel => exact ⟨rfl, HRB.out⟩
          case rest =>
            obtain ⟨rfl, ⟨ws, hlW, hWr⟩, hoW, hbW⟩ := hcut
            have hs8 := hbW.size
            have hYlt := HY8.out.lt
            have dPB9 : At wc PB (byC L) 67 := (hoW PB (by omega) HPB8.out.lt).trans HPB8.out
            have hY9 : BRow wc PY ysY := by
              obtain ⟨cs, h1, h2⟩ := HY8.out
              exact ⟨cs, (hoW PY (by omega) h1.lt).trans h1, h2⟩
            have hB9 := HB8.out.trans (hbW.mono (by omega))
            have hrow9 := HROW.out.below hB9
            have okX : HbOK wc v7 ⟨some ⟨PB, 0, none⟩, n, L⟩ := ⟨by dsimp only; rw [HPL.out]; exact bys_of_at dPB9 HPL.out (by omega), by dsimp only; rw [HPL.out]; exact hn4, fun _ => ⟨PB, 0, rfl, dPB9.lt, HROW.out.fresh hPge⟩⟩
            have okY : HbOK wc v7 ⟨some ⟨PY, 0, none⟩, cy, ysY⟩ := ⟨by dsimp only; rw [HLY.out]; exact hY9.isBys HLY.out (by omega), by dsimp only; rw [HLY.out]; exact hn4, fun _ => ⟨PY, 0, rfl, hY9.lt, HROW.out.fresh (by omega)⟩⟩
            have okW : HbOK wc v7 ⟨some ⟨PW, 0, none⟩, cw, ws⟩ := ⟨by dsimp only; rw [hlW]; exact hWr.isBys hlW (by omega), by dsimp only; rw [hlW]; exact hn4, fun _ => ⟨PW, 0, rfl, hWr.lt, HROW.out.fresh (by omega)⟩⟩
            have hb1 := below_box1 wc (.cells #[.slice (some ⟨PB, 0, none⟩) n n, .slice (some ⟨PY, 0, none⟩) n cy, .slice (some ⟨PW, 0, none⟩) n cw] 24)
            have OKX := Lib.hid (okX.below hb1)
            have OKY := Lib.hid (okY.below hb1)
            have OKW := Lib.hid (okW.below hb1)
            have HR9 := Lib.hid (hrow9.below hb1)
            have HBD9 := Lib.hid ((HBD.out.trans (hB9.mono HBD.out.size)).trans (hb1.mono (HBD.out.trans (hB9.mono HBD.out.size)).size))
            have HLW := Lib.hid hlW
            obtain ⟨mX, hmX⟩ : ∃ mX, mX = X.length := ⟨_, rfl⟩
            have hown := HR9.out.1
            rw [← hmX] at hown
            have HMX := Lib.hid hmX
            have hmb : mX ≤ 20000 := by have := HXL.out; omega
            obtain ⟨j0, gi, gz0, gz1, gz2⟩ := info_parts Try.infoBys
            clear hoW hbW hWr hlW dPB9 hY9 hB9 hrow9 okX okY okW hb1 hmX HROW HBD HB8 HPB8 HY8 HW
            go_wp2_with (first | (at_builtin; go_must (refine wpList_append_lies _ rfl _ _ 29 rfl wb.heap.size 24 j0 _ 1 24 Try.underlying29 gi gz0 gz1 gz2 rfl (by decide) v7 mX (X.map hbV) rfl hown ⟨wc.heap.size, 0, none⟩ 3 3 [.slice (some ⟨PB, 0, none⟩) n n, .slice (some ⟨PY, 0, none⟩) n cy, .slice (some ⟨PW, 0, none⟩) n cw] rfl rfl (World.news_of_block (cs := #[.slice (some ⟨PB, 0, none⟩) n n, .slice (some ⟨PY, 0, none⟩) n cy, .slice (some ⟨PW, 0, none⟩) n cw]) (t := 24) (fr := (0, 0)) (heap_alloc_new wc _)) (by simp [Value.oneCell']) (by decide) (by unfold maxLen; omega) (by omega) HBD9.out.size _ rfl ?_)))
            intro g cap w10 hown4 hgrow hat hlt
            have hrow4 := HR9.out.append (n := mX) (m := 3) (Y := [⟨some ⟨PB, 0, none⟩, n, L⟩, ⟨some ⟨PY, 0, none⟩, cy, ysY⟩, ⟨some ⟨PW, 0, none⟩, cw, ws⟩]) HMX.out.symm rfl (by simp [hbV, HPL.out, HLY.out, HLW.out]) (fun y hy => by
              simp at hy
              rcases hy with rfl | rfl | rfl
              · exact OKX.out
              · exact OKY.out
              · exact OKW.out) hown4 hgrow (by simpa using hat)
            have hb4 := HBD9.out.grown hgrow HBD9.out.size (fun k hk => ownY_ge hown hk)
            have HR4 := Lib.hid hrow4
            have HB4 := Lib.hid hb4
            have hxl := HXL.out
            have hmx := HMX.out
            have hfl : (X ++ ([⟨some ⟨PB, 0, none⟩, n, L⟩, ⟨some ⟨PY, 0, none⟩, cy, ysY⟩, ⟨some ⟨PW, 0, none⟩, cw, ws⟩] : List HB)).length ≤ M + 3 * (j + 1) := by simp; omega
            have HFL := Lib.hid hfl
            clear hrow4 hb4 hown hown4 hgrow hat hlt gi gz0 gz1 gz2 OKX OKY OKW HR9 HBD9 hxl hmx hfl
            go_wp2_with fail
            refine Handed.intro (nn - 1) (by omega) (hJ _ _ _ ⟨_, j + 1, _, _, rfl, ⟨rfl, rfl, rfl, rfl, rfl, rfl⟩, rfl, (by go_num), by omega, HFL.out, HR4.out, HB4.out⟩)
      · clear hc HPUT HSZ HKB HPL m0 m1 c1 s0 s1 s2 s3
        have hX1 := HXL.out
        have hr1 := HROW.out
        have hb1 := HBD.out
        clear HROW HBD
        go_wp2_with fail
        refine Handed.intro (nn - 1) (by omega) (hJ _ _ _ ⟨_, j + 1, _, X, rfl, ⟨rfl, rfl, rfl, rfl, rfl, rfl⟩, rfl, (by go_num), by omega, by omega, hr1, hb1⟩)
  · have t1 : decide ((j : Int) < (ma : Int)) = false := by simp; omega
    have hXb : X.length ≤ M + 3 * ma := by omega
    clear hJ hD hXl
    go_wp2_with fail
    exact hQ _ _ X ⟨rfl, rfl, rfl, rfl, rfl, rfl⟩ hXb hrow hbd
end Go.Proofs.Ytnhbaigagphpmaa
