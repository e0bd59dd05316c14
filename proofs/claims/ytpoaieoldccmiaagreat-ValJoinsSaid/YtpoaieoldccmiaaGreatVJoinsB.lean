/- ValJoins: a round of its second loop. -/
import Derived.Test.YtpoaieoldccmiaaGreatVJoinsE
import Derived.Test.YtpoaieoldccmiaaGreatVJoinsD
namespace Go.Proofs.YtpoaieoldccmiaaGreat
open Go.ChangeShapes Go.WideShapes Go.ChangeAt Go.RowKit Go.Joins Go.Deep
set_option linter.unusedVariables false

set_option maxRecDepth 1000000 in
set_option maxHeartbeats 6400000 in
theorem roundB (pv : Option Addr) (lv cv : Nat) (vs : List VI) (w w1 : World) (hv : IsVals w pv lv vs) (hlv2 : lv ≤ 100) (Bp : Nat) (pn : Option Addr) (ln cn : Nat) (d0 : At w1 Bp #[.slice pv lv cv, .slice pn ln cn] 25) (hb0 : Below w.heap.size w w1) (i : Nat) (hi1 : i < lv) (hi2 : i < 10)
    (Q : Exit → Act → World → Prop) (hQ : ∀ t w', t.size = 296 → sl t 1 = .pointer (some ⟨Bp, 0, none⟩) → sl t 3 = .int .i64 (i : Nat) → Below w1.heap.size w1 w' → Q (.exit 2) ⟨t, []⟩ w')
    (n : Nat) (a : Act) (wr : World) (hR : RelB lv Bp i w1 n a wr) (J : Nat → Act → World → Prop) (KK : Act → World → Prop) (hJ : ∀ k a' w', RelB lv Bp i w1 k a' w' → J k a' w') (hK : ∀ a' w', Handed J n a' w' → KK a' w') :
    bodyB.wp Tryz.prog (Exit.then KK (NoPanic Q)) a wr := by
  obtain ⟨t, q, z, rfl, f0, f1, f3, f4, rfl, hqn, hbr⟩ := hR
  rw [open_frame t f0]
  simp only [f1, f3, f4]
  clear f0 f1 f3 f4
  conv => arg 2; whnf
  have c0 : wr.cell? ⟨Bp, 0, none⟩ = some (.slice pv lv cv) := (d0.below hbr d0.lt).cell 0 rfl
  by_cases hql : q < lv ∧ q < 10
  · obtain ⟨hq1, hq2⟩ := hql
    have hi3 : (i : Int) < (lv : Int) := by omega
    have hi4 : (i : Int) < 10 := by omega
    have hq3 : (q : Int) < (lv : Int) := by omega
    have hq4 : (q : Int) < 10 := by omega
    obtain ⟨hvl, hvc⟩ := hv
    obtain ⟨bq, off, rfl, hbq, hcells⟩ := hvc (by omega)
    have his : i < vs.length := by omega
    have hqs : q < vs.length := by omega
    have hbx : Below w.heap.size w wr := hb0.trans (hbr.mono hb0.size)
    have hci := (hcells i his).below hbx
    have hcq := (hcells q hqs).below hbx
    obtain ⟨a, ha⟩ : ∃ v, v = vs[i] := ⟨_, rfl⟩
    obtain ⟨b, hb⟩ : ∃ v, v = vs[q] := ⟨_, rfl⟩
    rw [← ha] at hci
    rw [← hb] at hcq
    obtain ⟨ak, ano, al, ah, af, ab⟩ := a
    obtain ⟨bk, bno, bl, bh, bf, bb⟩ := b
    clear hvc hcells hvl ha hb his hqs hbx
    go_upto_region 9 with (fail)
    refine noPanic_mono (cut9 lv cv bq off Bp i q ak ano al ah af ab bk bno bl bh bf bb w1 wr hbr hi3 hq3 c0 hci hcq _ rfl rfl rfl rfl _ ?_)
    clear c0 hci hcq hbr hbq d0 hb0
    intro t1 BA BB w2 f0 f1 f3 f4 f5 f6 dA dB hbA
    rw [open_frame t1 f0]
    simp only [f1, f3, f4, f5, f6]
    clear f0 f1 f3 f4 f5 f6
    by_cases hm : mayB ak ano al ah af ab = true ∧ mayB bk bno bl bh bf bb = true ∧ ak = bk
    · obtain ⟨hmA, hmB, hkk⟩ := hm
      obtain ⟨K, l, h, f, b, rfl, rfl, rfl, rfl, rfl, okA, hzA⟩ := may_nat hmA
      obtain ⟨K2, l2, h2, f2, b2, rfl, rfl, rfl, rfl, rfl, okB, hzB⟩ := may_nat hmB
      obtain rfl : K = K2 := by omega
      clear hzA hzB hkk
      have hWn := okA.pat.hk
      have cJ := fun w => Join_yes meet_holds merge_holds K ano l h f b bno l2 h2 f2 b2 okA okB hmA hmB w
      have cM := fun w => Meet_yes meet_holds K ano l h f b bno l2 h2 f2 b2 okA okB hmA hmB w
      have cI := fun w => In_yes meet_holds K ano l h f b bno l2 h2 f2 b2 okA okB hmA hmB w
      have cVA := fun w => rVal_any (K : Int) ano (l : Int) (h : Int) (f : Int) (b : Int) w
      have cVB := fun w => rVal_any (K : Int) bno (l2 : Int) (h2 : Int) (f2 : Int) (b2 : Int) w
      rw [hmA] at cVA
      rw [hmB] at cVB
      clear hmA hmB
      have p0 : w2.cell? ⟨BA, 0, none⟩ = some (.int .i64 K) := dA.cell 0 rfl
      have p1 : w2.cell? ⟨BA, 1, none⟩ = some (.bool ano) := dA.cell 1 rfl
      have p2 : w2.cell? ⟨BA, 2, none⟩ = some (.int .i64 l) := dA.cell 2 rfl
      have p3 : w2.cell? ⟨BA, 3, none⟩ = some (.int .i64 h) := dA.cell 3 rfl
      have p4 : w2.cell? ⟨BA, 4, none⟩ = some (.int .i64 f) := dA.cell 4 rfl
      have p5 : w2.cell? ⟨BA, 5, none⟩ = some (.int .i64 b) := dA.cell 5 rfl
      have q0 : w2.cell? ⟨BB, 0, none⟩ = some (.int .i64 K) := dB.cell 0 rfl
      have q1 : w2.cell? ⟨BB, 1, none⟩ = some (.bool bno) := dB.cell 1 rfl
      have q2 : w2.cell? ⟨BB, 2, none⟩ = some (.int .i64 l2) := dB.cell 2 rfl
      have q3 : w2.cell? ⟨BB, 3, none⟩ = some (.int .i64 h2) := dB.cell 3 rfl
      have q4 : w2.cell? ⟨BB, 4, none⟩ = some (.int .i64 f2) := dB.cell 4 rfl
      have q5 : w2.cell? ⟨BB, 5, none⟩ = some (.int .i64 b2) := dB.cell 5 rfl
      go_wp2_with fail
      refine (cJ _).mono ?_
      rintro e w3 ⟨xno, xl, xh, xf, xb, rfl, okX, hmX, xall, xone, hb3⟩
      have XALL := Lib.hid xall
      have XONE := Lib.hid xone
      replace dA := At.below' hb3 dA
      replace dB := At.below' hb3 dB
      replace hbA := hbA.trans (hb3.mono hbA.size)
      clear hb3
      clear p0 p1 p2 p3 p4 p5 q0 q1 q2 q3 q4 q5
      clear cJ xall xone
      replace dA := At.alloc dA (.cells #[.int .i64 K, .bool xno, .int .i64 xl, .int .i64 xh, .int .i64 xf, .int .i64 xb] 28)
      replace dB := At.alloc dB (.cells #[.int .i64 K, .bool xno, .int .i64 xl, .int .i64 xh, .int .i64 xf, .int .i64 xb] 28)
      replace hbA := hbA.alloc hbA.size (.cells #[.int .i64 K, .bool xno, .int .i64 xl, .int .i64 xh, .int .i64 xf, .int .i64 xb] 28)
      have dX := At.new w3 #[.int .i64 K, .bool xno, .int .i64 xl, .int .i64 xh, .int .i64 xf, .int .i64 xb] 28
      obtain ⟨BX, hBX⟩ : ∃ B, B = w3.heap.size := ⟨_, rfl⟩
      rw [← hBX] at dX
      have p0 : (w3.alloc (.cells #[.int .i64 K, .bool xno, .int .i64 xl, .int .i64 xh, .int .i64 xf, .int .i64 xb] 28)).cell? ⟨BA, 0, none⟩ = some (.int .i64 K) := dA.cell 0 rfl
      have p1 : (w3.alloc (.cells #[.int .i64 K, .bool xno, .int .i64 xl, .int .i64 xh, .int .i64 xf, .int .i64 xb] 28)).cell? ⟨BA, 1, none⟩ = some (.bool ano) := dA.cell 1 rfl
      have p2 : (w3.alloc (.cells #[.int .i64 K, .bool xno, .int .i64 xl, .int .i64 xh, .int .i64 xf, .int .i64 xb] 28)).cell? ⟨BA, 2, none⟩ = some (.int .i64 l) := dA.cell 2 rfl
      have p3 : (w3.alloc (.cells #[.int .i64 K, .bool xno, .int .i64 xl, .int .i64 xh, .int .i64 xf, .int .i64 xb] 28)).cell? ⟨BA, 3, none⟩ = some (.int .i64 h) := dA.cell 3 rfl
      have p4 : (w3.alloc (.cells #[.int .i64 K, .bool xno, .int .i64 xl, .int .i64 xh, .int .i64 xf, .int .i64 xb] 28)).cell? ⟨BA, 4, none⟩ = some (.int .i64 f) := dA.cell 4 rfl
      have p5 : (w3.alloc (.cells #[.int .i64 K, .bool xno, .int .i64 xl, .int .i64 xh, .int .i64 xf, .int .i64 xb] 28)).cell? ⟨BA, 5, none⟩ = some (.int .i64 b) := dA.cell 5 rfl
      have q0 : (w3.alloc (.cells #[.int .i64 K, .bool xno, .int .i64 xl, .int .i64 xh, .int .i64 xf, .int .i64 xb] 28)).cell? ⟨BB, 0, none⟩ = some (.int .i64 K) := dB.cell 0 rfl
      have q1 : (w3.alloc (.cells #[.int .i64 K, .bool xno, .int .i64 xl, .int .i64 xh, .int .i64 xf, .int .i64 xb] 28)).cell? ⟨BB, 1, none⟩ = some (.bool bno) := dB.cell 1 rfl
      have q2 : (w3.alloc (.cells #[.int .i64 K, .bool xno, .int .i64 xl, .int .i64 xh, .int .i64 xf, .int .i64 xb] 28)).cell? ⟨BB, 2, none⟩ = some (.int .i64 l2) := dB.cell 2 rfl
      have q3 : (w3.alloc (.cells #[.int .i64 K, .bool xno, .int .i64 xl, .int .i64 xh, .int .i64 xf, .int .i64 xb] 28)).cell? ⟨BB, 3, none⟩ = some (.int .i64 h2) := dB.cell 3 rfl
      have q4 : (w3.alloc (.cells #[.int .i64 K, .bool xno, .int .i64 xl, .int .i64 xh, .int .i64 xf, .int .i64 xb] 28)).cell? ⟨BB, 4, none⟩ = some (.int .i64 f2) := dB.cell 4 rfl
      have q5 : (w3.alloc (.cells #[.int .i64 K, .bool xno, .int .i64 xl, .int .i64 xh, .int .i64 xf, .int .i64 xb] 28)).cell? ⟨BB, 5, none⟩ = some (.int .i64 b2) := dB.cell 5 rfl
      go_wp2_with fail
      rw [← hBX]
      clear hBX
      generalize w3.alloc (.cells #[.int .i64 K, .bool xno, .int .i64 xl, .int .i64 xh, .int .i64 xf, .int .i64 xb] 28) = w4 at *
      refine (cM _).mono ?_
      rintro e w5 ⟨yno, yl, yh, yf, yb, rfl, okY, hmY, yall, yin, ynone, hb5⟩
      have YALL := Lib.hid yall
      have YIN := Lib.hid yin
      have YNONE := Lib.hid ynone
      replace dA := At.below' hb5 dA
      replace dB := At.below' hb5 dB
      replace dX := At.below' hb5 dX
      replace hbA := hbA.trans (hb5.mono hbA.size)
      clear hb5
      clear p0 p1 p2 p3 p4 p5 q0 q1 q2 q3 q4 q5
      clear cM yall yin ynone
      replace dA := At.alloc dA (.cells #[.int .i64 K, .bool yno, .int .i64 yl, .int .i64 yh, .int .i64 yf, .int .i64 yb] 28)
      replace dB := At.alloc dB (.cells #[.int .i64 K, .bool yno, .int .i64 yl, .int .i64 yh, .int .i64 yf, .int .i64 yb] 28)
      replace dX := At.alloc dX (.cells #[.int .i64 K, .bool yno, .int .i64 yl, .int .i64 yh, .int .i64 yf, .int .i64 yb] 28)
      replace hbA := hbA.alloc hbA.size (.cells #[.int .i64 K, .bool yno, .int .i64 yl, .int .i64 yh, .int .i64 yf, .int .i64 yb] 28)
      have dY := At.new w5 #[.int .i64 K, .bool yno, .int .i64 yl, .int .i64 yh, .int .i64 yf, .int .i64 yb] 28
      obtain ⟨BY, hBY⟩ : ∃ B, B = w5.heap.size := ⟨_, rfl⟩
      rw [← hBY] at dY
      have p0 : (w5.alloc (.cells #[.int .i64 K, .bool yno, .int .i64 yl, .int .i64 yh, .int .i64 yf, .int .i64 yb] 28)).cell? ⟨BA, 0, none⟩ = some (.int .i64 K) := dA.cell 0 rfl
      have p1 : (w5.alloc (.cells #[.int .i64 K, .bool yno, .int .i64 yl, .int .i64 yh, .int .i64 yf, .int .i64 yb] 28)).cell? ⟨BA, 1, none⟩ = some (.bool ano) := dA.cell 1 rfl
      have p2 : (w5.alloc (.cells #[.int .i64 K, .bool yno, .int .i64 yl, .int .i64 yh, .int .i64 yf, .int .i64 yb] 28)).cell? ⟨BA, 2, none⟩ = some (.int .i64 l) := dA.cell 2 rfl
      have p3 : (w5.alloc (.cells #[.int .i64 K, .bool yno, .int .i64 yl, .int .i64 yh, .int .i64 yf, .int .i64 yb] 28)).cell? ⟨BA, 3, none⟩ = some (.int .i64 h) := dA.cell 3 rfl
      have p4 : (w5.alloc (.cells #[.int .i64 K, .bool yno, .int .i64 yl, .int .i64 yh, .int .i64 yf, .int .i64 yb] 28)).cell? ⟨BA, 4, none⟩ = some (.int .i64 f) := dA.cell 4 rfl
      have p5 : (w5.alloc (.cells #[.int .i64 K, .bool yno, .int .i64 yl, .int .i64 yh, .int .i64 yf, .int .i64 yb] 28)).cell? ⟨BA, 5, none⟩ = some (.int .i64 b) := dA.cell 5 rfl
      have q0 : (w5.alloc (.cells #[.int .i64 K, .bool yno, .int .i64 yl, .int .i64 yh, .int .i64 yf, .int .i64 yb] 28)).cell? ⟨BB, 0, none⟩ = some (.int .i64 K) := dB.cell 0 rfl
      have q1 : (w5.alloc (.cells #[.int .i64 K, .bool yno, .int .i64 yl, .int .i64 yh, .int .i64 yf, .int .i64 yb] 28)).cell? ⟨BB, 1, none⟩ = some (.bool bno) := dB.cell 1 rfl
      have q2 : (w5.alloc (.cells #[.int .i64 K, .bool yno, .int .i64 yl, .int .i64 yh, .int .i64 yf, .int .i64 yb] 28)).cell? ⟨BB, 2, none⟩ = some (.int .i64 l2) := dB.cell 2 rfl
      have q3 : (w5.alloc (.cells #[.int .i64 K, .bool yno, .int .i64 yl, .int .i64 yh, .int .i64 yf, .int .i64 yb] 28)).cell? ⟨BB, 3, none⟩ = some (.int .i64 h2) := dB.cell 3 rfl
      have q4 : (w5.alloc (.cells #[.int .i64 K, .bool yno, .int .i64 yl, .int .i64 yh, .int .i64 yf, .int .i64 yb] 28)).cell? ⟨BB, 4, none⟩ = some (.int .i64 f2) := dB.cell 4 rfl
      have q5 : (w5.alloc (.cells #[.int .i64 K, .bool yno, .int .i64 yl, .int .i64 yh, .int .i64 yf, .int .i64 yb] 28)).cell? ⟨BB, 5, none⟩ = some (.int .i64 b2) := dB.cell 5 rfl
      go_wp2_with fail
      rw [← hBY]
      clear hBY
      generalize w5.alloc (.cells #[.int .i64 K, .bool yno, .int .i64 yl, .int .i64 yh, .int .i64 yf, .int .i64 yb] 28) = w6 at *
      refine (cI _).mono ?_
      rintro e w7 ⟨isn, hisn, rfl, hb7⟩
      have HIN := Lib.hid hisn
      replace dA := At.below' hb7 dA
      replace dB := At.below' hb7 dB
      replace dX := At.below' hb7 dX
      replace dY := At.below' hb7 dY
      replace hbA := hbA.trans (hb7.mono hbA.size)
      clear hb7
      clear p0 p1 p2 p3 p4 p5 q0 q1 q2 q3 q4 q5
      clear cI hisn
      have p0 : w7.cell? ⟨BA, 0, none⟩ = some (.int .i64 K) := dA.cell 0 rfl
      have p1 : w7.cell? ⟨BA, 1, none⟩ = some (.bool ano) := dA.cell 1 rfl
      have p2 : w7.cell? ⟨BA, 2, none⟩ = some (.int .i64 l) := dA.cell 2 rfl
      have p3 : w7.cell? ⟨BA, 3, none⟩ = some (.int .i64 h) := dA.cell 3 rfl
      have p4 : w7.cell? ⟨BA, 4, none⟩ = some (.int .i64 f) := dA.cell 4 rfl
      have p5 : w7.cell? ⟨BA, 5, none⟩ = some (.int .i64 b) := dA.cell 5 rfl
      go_wp2_with fail
      refine (cVA _).mono ?_
      rintro e w8 ⟨rfl, hbc⟩
      replace dA := At.below' hbc dA
      replace dB := At.below' hbc dB
      replace dX := At.below' hbc dX
      replace dY := At.below' hbc dY
      replace hbA := hbA.trans (hbc.mono hbA.size)
      clear hbc
      clear p0 p1 p2 p3 p4 p5
      clear cVA
      have q0 : w8.cell? ⟨BB, 0, none⟩ = some (.int .i64 K) := dB.cell 0 rfl
      have q1 : w8.cell? ⟨BB, 1, none⟩ = some (.bool bno) := dB.cell 1 rfl
      have q2 : w8.cell? ⟨BB, 2, none⟩ = some (.int .i64 l2) := dB.cell 2 rfl
      have q3 : w8.cell? ⟨BB, 3, none⟩ = some (.int .i64 h2) := dB.cell 3 rfl
      have q4 : w8.cell? ⟨BB, 4, none⟩ = some (.int .i64 f2) := dB.cell 4 rfl
      have q5 : w8.cell? ⟨BB, 5, none⟩ = some (.int .i64 b2) := dB.cell 5 rfl
      go_wp2_with fail
      refine (cVB _).mono ?_
      rintro e w9 ⟨rfl, hbc⟩
      replace dA := At.below' hbc dA
      replace dB := At.below' hbc dB
      replace dX := At.below' hbc dX
      replace dY := At.below' hbc dY
      replace hbA := hbA.trans (hbc.mono hbA.size)
      clear hbc
      clear q0 q1 q2 q3 q4 q5
      clear cVB
      have p0 : w9.cell? ⟨BA, 0, none⟩ = some (.int .i64 K) := dA.cell 0 rfl
      have q0 : w9.cell? ⟨BB, 0, none⟩ = some (.int .i64 K) := dB.cell 0 rfl
      have cVX := fun w => rVal_any (K : Int) xno (xl : Int) (xh : Int) (xf : Int) (xb : Int) w
      have cVY := fun w => rVal_any (K : Int) yno (yl : Int) (yh : Int) (yf : Int) (yb : Int) w
      rw [hmX] at cVX
      rw [hmY] at cVY
      clear hmX hmY
      have x0 : w9.cell? ⟨BX, 0, none⟩ = some (.int .i64 K) := dX.cell 0 rfl
      have x1 : w9.cell? ⟨BX, 1, none⟩ = some (.bool xno) := dX.cell 1 rfl
      have x2 : w9.cell? ⟨BX, 2, none⟩ = some (.int .i64 xl) := dX.cell 2 rfl
      have x3 : w9.cell? ⟨BX, 3, none⟩ = some (.int .i64 xh) := dX.cell 3 rfl
      have x4 : w9.cell? ⟨BX, 4, none⟩ = some (.int .i64 xf) := dX.cell 4 rfl
      have x5 : w9.cell? ⟨BX, 5, none⟩ = some (.int .i64 xb) := dX.cell 5 rfl
      go_wp2_with ((go_at_call 9; refine (num_any _ _).mono ?_; rintro e w' ⟨rfl, rfl⟩))
      refine (cVX _).mono ?_
      rintro e wA ⟨rfl, hbc⟩
      replace dA := At.below' hbc dA
      replace dB := At.below' hbc dB
      replace dX := At.below' hbc dX
      replace dY := At.below' hbc dY
      replace hbA := hbA.trans (hbc.mono hbA.size)
      clear hbc
      clear x0 x1 x2 x3 x4 x5
      clear p0 q0 cVX
      have y0 : wA.cell? ⟨BY, 0, none⟩ = some (.int .i64 K) := dY.cell 0 rfl
      have y1 : wA.cell? ⟨BY, 1, none⟩ = some (.bool yno) := dY.cell 1 rfl
      have y2 : wA.cell? ⟨BY, 2, none⟩ = some (.int .i64 yl) := dY.cell 2 rfl
      have y3 : wA.cell? ⟨BY, 3, none⟩ = some (.int .i64 yh) := dY.cell 3 rfl
      have y4 : wA.cell? ⟨BY, 4, none⟩ = some (.int .i64 yf) := dY.cell 4 rfl
      have y5 : wA.cell? ⟨BY, 5, none⟩ = some (.int .i64 yb) := dY.cell 5 rfl
      go_wp2_with fail
      refine (cVY _).mono ?_
      rintro e wB ⟨rfl, hbc⟩
      replace dA := At.below' hbc dA
      replace dB := At.below' hbc dB
      replace dX := At.below' hbc dX
      replace dY := At.below' hbc dY
      replace hbA := hbA.trans (hbc.mono hbA.size)
      clear hbc
      clear y0 y1 y2 y3 y4 y5
      clear cVY
      have cW1 := fun w => lawWithin_any K ano l h f b xno xl xh xf xb okA okX (i : Int) w
      have cW2 := fun w => lawWithin_any K bno l2 h2 f2 b2 xno xl xh xf xb okB okX (q : Int) w
      have cW3 := fun w => lawWithin_any K yno yl yh yf yb ano l h f b okY okA ((i : Int) + (q : Int)) w
      have p0 : wB.cell? ⟨BA, 0, none⟩ = some (.int .i64 K) := dA.cell 0 rfl
      have p1 : wB.cell? ⟨BA, 1, none⟩ = some (.bool ano) := dA.cell 1 rfl
      have p2 : wB.cell? ⟨BA, 2, none⟩ = some (.int .i64 l) := dA.cell 2 rfl
      have p3 : wB.cell? ⟨BA, 3, none⟩ = some (.int .i64 h) := dA.cell 3 rfl
      have p4 : wB.cell? ⟨BA, 4, none⟩ = some (.int .i64 f) := dA.cell 4 rfl
      have p5 : wB.cell? ⟨BA, 5, none⟩ = some (.int .i64 b) := dA.cell 5 rfl
      have x0 : wB.cell? ⟨BX, 0, none⟩ = some (.int .i64 K) := dX.cell 0 rfl
      have x1 : wB.cell? ⟨BX, 1, none⟩ = some (.bool xno) := dX.cell 1 rfl
      have x2 : wB.cell? ⟨BX, 2, none⟩ = some (.int .i64 xl) := dX.cell 2 rfl
      have x3 : wB.cell? ⟨BX, 3, none⟩ = some (.int .i64 xh) := dX.cell 3 rfl
      have x4 : wB.cell? ⟨BX, 4, none⟩ = some (.int .i64 xf) := dX.cell 4 rfl
      have x5 : wB.cell? ⟨BX, 5, none⟩ = some (.int .i64 xb) := dX.cell 5 rfl
      have y0 : wB.cell? ⟨BY, 0, none⟩ = some (.int .i64 K) := dY.cell 0 rfl
      go_wp2_with fail
      refine (cW1 _).mono ?_
      rintro e wC ⟨is, rfl, his, hbc⟩
      obtain rfl := his (fun z hz => XALL.out z (Or.inl hz))
      replace dA := At.below' hbc dA
      replace dB := At.below' hbc dB
      replace dX := At.below' hbc dX
      replace dY := At.below' hbc dY
      replace hbA := hbA.trans (hbc.mono hbA.size)
      clear hbc
      clear p0 p1 p2 p3 p4 p5 x0 x1 x2 x3 x4 x5
      clear y0 his cW1
      have q0 : wC.cell? ⟨BB, 0, none⟩ = some (.int .i64 K) := dB.cell 0 rfl
      have q1 : wC.cell? ⟨BB, 1, none⟩ = some (.bool bno) := dB.cell 1 rfl
      have q2 : wC.cell? ⟨BB, 2, none⟩ = some (.int .i64 l2) := dB.cell 2 rfl
      have q3 : wC.cell? ⟨BB, 3, none⟩ = some (.int .i64 h2) := dB.cell 3 rfl
      have q4 : wC.cell? ⟨BB, 4, none⟩ = some (.int .i64 f2) := dB.cell 4 rfl
      have q5 : wC.cell? ⟨BB, 5, none⟩ = some (.int .i64 b2) := dB.cell 5 rfl
      have x0 : wC.cell? ⟨BX, 0, none⟩ = some (.int .i64 K) := dX.cell 0 rfl
      have x1 : wC.cell? ⟨BX, 1, none⟩ = some (.bool xno) := dX.cell 1 rfl
      have x2 : wC.cell? ⟨BX, 2, none⟩ = some (.int .i64 xl) := dX.cell 2 rfl
      have x3 : wC.cell? ⟨BX, 3, none⟩ = some (.int .i64 xh) := dX.cell 3 rfl
      have x4 : wC.cell? ⟨BX, 4, none⟩ = some (.int .i64 xf) := dX.cell 4 rfl
      have x5 : wC.cell? ⟨BX, 5, none⟩ = some (.int .i64 xb) := dX.cell 5 rfl
      go_wp2_with fail
      refine (cW2 _).mono ?_
      rintro e wD ⟨is, rfl, his, hbc⟩
      obtain rfl := his (fun z hz => XALL.out z (Or.inr hz))
      replace dA := At.below' hbc dA
      replace dB := At.below' hbc dB
      replace dX := At.below' hbc dX
      replace dY := At.below' hbc dY
      replace hbA := hbA.trans (hbc.mono hbA.size)
      clear hbc
      clear q0 q1 q2 q3 q4 q5 x0 x1 x2 x3 x4 x5
      clear his cW2
      have y0 : wD.cell? ⟨BY, 0, none⟩ = some (.int .i64 K) := dY.cell 0 rfl
      have y1 : wD.cell? ⟨BY, 1, none⟩ = some (.bool yno) := dY.cell 1 rfl
      have y2 : wD.cell? ⟨BY, 2, none⟩ = some (.int .i64 yl) := dY.cell 2 rfl
      have y3 : wD.cell? ⟨BY, 3, none⟩ = some (.int .i64 yh) := dY.cell 3 rfl
      have y4 : wD.cell? ⟨BY, 4, none⟩ = some (.int .i64 yf) := dY.cell 4 rfl
      have y5 : wD.cell? ⟨BY, 5, none⟩ = some (.int .i64 yb) := dY.cell 5 rfl
      have p0 : wD.cell? ⟨BA, 0, none⟩ = some (.int .i64 K) := dA.cell 0 rfl
      have p1 : wD.cell? ⟨BA, 1, none⟩ = some (.bool ano) := dA.cell 1 rfl
      have p2 : wD.cell? ⟨BA, 2, none⟩ = some (.int .i64 l) := dA.cell 2 rfl
      have p3 : wD.cell? ⟨BA, 3, none⟩ = some (.int .i64 h) := dA.cell 3 rfl
      have p4 : wD.cell? ⟨BA, 4, none⟩ = some (.int .i64 f) := dA.cell 4 rfl
      have p5 : wD.cell? ⟨BA, 5, none⟩ = some (.int .i64 b) := dA.cell 5 rfl
      go_wp2_with fail
      refine (cW3 _).mono ?_
      rintro e wE ⟨is, rfl, his, hbc⟩
      obtain rfl := his (fun z hz => YIN.out z hz)
      replace dA := At.below' hbc dA
      replace dB := At.below' hbc dB
      replace dX := At.below' hbc dX
      replace dY := At.below' hbc dY
      replace hbA := hbA.trans (hbc.mono hbA.size)
      clear hbc
      clear y0 y1 y2 y3 y4 y5 p0 p1 p2 p3 p4 p5
      clear his cW3
      have cS := fun w => some_24 K ano l h f b okA (q : Int) w
      have p0 : wE.cell? ⟨BA, 0, none⟩ = some (.int .i64 K) := dA.cell 0 rfl
      have p1 : wE.cell? ⟨BA, 1, none⟩ = some (.bool ano) := dA.cell 1 rfl
      have p2 : wE.cell? ⟨BA, 2, none⟩ = some (.int .i64 l) := dA.cell 2 rfl
      have p3 : wE.cell? ⟨BA, 3, none⟩ = some (.int .i64 h) := dA.cell 3 rfl
      have p4 : wE.cell? ⟨BA, 4, none⟩ = some (.int .i64 f) := dA.cell 4 rfl
      have p5 : wE.cell? ⟨BA, 5, none⟩ = some (.int .i64 b) := dA.cell 5 rfl
      go_wp2_with fail
      refine (cS _).mono ?_
      rintro e wF ⟨zz, p, cap, rfl, hI, hM, _, hlen, hbc⟩
      replace dA := At.below' hbc dA
      replace dB := At.below' hbc dB
      replace dX := At.below' hbc dX
      replace dY := At.below' hbc dY
      replace hbA := hbA.trans (hbc.mono hbA.size)
      clear hbc
      clear p0 p1 p2 p3 p4 p5
      obtain ⟨m, hm⟩ : ∃ m, m = zz.length := ⟨_, rfl⟩
      rw [← hm] at hlen ⊢
      have HM := Lib.hid hm
      clear cS hm
      skip
      go_wp2_with fail
      refine noPanic_mono (loopC K ano l h f b bno l2 h2 f2 b2 yno yl yh yf yb okB okY Bp BA BB BX BY i q isn m p cap zz HM.out hlen wF hI hM (fun h z hz => HIN.out.1 h z hz) (fun z hz hz2 => YALL.out z hz hz2) dB dY _ ⟨rfl, rfl, rfl, rfl, rfl, rfl, rfl, rfl, rfl, rfl⟩ rfl _ ?_)
      clear hI hM HM
      intro t2 wr hF hbj
      obtain ⟨f0, f1, f3, f4, f5, f6, f7, f9, f11, f14⟩ := hF
      rw [open_frame t2 f0]
      simp only [f1, f3, f4, f5, f6, f7, f9, f11, f14]
      clear f0 f1 f3 f4 f5 f6 f7 f9 f11 f14
      replace dA := At.below' hbj dA
      replace dB := At.below' hbj dB
      replace dX := At.below' hbj dX
      replace dY := At.below' hbj dY
      replace hbA := hbA.trans (hbj.mono hbA.size)
      clear hbj
      have cO1 := fun w => rOnly_v K ano l h f b okA w
      have cO2 := fun w => rOnly_v K bno l2 h2 f2 b2 okB w
      have cO3 := fun w => rOnly_v K xno xl xh xf xb okX w
      have p0 : wr.cell? ⟨BA, 0, none⟩ = some (.int .i64 K) := dA.cell 0 rfl
      have p1 : wr.cell? ⟨BA, 1, none⟩ = some (.bool ano) := dA.cell 1 rfl
      have p2 : wr.cell? ⟨BA, 2, none⟩ = some (.int .i64 l) := dA.cell 2 rfl
      have p3 : wr.cell? ⟨BA, 3, none⟩ = some (.int .i64 h) := dA.cell 3 rfl
      have p4 : wr.cell? ⟨BA, 4, none⟩ = some (.int .i64 f) := dA.cell 4 rfl
      have p5 : wr.cell? ⟨BA, 5, none⟩ = some (.int .i64 b) := dA.cell 5 rfl
      go_wp2_with fail
      refine (cO1 _).mono ?_
      rintro e wG ⟨x1, is1, hx1, rfl, hbc⟩
      replace dA := At.below' hbc dA
      replace dB := At.below' hbc dB
      replace dX := At.below' hbc dX
      replace dY := At.below' hbc dY
      replace hbA := hbA.trans (hbc.mono hbA.size)
      clear hbc
      clear p0 p1 p2 p3 p4 p5
      clear cO1
      have q0 : wG.cell? ⟨BB, 0, none⟩ = some (.int .i64 K) := dB.cell 0 rfl
      have q1 : wG.cell? ⟨BB, 1, none⟩ = some (.bool bno) := dB.cell 1 rfl
      have q2 : wG.cell? ⟨BB, 2, none⟩ = some (.int .i64 l2) := dB.cell 2 rfl
      have q3 : wG.cell? ⟨BB, 3, none⟩ = some (.int .i64 h2) := dB.cell 3 rfl
      have q4 : wG.cell? ⟨BB, 4, none⟩ = some (.int .i64 f2) := dB.cell 4 rfl
      have q5 : wG.cell? ⟨BB, 5, none⟩ = some (.int .i64 b2) := dB.cell 5 rfl
      go_wp2_with fail
      refine (cO2 _).mono ?_
      rintro e wH ⟨x2, is2, hx2, rfl, hbc⟩
      replace dA := At.below' hbc dA
      replace dB := At.below' hbc dB
      replace dX := At.below' hbc dX
      replace dY := At.below' hbc dY
      replace hbA := hbA.trans (hbc.mono hbA.size)
      clear hbc
      clear q0 q1 q2 q3 q4 q5
      clear cO2
      obtain ⟨r1, hr1⟩ := least_ex (MemV K ano l h f b)
      obtain ⟨r2, hr2⟩ := least_ex (MemV K bno l2 h2 f2 b2)
      have cN1 := fun w => rNext_f K ano l h f b okA r1 hr1 w
      have cN2 := fun w => rNext_f K bno l2 h2 f2 b2 okB r2 hr2 w
      obtain ⟨n1, en1⟩ : ∃ o, o = decide (r1 < 0) := ⟨_, rfl⟩
      obtain ⟨n2, en2⟩ : ∃ o, o = decide (r2 < 0) := ⟨_, rfl⟩
      have g1 := none_iff hr1
      have g2 := none_iff hr2
      rw [← en1] at g1
      rw [← en2] at g2
      go_upto_region 29 with (fail)
      go_cut [20, 21] from 200 to 205 (fun v20 v21 wx => v20 = .bool n1 ∧ v21 = .bool n2 ∧ Below wH.heap.size wH wx)
      case first =>
        have hp0 := fun p : BelowBy wH => p.cell (dA.cell 0 rfl : wH.cell? ⟨BA, 0, none⟩ = some (.int .i64 K))
        have hp1 := fun p : BelowBy wH => p.cell (dA.cell 1 rfl : wH.cell? ⟨BA, 1, none⟩ = some (.bool ano))
        have hp2 := fun p : BelowBy wH => p.cell (dA.cell 2 rfl : wH.cell? ⟨BA, 2, none⟩ = some (.int .i64 l))
        have hp3 := fun p : BelowBy wH => p.cell (dA.cell 3 rfl : wH.cell? ⟨BA, 3, none⟩ = some (.int .i64 h))
        have hp4 := fun p : BelowBy wH => p.cell (dA.cell 4 rfl : wH.cell? ⟨BA, 4, none⟩ = some (.int .i64 f))
        have hp5 := fun p : BelowBy wH => p.cell (dA.cell 5 rfl : wH.cell? ⟨BA, 5, none⟩ = some (.int .i64 b))
        have hq0 := fun p : BelowBy wH => p.cell (dB.cell 0 rfl : wH.cell? ⟨BB, 0, none⟩ = some (.int .i64 K))
        have hq1 := fun p : BelowBy wH => p.cell (dB.cell 1 rfl : wH.cell? ⟨BB, 1, none⟩ = some (.bool bno))
        have hq2 := fun p : BelowBy wH => p.cell (dB.cell 2 rfl : wH.cell? ⟨BB, 2, none⟩ = some (.int .i64 l2))
        have hq3 := fun p : BelowBy wH => p.cell (dB.cell 3 rfl : wH.cell? ⟨BB, 3, none⟩ = some (.int .i64 h2))
        have hq4 := fun p : BelowBy wH => p.cell (dB.cell 4 rfl : wH.cell? ⟨BB, 4, none⟩ = some (.int .i64 f2))
        have hq5 := fun p : BelowBy wH => p.cell (dB.cell 5 rfl : wH.cell? ⟨BB, 5, none⟩ = some (.int .i64 b2))
        clear dA dB dX dY hbA okA okB okX okY XALL XONE YALL YIN YNONE HIN g1 g2 hr1 hr2 hx1 hx2
        refine wp_region_quiet_below (by kernel_rfl) (by kernel_rfl) ?_
        repeat (go_big_quiet_step (((go_at_call 14; (first | (with_reducible exact Calls.below_of (cN1 _)) | (with_reducible exact Calls.below_of (cN2 _)))))))
        refine wpQuiet_nil ?_
        intro wx hw'
        obtain ⟨⟨wx', hbx⟩, hw''⟩ := hw'
        subst hw''
        go_wp2_with fail
        go_meet
        exact ⟨by rw [en1], by rw [en2], hbx⟩
      case rest =>
      obtain ⟨rfl, rfl, hbc⟩ := hcut
      generalize wc = wI at *
      replace dA := At.below' hbc dA
      replace dB := At.below' hbc dB
      replace dX := At.below' hbc dX
      replace dY := At.below' hbc dY
      replace hbA := hbA.trans (hbc.mono hbA.size)
      clear hbc
      clear cN1 cN2 en1 en2
      obtain ⟨cc, ecc⟩ : ∃ o, o = (is1 && is2 && decide (x1 = x2) || is1 && n2 || is2 && n1) := ⟨_, rfl⟩
      go_upto_region 30 with (fail)
      go_cut [226] from 206 to 226 (fun v226 wx => v226 = .bool cc ∧ Below wI.heap.size wI wx)
      case first =>
        have hbI := Below.refl wI.heap.size wI
        clear dA dB dX dY hbA okA okB okX okY XALL XONE YALL YIN YNONE HIN g1 g2 hr1 hr2 hx1 hx2
        subst ecc
        by_cases hx : x1 = x2
        · subst hx
          cases is1 <;> cases is2 <;> cases n1 <;> cases n2
          all_goals
            go_wp2_with fail
            go_meet
            exact ⟨by simp, hbI⟩
        · have hx3 : (x1 == x2) = false := by simpa using hx
          have hx4 : decide (x1 = x2) = false := by simpa using hx
          cases is1 <;> cases is2 <;> cases n1 <;> cases n2
          all_goals
            go_wp2_with fail
            go_meet
            exact ⟨by simp [hx], hbI⟩
      case rest =>
      obtain ⟨rfl, hbc⟩ := hcut
      generalize wc = wJ at *
      replace dA := At.below' hbc dA
      replace dB := At.below' hbc dB
      replace dX := At.below' hbc dX
      replace dY := At.below' hbc dY
      replace hbA := hbA.trans (hbc.mono hbA.size)
      clear hbc
      go_upto_if 226 with (fail)
      go_cut [22, 23] from 227 to 249 (fun v22 v23 wx => Below wJ.heap.size wJ wx)
      case first =>
        cases cc
        · have hbJ := Below.refl wJ.heap.size wJ
          clear dA dB dX dY
          go_wp2_with fail
          go_meet
          exact hbJ
        · skip
          have x0 : wJ.cell? ⟨BX, 0, none⟩ = some (.int .i64 K) := dX.cell 0 rfl
          have x1 : wJ.cell? ⟨BX, 1, none⟩ = some (.bool xno) := dX.cell 1 rfl
          have x2 : wJ.cell? ⟨BX, 2, none⟩ = some (.int .i64 xl) := dX.cell 2 rfl
          have x3 : wJ.cell? ⟨BX, 3, none⟩ = some (.int .i64 xh) := dX.cell 3 rfl
          have x4 : wJ.cell? ⟨BX, 4, none⟩ = some (.int .i64 xf) := dX.cell 4 rfl
          have x5 : wJ.cell? ⟨BX, 5, none⟩ = some (.int .i64 xb) := dX.cell 5 rfl
          clear dA dB dX dY hbA
          go_wp2_with fail
          refine (cO3 _).mono ?_
          rintro e wK ⟨x3, is3, hx3, rfl, hbc⟩
          obtain ⟨rfl, j1, j2⟩ := joins_one hx1 hx2 hx3 g1 g2 XONE.out ecc.symm
          clear x0 x5 cO3 hx1 hx2 hx3 g1 g2 XONE XALL YALL YIN YNONE HIN hr1 hr2 ecc
          cases is1
          · cases is2
            · clear j1 j2
              go_wp2_with fail
              go_meet
              exact hbc
            · obtain rfl := j2 rfl
              clear j1 j2
              go_wp2_with fail
              go_meet
              exact hbc
          · obtain rfl := j1 rfl
            cases is2
            · clear j1 j2
              go_wp2_with fail
              go_meet
              exact hbc
            · obtain rfl := j2 rfl
              clear j1 j2
              go_wp2_with fail
              go_meet
              exact hbc
      case rest =>
      generalize wc = wK at *
      replace dA := At.below' hcut dA
      replace dB := At.below' hcut dB
      replace dX := At.below' hcut dX
      replace dY := At.below' hcut dY
      replace hbA := hbA.trans (hcut.mono hbA.size)
      clear hcut
      clear cO3 ecc XALL XONE YALL
      have hWi : isW (K : Int) := by unfold isW; unfold isWn at hWn; omega
      obtain ⟨TT, hT, hTW⟩ := all_numJ hWn
      have cAll := fun w => All_yes (K : Int) hWi w
      rw [hTW] at cAll
      have p0 : wK.cell? ⟨BA, 0, none⟩ = some (.int .i64 K) := dA.cell 0 rfl
      clear hTW hWi
      go_wp2_with fail
      refine (cAll _).mono ?_
      rintro e wL ⟨rfl, hbc⟩
      replace dA := At.below' hbc dA
      replace dB := At.below' hbc dB
      replace dX := At.below' hbc dX
      replace dY := At.below' hbc dY
      replace hbA := hbA.trans (hbc.mono hbA.size)
      clear hbc
      clear p0 cAll
      replace dA := At.alloc dA (.cells #[.int .i64 K, .bool false, .int .i64 0, .int .i64 TT, .int .i64 TT, .int .i64 0] 28)
      replace dB := At.alloc dB (.cells #[.int .i64 K, .bool false, .int .i64 0, .int .i64 TT, .int .i64 TT, .int .i64 0] 28)
      replace dX := At.alloc dX (.cells #[.int .i64 K, .bool false, .int .i64 0, .int .i64 TT, .int .i64 TT, .int .i64 0] 28)
      replace dY := At.alloc dY (.cells #[.int .i64 K, .bool false, .int .i64 0, .int .i64 TT, .int .i64 TT, .int .i64 0] 28)
      replace hbA := hbA.alloc hbA.size (.cells #[.int .i64 K, .bool false, .int .i64 0, .int .i64 TT, .int .i64 TT, .int .i64 0] 28)
      have dL := At.new wL #[.int .i64 K, .bool false, .int .i64 0, .int .i64 TT, .int .i64 TT, .int .i64 0] 28
      obtain ⟨BL, hBL⟩ : ∃ B, B = wL.heap.size := ⟨_, rfl⟩
      rw [← hBL] at dL
      go_upto_region 35 with (fail)
      rw [← hBL]
      clear hBL
      generalize wL.alloc (.cells #[.int .i64 K, .bool false, .int .i64 0, .int .i64 TT, .int .i64 TT, .int .i64 0] 28) = wM at *
      refine noPanic_mono (cut35 K ano l h f b bno l2 h2 f2 b2 yno yl yh yf yb okA okB okY Bp BA BB BY BL i q isn x1 is1 n1 n2 TT hT wM HIN.out YNONE.out hx1 g1 g2 dA dB dY dL _ rfl rfl rfl rfl rfl rfl rfl rfl rfl rfl rfl rfl rfl rfl _ ?_)
      clear hx1 hx2 hr1 hr2 g1 g2
      intro t3 wN f0 f1 f3 f4 f294 hbc
      rw [open_frame t3 f0]
      simp only [f1, f3, f4, f294]
      clear f0 f1 f3 f4 f294
      replace hbA := hbA.trans (hbc.mono hbA.size)
      clear dA dB dX dY dL hbc YIN YNONE HIN
      go_wp2_with fail
      refine Handed.intro (n - 1) (by omega) (hJ _ _ _ ⟨_, q + 1, _, rfl, rfl, rfl, rfl, rfl, by omega, by omega, hbA⟩)
    · have cT : ∀ w, Calls Tryz.prog 17 #[valV ak ano al ah af ab, valV bk bno bl bh bf bb] w (BothNo w) := by
        by_cases h1 : mayB ak ano al ah af ab = true
        · by_cases h2 : mayB bk bno bl bh bf bb = true
          · have h3 : ak ≠ bk := fun h => hm ⟨h1, h2, h⟩
            obtain ⟨K, L, H, F, B, rfl, rfl, rfl, rfl, rfl, _, _⟩ := may_nat h1
            obtain ⟨K2, L2, H2, F2, B2, rfl, rfl, rfl, rfl, rfl, _, _⟩ := may_nat h2
            exact fun w => takeBoth_no3 K ano L H F B K2 bno L2 H2 F2 B2 h1 h2 (by omega) w
          · have h2 : mayB bk bno bl bh bf bb = false := by simpa using h2
            obtain ⟨K, L, H, F, B, rfl, rfl, rfl, rfl, rfl, _, _⟩ := may_nat h1
            exact fun w => takeBoth_no2 K ano L H F B bk bno bl bh bf bb h1 h2 w
        · have h1 : mayB ak ano al ah af ab = false := by simpa using h1
          exact fun w => takeBoth_no1 ak ano al ah af ab bk bno bl bh bf bb h1 w
      have cJ := fun w => Join_no ak al ah af ab bk bl bh bf bb ano bno cT w
      have cM := fun w => Meet_no ak al ah af ab bk bl bh bf bb ano bno cT w
      have cI := fun w => In_no ak al ah af ab bk bl bh bf bb ano bno cT w
      have cVA := fun w => rVal_any ak ano al ah af ab w
      have cVB := fun w => rVal_any bk bno bl bh bf bb w
      clear cT
      have p0 : w2.cell? ⟨BA, 0, none⟩ = some (.int .i64 ak) := dA.cell 0 rfl
      have p1 : w2.cell? ⟨BA, 1, none⟩ = some (.bool ano) := dA.cell 1 rfl
      have p2 : w2.cell? ⟨BA, 2, none⟩ = some (.int .i64 al) := dA.cell 2 rfl
      have p3 : w2.cell? ⟨BA, 3, none⟩ = some (.int .i64 ah) := dA.cell 3 rfl
      have p4 : w2.cell? ⟨BA, 4, none⟩ = some (.int .i64 af) := dA.cell 4 rfl
      have p5 : w2.cell? ⟨BA, 5, none⟩ = some (.int .i64 ab) := dA.cell 5 rfl
      have q0 : w2.cell? ⟨BB, 0, none⟩ = some (.int .i64 bk) := dB.cell 0 rfl
      have q1 : w2.cell? ⟨BB, 1, none⟩ = some (.bool bno) := dB.cell 1 rfl
      have q2 : w2.cell? ⟨BB, 2, none⟩ = some (.int .i64 bl) := dB.cell 2 rfl
      have q3 : w2.cell? ⟨BB, 3, none⟩ = some (.int .i64 bh) := dB.cell 3 rfl
      have q4 : w2.cell? ⟨BB, 4, none⟩ = some (.int .i64 bf) := dB.cell 4 rfl
      have q5 : w2.cell? ⟨BB, 5, none⟩ = some (.int .i64 bb) := dB.cell 5 rfl
      go_wp2_with fail
      refine (cJ _).mono ?_
      rintro e w3 ⟨rfl, hb3⟩
      replace dA := At.below' hb3 dA
      replace dB := At.below' hb3 dB
      replace hbA := hbA.trans (hb3.mono hbA.size)
      clear hb3
      clear p0 p1 p2 p3 p4 p5 q0 q1 q2 q3 q4 q5
      clear cJ
      replace dA := At.alloc dA (.cells #[.int .i64 0, .bool false, .int .i64 0, .int .i64 0, .int .i64 0, .int .i64 0] 28)
      replace dB := At.alloc dB (.cells #[.int .i64 0, .bool false, .int .i64 0, .int .i64 0, .int .i64 0, .int .i64 0] 28)
      replace hbA := hbA.alloc hbA.size (.cells #[.int .i64 0, .bool false, .int .i64 0, .int .i64 0, .int .i64 0, .int .i64 0] 28)
      have p0 : (w3.alloc (.cells #[.int .i64 0, .bool false, .int .i64 0, .int .i64 0, .int .i64 0, .int .i64 0] 28)).cell? ⟨BA, 0, none⟩ = some (.int .i64 ak) := dA.cell 0 rfl
      have p1 : (w3.alloc (.cells #[.int .i64 0, .bool false, .int .i64 0, .int .i64 0, .int .i64 0, .int .i64 0] 28)).cell? ⟨BA, 1, none⟩ = some (.bool ano) := dA.cell 1 rfl
      have p2 : (w3.alloc (.cells #[.int .i64 0, .bool false, .int .i64 0, .int .i64 0, .int .i64 0, .int .i64 0] 28)).cell? ⟨BA, 2, none⟩ = some (.int .i64 al) := dA.cell 2 rfl
      have p3 : (w3.alloc (.cells #[.int .i64 0, .bool false, .int .i64 0, .int .i64 0, .int .i64 0, .int .i64 0] 28)).cell? ⟨BA, 3, none⟩ = some (.int .i64 ah) := dA.cell 3 rfl
      have p4 : (w3.alloc (.cells #[.int .i64 0, .bool false, .int .i64 0, .int .i64 0, .int .i64 0, .int .i64 0] 28)).cell? ⟨BA, 4, none⟩ = some (.int .i64 af) := dA.cell 4 rfl
      have p5 : (w3.alloc (.cells #[.int .i64 0, .bool false, .int .i64 0, .int .i64 0, .int .i64 0, .int .i64 0] 28)).cell? ⟨BA, 5, none⟩ = some (.int .i64 ab) := dA.cell 5 rfl
      have q0 : (w3.alloc (.cells #[.int .i64 0, .bool false, .int .i64 0, .int .i64 0, .int .i64 0, .int .i64 0] 28)).cell? ⟨BB, 0, none⟩ = some (.int .i64 bk) := dB.cell 0 rfl
      have q1 : (w3.alloc (.cells #[.int .i64 0, .bool false, .int .i64 0, .int .i64 0, .int .i64 0, .int .i64 0] 28)).cell? ⟨BB, 1, none⟩ = some (.bool bno) := dB.cell 1 rfl
      have q2 : (w3.alloc (.cells #[.int .i64 0, .bool false, .int .i64 0, .int .i64 0, .int .i64 0, .int .i64 0] 28)).cell? ⟨BB, 2, none⟩ = some (.int .i64 bl) := dB.cell 2 rfl
      have q3 : (w3.alloc (.cells #[.int .i64 0, .bool false, .int .i64 0, .int .i64 0, .int .i64 0, .int .i64 0] 28)).cell? ⟨BB, 3, none⟩ = some (.int .i64 bh) := dB.cell 3 rfl
      have q4 : (w3.alloc (.cells #[.int .i64 0, .bool false, .int .i64 0, .int .i64 0, .int .i64 0, .int .i64 0] 28)).cell? ⟨BB, 4, none⟩ = some (.int .i64 bf) := dB.cell 4 rfl
      have q5 : (w3.alloc (.cells #[.int .i64 0, .bool false, .int .i64 0, .int .i64 0, .int .i64 0, .int .i64 0] 28)).cell? ⟨BB, 5, none⟩ = some (.int .i64 bb) := dB.cell 5 rfl
      go_wp2_with fail
      generalize w3.alloc (.cells #[.int .i64 0, .bool false, .int .i64 0, .int .i64 0, .int .i64 0, .int .i64 0] 28) = w4 at *
      refine (cM _).mono ?_
      rintro e w5 ⟨rfl, hb5⟩
      replace dA := At.below' hb5 dA
      replace dB := At.below' hb5 dB
      replace hbA := hbA.trans (hb5.mono hbA.size)
      clear hb5
      clear p0 p1 p2 p3 p4 p5 q0 q1 q2 q3 q4 q5
      clear cM
      replace dA := At.alloc dA (.cells #[.int .i64 0, .bool false, .int .i64 0, .int .i64 0, .int .i64 0, .int .i64 0] 28)
      replace dB := At.alloc dB (.cells #[.int .i64 0, .bool false, .int .i64 0, .int .i64 0, .int .i64 0, .int .i64 0] 28)
      replace hbA := hbA.alloc hbA.size (.cells #[.int .i64 0, .bool false, .int .i64 0, .int .i64 0, .int .i64 0, .int .i64 0] 28)
      have p0 : (w5.alloc (.cells #[.int .i64 0, .bool false, .int .i64 0, .int .i64 0, .int .i64 0, .int .i64 0] 28)).cell? ⟨BA, 0, none⟩ = some (.int .i64 ak) := dA.cell 0 rfl
      have p1 : (w5.alloc (.cells #[.int .i64 0, .bool false, .int .i64 0, .int .i64 0, .int .i64 0, .int .i64 0] 28)).cell? ⟨BA, 1, none⟩ = some (.bool ano) := dA.cell 1 rfl
      have p2 : (w5.alloc (.cells #[.int .i64 0, .bool false, .int .i64 0, .int .i64 0, .int .i64 0, .int .i64 0] 28)).cell? ⟨BA, 2, none⟩ = some (.int .i64 al) := dA.cell 2 rfl
      have p3 : (w5.alloc (.cells #[.int .i64 0, .bool false, .int .i64 0, .int .i64 0, .int .i64 0, .int .i64 0] 28)).cell? ⟨BA, 3, none⟩ = some (.int .i64 ah) := dA.cell 3 rfl
      have p4 : (w5.alloc (.cells #[.int .i64 0, .bool false, .int .i64 0, .int .i64 0, .int .i64 0, .int .i64 0] 28)).cell? ⟨BA, 4, none⟩ = some (.int .i64 af) := dA.cell 4 rfl
      have p5 : (w5.alloc (.cells #[.int .i64 0, .bool false, .int .i64 0, .int .i64 0, .int .i64 0, .int .i64 0] 28)).cell? ⟨BA, 5, none⟩ = some (.int .i64 ab) := dA.cell 5 rfl
      have q0 : (w5.alloc (.cells #[.int .i64 0, .bool false, .int .i64 0, .int .i64 0, .int .i64 0, .int .i64 0] 28)).cell? ⟨BB, 0, none⟩ = some (.int .i64 bk) := dB.cell 0 rfl
      have q1 : (w5.alloc (.cells #[.int .i64 0, .bool false, .int .i64 0, .int .i64 0, .int .i64 0, .int .i64 0] 28)).cell? ⟨BB, 1, none⟩ = some (.bool bno) := dB.cell 1 rfl
      have q2 : (w5.alloc (.cells #[.int .i64 0, .bool false, .int .i64 0, .int .i64 0, .int .i64 0, .int .i64 0] 28)).cell? ⟨BB, 2, none⟩ = some (.int .i64 bl) := dB.cell 2 rfl
      have q3 : (w5.alloc (.cells #[.int .i64 0, .bool false, .int .i64 0, .int .i64 0, .int .i64 0, .int .i64 0] 28)).cell? ⟨BB, 3, none⟩ = some (.int .i64 bh) := dB.cell 3 rfl
      have q4 : (w5.alloc (.cells #[.int .i64 0, .bool false, .int .i64 0, .int .i64 0, .int .i64 0, .int .i64 0] 28)).cell? ⟨BB, 4, none⟩ = some (.int .i64 bf) := dB.cell 4 rfl
      have q5 : (w5.alloc (.cells #[.int .i64 0, .bool false, .int .i64 0, .int .i64 0, .int .i64 0, .int .i64 0] 28)).cell? ⟨BB, 5, none⟩ = some (.int .i64 bb) := dB.cell 5 rfl
      go_wp2_with fail
      generalize w5.alloc (.cells #[.int .i64 0, .bool false, .int .i64 0, .int .i64 0, .int .i64 0, .int .i64 0] 28) = w6 at *
      refine (cI _).mono ?_
      rintro e w7 ⟨rfl, hb7⟩
      replace dA := At.below' hb7 dA
      replace dB := At.below' hb7 dB
      replace hbA := hbA.trans (hb7.mono hbA.size)
      clear hb7
      clear p0 p1 p2 p3 p4 p5 q0 q1 q2 q3 q4 q5
      clear cI
      go_upto_region 14 with (fail)
      go_cut [90] from 78 to 90 (fun v90 wx => v90 = .bool false ∧ Below w1.heap.size w1 wx)
      case first =>
        have p0 : w7.cell? ⟨BA, 0, none⟩ = some (.int .i64 ak) := dA.cell 0 rfl
        have p1 : w7.cell? ⟨BA, 1, none⟩ = some (.bool ano) := dA.cell 1 rfl
        have p2 : w7.cell? ⟨BA, 2, none⟩ = some (.int .i64 al) := dA.cell 2 rfl
        have p3 : w7.cell? ⟨BA, 3, none⟩ = some (.int .i64 ah) := dA.cell 3 rfl
        have p4 : w7.cell? ⟨BA, 4, none⟩ = some (.int .i64 af) := dA.cell 4 rfl
        have p5 : w7.cell? ⟨BA, 5, none⟩ = some (.int .i64 ab) := dA.cell 5 rfl
        cases h1 : mayB ak ano al ah af ab
        · rw [h1] at cVA
          go_wp2_with fail
          refine (cVA _).mono ?_
          rintro e w8 ⟨rfl, hb8⟩
          replace hbA := hbA.trans (hb8.mono hbA.size)
          go_wp2_with fail
          go_meet
          exact ⟨rfl, hbA⟩
        · rw [h1] at cVA
          go_wp2_with fail
          refine (cVA _).mono ?_
          rintro e w8 ⟨rfl, hb8⟩
          replace dA := At.below' hb8 dA
          replace dB := At.below' hb8 dB
          replace hbA := hbA.trans (hb8.mono hbA.size)
          clear hb8
          clear p0 p1 p2 p3 p4 p5
          have q0 : w8.cell? ⟨BB, 0, none⟩ = some (.int .i64 bk) := dB.cell 0 rfl
          have q1 : w8.cell? ⟨BB, 1, none⟩ = some (.bool bno) := dB.cell 1 rfl
          have q2 : w8.cell? ⟨BB, 2, none⟩ = some (.int .i64 bl) := dB.cell 2 rfl
          have q3 : w8.cell? ⟨BB, 3, none⟩ = some (.int .i64 bh) := dB.cell 3 rfl
          have q4 : w8.cell? ⟨BB, 4, none⟩ = some (.int .i64 bf) := dB.cell 4 rfl
          have q5 : w8.cell? ⟨BB, 5, none⟩ = some (.int .i64 bb) := dB.cell 5 rfl
          go_wp2_with fail
          refine (cVB _).mono ?_
          rintro e w9 ⟨rfl, hb9⟩
          replace dA := At.below' hb9 dA
          replace dB := At.below' hb9 dB
          replace hbA := hbA.trans (hb9.mono hbA.size)
          clear hb9
          clear q0 q1 q2 q3 q4 q5
          cases h2 : mayB bk bno bl bh bf bb
          · go_wp2_with fail
            go_meet
            exact ⟨rfl, hbA⟩
          · have p0 : w9.cell? ⟨BA, 0, none⟩ = some (.int .i64 ak) := dA.cell 0 rfl
            have q0 : w9.cell? ⟨BB, 0, none⟩ = some (.int .i64 bk) := dB.cell 0 rfl
            have h3 : ¬ ak = bk := fun h => hm ⟨h1, h2, h⟩
            have h4 : (ak == bk) = false := by simpa using h3
            have h5 : decide (ak = bk) = false := by simpa using h3
            go_wp2_with fail
            go_meet
            exact ⟨rfl, hbA⟩
      case rest =>
      obtain ⟨rfl, hbB⟩ := hcut
      clear cVA cVB dA dB hbA
      go_wp2_with ((go_at_call 9; refine (num_any _ _).mono ?_; rintro e w' ⟨rfl, rfl⟩))
      refine Handed.intro (n - 1) (by omega) (hJ _ _ _ ⟨_, q + 1, _, rfl, rfl, rfl, rfl, rfl, by omega, by omega, hbB⟩)
  · clear hJ
    by_cases hq1 : q < lv
    · have hq3 : (q : Int) < (lv : Int) := by omega
      have hq4 : decide ((q : Int) < 10) = false := by simp; omega
      go_wp2_with fail
      exact hQ _ _ rfl rfl rfl hbr
    · have hq3 : decide ((q : Int) < (lv : Int)) = false := by simp; omega
      go_wp2_with fail
      exact hQ _ _ rfl rfl rfl hbr
end Go.Proofs.YtpoaieoldccmiaaGreat
