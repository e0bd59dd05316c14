/- ValSmall: its walk. -/
import Derived.Test.YtgedkebinidmkaaVWake
import Derived.Test.YtgedkebinidmkaaVJoinV
import Derived.Test.YtgedkebinidmkaaVMeetV
import Derived.Test.YtgedkebinidmkaaVQuiet
import Derived.Deep.CutRange
namespace Go.Proofs.Ytgedkebinidmkaa
open Go.ChangeShapes Go.WideShapes Go.ChangeAt Go.RowKit Go.Joins Go.Deep
set_option linter.unusedVariables false

theorem small_ok {lo hi : Nat} (h1 : lo < 256) (h2 : hi < 256) : ValOk 8 false lo hi 255 0 :=
  ⟨⟨Or.inl rfl, by decide, by decide, fun i _ => by simp⟩, h1, h2⟩
/-- whether a number is a member, as a Bool -/
def hasB (no : Bool) (l h f b n : Nat) : Bool := !no && memB l h f b n
theorem hasB_iff {k : Nat} {no : Bool} {l h f b n : Nat} (ok : ValOk k no l h f b) (hn : n < 2 ^ k) : hasB no l h f b n = true ↔ MemV k no l h f b n := by
  cases no
  · unfold hasB MemV
    rw [Bool.and_eq_true, memB_iff ok.setOk hn]
    simp
  · unfold hasB MemV
    simp
theorem rHas_b (k : Nat) (no : Bool) (l h f b n : Nat) (ok : ValOk k no l h f b) (hn : n < 2 ^ k) (w : World) :
    Calls Try.prog 15 #[valV k no l h f b, .int .i64 n] w (fun e w' => e = .returned (.bool (hasB no l h f b n)) ∧ Below w.heap.size w w') := by
  cases no
  · exact rHas_any k l h f b n ok.setOk (by have := ok.pat.hk.pow; omega) w
  · exact rHas_no k l h f b n w
def RelSm (m : Nat) (w2 : World) (v : Value) (wr : World) : Prop := ∃ j : Nat, j ≤ m ∧ v = .int .i64 j ∧ Below w2.heap.size w2 wr
set_option maxRecDepth 100000 in
set_option maxHeartbeats 6400000 in
theorem small_loop (pv : Option Addr) (lv cv : Nat) (pn : Option Addr) (ln cn : Nat) (w : World) (hln : ln ≤ 281474976710656) :
    Calls Try.prog 4 #[.agg #[.slice pv lv cv, .slice pn ln cn]] w fun e w' => e = .returned (.bool true) ∧ Below w.heap.size w w' := by
  have d2 := At.new w #[.slice pv lv cv, .slice pn ln cn] 25
  have hb2 : Below w.heap.size w (w.alloc (.cells #[.slice pv lv cv, .slice pn ln cn] 25)) := (Below.refl _ _).alloc (Nat.le_refl _) _
  have cW := fun w => wakes_any w
  go_enter Try.func4, Try.ntmps4
  go_wp2_with fail
  generalize w.alloc (.cells #[.slice pv lv cv, .slice pn ln cn] 25) = w2 at *
  go_loopw [3] (fun v wr => RelSm 24 w2 v wr) (fun v _ => 24 - (intOf v).toNat)
  case atStart => exact ⟨0, by omega, rfl, Below.refl _ _⟩
  case round =>
    obtain ⟨i, hi24, rfl, hbr⟩ := hrel
    by_cases hlt : i < 24
    · have hlt1 : (i : Int) < 24 := by omega
      go_wp2_with fail
      obtain ⟨wo, rfl⟩ : ∃ wo : World, wo = wr := ⟨_, rfl⟩
      go_loopw [4] (fun v wr => RelSm 24 w2 v wr) (fun v _ => 24 - (intOf v).toNat)
      case atStart => exact ⟨0, by omega, rfl, hbr⟩
      case round =>
        clear hbr
        obtain ⟨k, hk24, rfl, hbr⟩ := hrel
        by_cases hkt : k < 24
        · have hkt1 : (k : Int) < 24 := by omega
          have dN := At.below' hbr d2
          have c1 : wr.cell? ⟨w.heap.size, 1, none⟩ = some (.slice pn ln cn) := dN.cell 1 rfl
          obtain ⟨lo, elo⟩ : ∃ lo : Nat, lo = (i * 41) % 256 := ⟨_, rfl⟩
          obtain ⟨hi, ehi⟩ : ∃ hi : Nat, hi = (i * 41 + i) % 256 := ⟨_, rfl⟩
          obtain ⟨lo2, elo2⟩ : ∃ lo : Nat, lo = (k * 23 + ln) % 256 := ⟨_, rfl⟩
          obtain ⟨hi2, ehi2⟩ : ∃ hi : Nat, hi = (k * 23 + ln + 3 * k) % 256 := ⟨_, rfl⟩
          have okA : ValOk 8 false lo hi 255 0 := small_ok (by omega) (by omega)
          have okB : ValOk 8 false lo2 hi2 255 0 := small_ok (by omega) (by omega)
          have e1 : ((i : Int) * 41) % 256 = (lo : Int) := by omega
          have e2 : ((i : Int) * 41 + (i : Int)) % 256 = (hi : Int) := by omega
          have e3 : ((k : Int) * 23 + (ln : Int)) % 256 = (lo2 : Int) := by omega
          have e4 : ((k : Int) * 23 + (ln : Int) + 3 * (k : Int)) % 256 = (hi2 : Int) := by omega
          have hmA : mayB (8 : Nat) false lo hi (255 : Nat) (0 : Nat) = true := ok_may okA (fun h => by cases h)
          have hmB : mayB (8 : Nat) false lo2 hi2 (255 : Nat) (0 : Nat) = true := ok_may okB (fun h => by cases h)
          obtain ⟨dA, dB, hbo⟩ := two_boxes wr #[.int .i64 8, .bool false, .int .i64 lo, .int .i64 hi, .int .i64 255, .int .i64 0] #[.int .i64 8, .bool false, .int .i64 lo2, .int .i64 hi2, .int .i64 255, .int .i64 0] 28
          have c1' := cell_alloc c1 (.cells #[.int .i64 8, .bool false, .int .i64 lo, .int .i64 hi, .int .i64 255, .int .i64 0] 28)
          have cJ := fun w => Join_yes meet_holds merge_holds 8 false lo hi 255 0 false lo2 hi2 255 0 okA okB hmA hmB w
          have cM := fun w => Meet_yes meet_holds 8 false lo hi 255 0 false lo2 hi2 255 0 okA okB hmA hmB w
          have cI := fun w => In_yes meet_holds 8 false lo hi 255 0 false lo2 hi2 255 0 okA okB hmA hmB w
          have hbA := hbr.trans (hbo.mono hbr.size)
          clear elo ehi elo2 ehi2 hmA hmB hbo dN
          go_wp2_with fail
          refine (cJ _).mono ?_
          rintro e w3 ⟨xno, xl, xh, xf, xb, rfl, okX, hmX, xall, _, hb3⟩
          replace dA := At.below' hb3 dA
          replace dB := At.below' hb3 dB
          have hbB := hbA.trans (hb3.mono hbA.size)
          have dX := At.new w3 #[.int .i64 8, .bool xno, .int .i64 xl, .int .i64 xh, .int .i64 xf, .int .i64 xb] 28
          have hnew : Below w3.heap.size w3 (w3.alloc (.cells #[.int .i64 8, .bool xno, .int .i64 xl, .int .i64 xh, .int .i64 xf, .int .i64 xb] 28)) := (Below.refl _ _).alloc (Nat.le_refl _) _
          have dA2 := At.below' hnew dA
          have dB2 := At.below' hnew dB
          have hbC := hbB.alloc hbB.size (.cells #[.int .i64 8, .bool xno, .int .i64 xl, .int .i64 xh, .int .i64 xf, .int .i64 xb] 28)
          obtain ⟨BA, hBA⟩ : ∃ BA, BA = wr.heap.size := ⟨_, rfl⟩
          obtain ⟨BX, hBX⟩ : ∃ BX, BX = w3.heap.size := ⟨_, rfl⟩
          rw [← hBX] at dX
          rw [← hBA] at dA2 dB2 ⊢
          clear hBA
          have p0 : (w3.alloc (.cells #[.int .i64 8, .bool xno, .int .i64 xl, .int .i64 xh, .int .i64 xf, .int .i64 xb] 28)).cell? ⟨BA, 0, none⟩ = some (.int .i64 8) := dA2.cell 0 rfl
          have p1 : (w3.alloc (.cells #[.int .i64 8, .bool xno, .int .i64 xl, .int .i64 xh, .int .i64 xf, .int .i64 xb] 28)).cell? ⟨BA, 1, none⟩ = some (.bool false) := dA2.cell 1 rfl
          have p2 : (w3.alloc (.cells #[.int .i64 8, .bool xno, .int .i64 xl, .int .i64 xh, .int .i64 xf, .int .i64 xb] 28)).cell? ⟨BA, 2, none⟩ = some (.int .i64 lo) := dA2.cell 2 rfl
          have p3 : (w3.alloc (.cells #[.int .i64 8, .bool xno, .int .i64 xl, .int .i64 xh, .int .i64 xf, .int .i64 xb] 28)).cell? ⟨BA, 3, none⟩ = some (.int .i64 hi) := dA2.cell 3 rfl
          have p4 : (w3.alloc (.cells #[.int .i64 8, .bool xno, .int .i64 xl, .int .i64 xh, .int .i64 xf, .int .i64 xb] 28)).cell? ⟨BA, 4, none⟩ = some (.int .i64 255) := dA2.cell 4 rfl
          have p5 : (w3.alloc (.cells #[.int .i64 8, .bool xno, .int .i64 xl, .int .i64 xh, .int .i64 xf, .int .i64 xb] 28)).cell? ⟨BA, 5, none⟩ = some (.int .i64 0) := dA2.cell 5 rfl
          have q0 : (w3.alloc (.cells #[.int .i64 8, .bool xno, .int .i64 xl, .int .i64 xh, .int .i64 xf, .int .i64 xb] 28)).cell? ⟨BA + 1, 0, none⟩ = some (.int .i64 8) := dB2.cell 0 rfl
          have q1 : (w3.alloc (.cells #[.int .i64 8, .bool xno, .int .i64 xl, .int .i64 xh, .int .i64 xf, .int .i64 xb] 28)).cell? ⟨BA + 1, 1, none⟩ = some (.bool false) := dB2.cell 1 rfl
          have q2 : (w3.alloc (.cells #[.int .i64 8, .bool xno, .int .i64 xl, .int .i64 xh, .int .i64 xf, .int .i64 xb] 28)).cell? ⟨BA + 1, 2, none⟩ = some (.int .i64 lo2) := dB2.cell 2 rfl
          have q3 : (w3.alloc (.cells #[.int .i64 8, .bool xno, .int .i64 xl, .int .i64 xh, .int .i64 xf, .int .i64 xb] 28)).cell? ⟨BA + 1, 3, none⟩ = some (.int .i64 hi2) := dB2.cell 3 rfl
          have q4 : (w3.alloc (.cells #[.int .i64 8, .bool xno, .int .i64 xl, .int .i64 xh, .int .i64 xf, .int .i64 xb] 28)).cell? ⟨BA + 1, 4, none⟩ = some (.int .i64 255) := dB2.cell 4 rfl
          have q5 : (w3.alloc (.cells #[.int .i64 8, .bool xno, .int .i64 xl, .int .i64 xh, .int .i64 xf, .int .i64 xb] 28)).cell? ⟨BA + 1, 5, none⟩ = some (.int .i64 0) := dB2.cell 5 rfl
          have XALL := Lib.hid xall
          clear cJ c1 c1' e1 e2 e3 e4 hb3 hnew dA dB hbA hbB xall
          go_wp2_with fail
          rw [← hBX]
          clear hBX
          generalize w3.alloc (.cells #[.int .i64 8, .bool xno, .int .i64 xl, .int .i64 xh, .int .i64 xf, .int .i64 xb] 28) = w4 at *
          refine (cM _).mono ?_
          rintro e w5 ⟨yno, yl, yh, yf, yb, rfl, okY, hmY, yall, yin, _, hb5⟩
          replace dA2 := At.below' hb5 dA2
          replace dB2 := At.below' hb5 dB2
          replace dX := At.below' hb5 dX
          have hbD := hbC.trans (hb5.mono hbC.size)
          have dY := At.new w5 #[.int .i64 8, .bool yno, .int .i64 yl, .int .i64 yh, .int .i64 yf, .int .i64 yb] 28
          have hnew : Below w5.heap.size w5 (w5.alloc (.cells #[.int .i64 8, .bool yno, .int .i64 yl, .int .i64 yh, .int .i64 yf, .int .i64 yb] 28)) := (Below.refl _ _).alloc (Nat.le_refl _) _
          replace dA2 := At.below' hnew dA2
          replace dB2 := At.below' hnew dB2
          replace dX := At.below' hnew dX
          have hbE := hbD.alloc hbD.size (.cells #[.int .i64 8, .bool yno, .int .i64 yl, .int .i64 yh, .int .i64 yf, .int .i64 yb] 28)
          obtain ⟨BY, hBY⟩ : ∃ BY, BY = w5.heap.size := ⟨_, rfl⟩
          rw [← hBY] at dY
          clear p0 p1 p2 p3 p4 p5 q0 q1 q2 q3 q4 q5
          have p0 : (w5.alloc (.cells #[.int .i64 8, .bool yno, .int .i64 yl, .int .i64 yh, .int .i64 yf, .int .i64 yb] 28)).cell? ⟨BA, 0, none⟩ = some (.int .i64 8) := dA2.cell 0 rfl
          have p1 : (w5.alloc (.cells #[.int .i64 8, .bool yno, .int .i64 yl, .int .i64 yh, .int .i64 yf, .int .i64 yb] 28)).cell? ⟨BA, 1, none⟩ = some (.bool false) := dA2.cell 1 rfl
          have p2 : (w5.alloc (.cells #[.int .i64 8, .bool yno, .int .i64 yl, .int .i64 yh, .int .i64 yf, .int .i64 yb] 28)).cell? ⟨BA, 2, none⟩ = some (.int .i64 lo) := dA2.cell 2 rfl
          have p3 : (w5.alloc (.cells #[.int .i64 8, .bool yno, .int .i64 yl, .int .i64 yh, .int .i64 yf, .int .i64 yb] 28)).cell? ⟨BA, 3, none⟩ = some (.int .i64 hi) := dA2.cell 3 rfl
          have p4 : (w5.alloc (.cells #[.int .i64 8, .bool yno, .int .i64 yl, .int .i64 yh, .int .i64 yf, .int .i64 yb] 28)).cell? ⟨BA, 4, none⟩ = some (.int .i64 255) := dA2.cell 4 rfl
          have p5 : (w5.alloc (.cells #[.int .i64 8, .bool yno, .int .i64 yl, .int .i64 yh, .int .i64 yf, .int .i64 yb] 28)).cell? ⟨BA, 5, none⟩ = some (.int .i64 0) := dA2.cell 5 rfl
          have q0 : (w5.alloc (.cells #[.int .i64 8, .bool yno, .int .i64 yl, .int .i64 yh, .int .i64 yf, .int .i64 yb] 28)).cell? ⟨BA + 1, 0, none⟩ = some (.int .i64 8) := dB2.cell 0 rfl
          have q1 : (w5.alloc (.cells #[.int .i64 8, .bool yno, .int .i64 yl, .int .i64 yh, .int .i64 yf, .int .i64 yb] 28)).cell? ⟨BA + 1, 1, none⟩ = some (.bool false) := dB2.cell 1 rfl
          have q2 : (w5.alloc (.cells #[.int .i64 8, .bool yno, .int .i64 yl, .int .i64 yh, .int .i64 yf, .int .i64 yb] 28)).cell? ⟨BA + 1, 2, none⟩ = some (.int .i64 lo2) := dB2.cell 2 rfl
          have q3 : (w5.alloc (.cells #[.int .i64 8, .bool yno, .int .i64 yl, .int .i64 yh, .int .i64 yf, .int .i64 yb] 28)).cell? ⟨BA + 1, 3, none⟩ = some (.int .i64 hi2) := dB2.cell 3 rfl
          have q4 : (w5.alloc (.cells #[.int .i64 8, .bool yno, .int .i64 yl, .int .i64 yh, .int .i64 yf, .int .i64 yb] 28)).cell? ⟨BA + 1, 4, none⟩ = some (.int .i64 255) := dB2.cell 4 rfl
          have q5 : (w5.alloc (.cells #[.int .i64 8, .bool yno, .int .i64 yl, .int .i64 yh, .int .i64 yf, .int .i64 yb] 28)).cell? ⟨BA + 1, 5, none⟩ = some (.int .i64 0) := dB2.cell 5 rfl
          have YALL := Lib.hid yall
          have YIN := Lib.hid yin
          clear cM hb5 hnew hbC hbD yall yin
          go_wp2_with fail
          rw [← hBY]
          clear hBY
          generalize w5.alloc (.cells #[.int .i64 8, .bool yno, .int .i64 yl, .int .i64 yh, .int .i64 yf, .int .i64 yb] 28) = w6 at *
          refine (cI _).mono ?_
          rintro e w7 ⟨isn, hisn, rfl, hb7⟩
          replace dA2 := At.below' hb7 dA2
          replace dB2 := At.below' hb7 dB2
          replace dX := At.below' hb7 dX
          replace dY := At.below' hb7 dY
          have hbF := hbE.trans (hb7.mono hbE.size)
          have HIN := Lib.hid hisn
          have cVX := fun w => rVal_any (8 : Nat) xno xl xh xf xb w
          have cVY := fun w => rVal_any (8 : Nat) yno yl yh yf yb w
          rw [hmX] at cVX
          rw [hmY] at cVY
          clear p0 p1 p2 p3 p4 p5 q0 q1 q2 q3 q4 q5 cI hb7 hbE hisn
          have x0 : w7.cell? ⟨BX, 0, none⟩ = some (.int .i64 8) := dX.cell 0 rfl
          have x1 : w7.cell? ⟨BX, 1, none⟩ = some (.bool xno) := dX.cell 1 rfl
          have x2 : w7.cell? ⟨BX, 2, none⟩ = some (.int .i64 xl) := dX.cell 2 rfl
          have x3 : w7.cell? ⟨BX, 3, none⟩ = some (.int .i64 xh) := dX.cell 3 rfl
          have x4 : w7.cell? ⟨BX, 4, none⟩ = some (.int .i64 xf) := dX.cell 4 rfl
          have x5 : w7.cell? ⟨BX, 5, none⟩ = some (.int .i64 xb) := dX.cell 5 rfl
          go_wp2_with ((go_at_call 9; refine (num_any _ _).mono ?_; rintro e w' ⟨rfl, rfl⟩))
          refine (cVX _).mono ?_
          rintro e w8 ⟨rfl, hb8⟩
          replace dA2 := At.below' hb8 dA2
          replace dB2 := At.below' hb8 dB2
          replace dX := At.below' hb8 dX
          replace dY := At.below' hb8 dY
          replace hbF := hbF.trans (hb8.mono hbF.size)
          clear x0 x1 x2 x3 x4 x5 hb8 cVX
          have y0 : w8.cell? ⟨BY, 0, none⟩ = some (.int .i64 8) := dY.cell 0 rfl
          have y1 : w8.cell? ⟨BY, 1, none⟩ = some (.bool yno) := dY.cell 1 rfl
          have y2 : w8.cell? ⟨BY, 2, none⟩ = some (.int .i64 yl) := dY.cell 2 rfl
          have y3 : w8.cell? ⟨BY, 3, none⟩ = some (.int .i64 yh) := dY.cell 3 rfl
          have y4 : w8.cell? ⟨BY, 4, none⟩ = some (.int .i64 yf) := dY.cell 4 rfl
          have y5 : w8.cell? ⟨BY, 5, none⟩ = some (.int .i64 yb) := dY.cell 5 rfl
          go_wp2_with fail
          refine (cVY _).mono ?_
          rintro e w9 ⟨rfl, hb9⟩
          replace dA2 := At.below' hb9 dA2
          replace dB2 := At.below' hb9 dB2
          replace dX := At.below' hb9 dX
          replace dY := At.below' hb9 dY
          replace hbF := hbF.trans (hb9.mono hbF.size)
          clear y0 y1 y2 y3 y4 y5 hb9 cVY
          have x0 : w9.cell? ⟨BX, 0, none⟩ = some (.int .i64 8) := dX.cell 0 rfl
          have y0 : w9.cell? ⟨BY, 0, none⟩ = some (.int .i64 8) := dY.cell 0 rfl
          clear hmX hmY
          go_wp2_with fail
          clear x0 y0
          go_loopw [13] (fun v wr => RelSm 256 w9 v wr) (fun v _ => 256 - (intOf v).toNat)
          case atStart => exact ⟨0, by omega, rfl, Below.refl _ _⟩
          case round =>
            obtain ⟨n, hn256, rfl, hbn⟩ := hrel
            by_cases hnt : n < 256
            · have hnt1 : (n : Int) < 256 := by omega
              have hn8 : n < 2 ^ 8 := by omega
              replace dA2 := At.below' hbn dA2
              replace dB2 := At.below' hbn dB2
              replace dX := At.below' hbn dX
              replace dY := At.below' hbn dY
              obtain ⟨oA, eA⟩ : ∃ o, o = hasB false lo hi 255 0 n := ⟨_, rfl⟩
              obtain ⟨oB, eB⟩ : ∃ o, o = hasB false lo2 hi2 255 0 n := ⟨_, rfl⟩
              obtain ⟨oX, eX⟩ : ∃ o, o = hasB xno xl xh xf xb n := ⟨_, rfl⟩
              obtain ⟨oY, eY⟩ : ∃ o, o = hasB yno yl yh yf yb n := ⟨_, rfl⟩
              have iA := hasB_iff okA hn8
              have iB := hasB_iff okB hn8
              have iX := hasB_iff okX hn8
              have iY := hasB_iff okY hn8
              have cA := fun w => rHas_b 8 false lo hi 255 0 n okA hn8 w
              have cB := fun w => rHas_b 8 false lo2 hi2 255 0 n okB hn8 w
              have cX := fun w => rHas_b 8 xno xl xh xf xb n okX hn8 w
              have cY := fun w => rHas_b 8 yno yl yh yf yb n okY hn8 w
              rw [← eA] at iA cA
              rw [← eB] at iB cB
              rw [← eX] at iX cX
              rw [← eY] at iY cY
              have i1 : oA = true → oX = true := fun h => iX.2 (XALL.out n (Or.inl (iA.1 h)))
              have i2 : oB = true → oX = true := fun h => iX.2 (XALL.out n (Or.inr (iB.1 h)))
              have i3 : oA = true → oB = true → oY = true := fun h h' => iY.2 (YALL.out n (iA.1 h) (iB.1 h'))
              have i4 : oA = false → oY = false := fun h => by
                cases oY
                · rfl
                · rw [iA.2 (YIN.out n (iY.1 rfl))] at h; cases h
              have i5 : isn = true → oA = true → oB = true := fun h h' => iB.2 (HIN.out.1 h n (iA.1 h'))
              have hbG := hbF.trans (hbn.mono hbF.size)
              clear eA eB eX eY iA iB iX iY
              go_upto_region 17 with (fail)
              go_cut [14, 15] from 106 to 111 (fun v14 v15 wx => v14 = .bool oA ∧ v15 = .bool oB ∧ Below wr.heap.size wr wx)
              case first =>
                have hp0 := fun p : BelowBy wr => p.cell (dA2.cell 0 rfl : wr.cell? ⟨BA, 0, none⟩ = some (.int .i64 8))
                have hp1 := fun p : BelowBy wr => p.cell (dA2.cell 1 rfl : wr.cell? ⟨BA, 1, none⟩ = some (.bool false))
                have hp2 := fun p : BelowBy wr => p.cell (dA2.cell 2 rfl : wr.cell? ⟨BA, 2, none⟩ = some (.int .i64 lo))
                have hp3 := fun p : BelowBy wr => p.cell (dA2.cell 3 rfl : wr.cell? ⟨BA, 3, none⟩ = some (.int .i64 hi))
                have hp4 := fun p : BelowBy wr => p.cell (dA2.cell 4 rfl : wr.cell? ⟨BA, 4, none⟩ = some (.int .i64 255))
                have hp5 := fun p : BelowBy wr => p.cell (dA2.cell 5 rfl : wr.cell? ⟨BA, 5, none⟩ = some (.int .i64 0))
                have hq0 := fun p : BelowBy wr => p.cell (dB2.cell 0 rfl : wr.cell? ⟨BA + 1, 0, none⟩ = some (.int .i64 8))
                have hq1 := fun p : BelowBy wr => p.cell (dB2.cell 1 rfl : wr.cell? ⟨BA + 1, 1, none⟩ = some (.bool false))
                have hq2 := fun p : BelowBy wr => p.cell (dB2.cell 2 rfl : wr.cell? ⟨BA + 1, 2, none⟩ = some (.int .i64 lo2))
                have hq3 := fun p : BelowBy wr => p.cell (dB2.cell 3 rfl : wr.cell? ⟨BA + 1, 3, none⟩ = some (.int .i64 hi2))
                have hq4 := fun p : BelowBy wr => p.cell (dB2.cell 4 rfl : wr.cell? ⟨BA + 1, 4, none⟩ = some (.int .i64 255))
                have hq5 := fun p : BelowBy wr => p.cell (dB2.cell 5 rfl : wr.cell? ⟨BA + 1, 5, none⟩ = some (.int .i64 0))
                clear dA2 dB2 dX dY cX cY i1 i2 i3 i4 i5 hbG hbF d2 hb2 okA okB okX okY
                refine wp_region_quiet_below (by kernel_rfl) (by kernel_rfl) ?_
                repeat (go_big_quiet_step ((go_at_call 15; (first | (with_reducible exact Calls.below_of (cA _)) | (with_reducible exact Calls.below_of (cB _))))))
                refine wpQuiet_nil ?_
                intro wx hw'
                obtain ⟨⟨wx', hbx⟩, hw''⟩ := hw'
                subst hw''
                go_wp2_with fail
                go_meet
                exact ⟨rfl, rfl, hbx⟩
              case rest =>
              obtain ⟨rfl, rfl, hbx⟩ := hcut
              have dX2 := At.below' hbx dX
              have dY2 := At.below' hbx dY
              have hbH := hbn.trans (hbx.mono hbn.size)
              generalize wc = wq at *
              clear hbx dX dY dA2 dB2 cA cB hbG
              cases oA
              · cases oB
                · obtain rfl : oY = false := i4 rfl
                  clear i1 i2 i3 i4 i5
                  cases isn
                  · have y0 : wq.cell? ⟨BY, 0, none⟩ = some (.int .i64 8) := dY2.cell 0 rfl
                    have y1 : wq.cell? ⟨BY, 1, none⟩ = some (.bool yno) := dY2.cell 1 rfl
                    have y2 : wq.cell? ⟨BY, 2, none⟩ = some (.int .i64 yl) := dY2.cell 2 rfl
                    have y3 : wq.cell? ⟨BY, 3, none⟩ = some (.int .i64 yh) := dY2.cell 3 rfl
                    have y4 : wq.cell? ⟨BY, 4, none⟩ = some (.int .i64 yf) := dY2.cell 4 rfl
                    have y5 : wq.cell? ⟨BY, 5, none⟩ = some (.int .i64 yb) := dY2.cell 5 rfl
                    go_wp2_with fail
                    refine (cY _).mono ?_
                    rintro e wu ⟨rfl, hbk⟩
                    replace dX2 := At.below' hbk dX2
                    replace dY2 := At.below' hbk dY2
                    replace hbH := hbH.trans (hbk.mono hbH.size)
                    clear hbk y0 y1 y2 y3 y4 y5
                    go_wp2_with fail
                    go_roundw
                    case rel => exact ⟨n + 1, by omega, by go_num, hbH⟩
                    case measure => simp [intOf]; omega
                  · have y0 : wq.cell? ⟨BY, 0, none⟩ = some (.int .i64 8) := dY2.cell 0 rfl
                    have y1 : wq.cell? ⟨BY, 1, none⟩ = some (.bool yno) := dY2.cell 1 rfl
                    have y2 : wq.cell? ⟨BY, 2, none⟩ = some (.int .i64 yl) := dY2.cell 2 rfl
                    have y3 : wq.cell? ⟨BY, 3, none⟩ = some (.int .i64 yh) := dY2.cell 3 rfl
                    have y4 : wq.cell? ⟨BY, 4, none⟩ = some (.int .i64 yf) := dY2.cell 4 rfl
                    have y5 : wq.cell? ⟨BY, 5, none⟩ = some (.int .i64 yb) := dY2.cell 5 rfl
                    go_wp2_with fail
                    refine (cY _).mono ?_
                    rintro e wu ⟨rfl, hbk⟩
                    replace dX2 := At.below' hbk dX2
                    replace dY2 := At.below' hbk dY2
                    replace hbH := hbH.trans (hbk.mono hbH.size)
                    clear hbk y0 y1 y2 y3 y4 y5
                    go_wp2_with fail
                    go_roundw
                    case rel => exact ⟨n + 1, by omega, by go_num, hbH⟩
                    case measure => simp [intOf]; omega
                · obtain rfl : oY = false := i4 rfl
                  obtain rfl : oX = true := i2 rfl
                  clear i1 i2 i3 i4 i5
                  cases isn
                  · have x0 : wq.cell? ⟨BX, 0, none⟩ = some (.int .i64 8) := dX2.cell 0 rfl
                    have x1 : wq.cell? ⟨BX, 1, none⟩ = some (.bool xno) := dX2.cell 1 rfl
                    have x2 : wq.cell? ⟨BX, 2, none⟩ = some (.int .i64 xl) := dX2.cell 2 rfl
                    have x3 : wq.cell? ⟨BX, 3, none⟩ = some (.int .i64 xh) := dX2.cell 3 rfl
                    have x4 : wq.cell? ⟨BX, 4, none⟩ = some (.int .i64 xf) := dX2.cell 4 rfl
                    have x5 : wq.cell? ⟨BX, 5, none⟩ = some (.int .i64 xb) := dX2.cell 5 rfl
                    go_wp2_with fail
                    refine (cX _).mono ?_
                    rintro e wt ⟨rfl, hbk⟩
                    replace dX2 := At.below' hbk dX2
                    replace dY2 := At.below' hbk dY2
                    replace hbH := hbH.trans (hbk.mono hbH.size)
                    clear hbk x0 x1 x2 x3 x4 x5
                    have y0 : wt.cell? ⟨BY, 0, none⟩ = some (.int .i64 8) := dY2.cell 0 rfl
                    have y1 : wt.cell? ⟨BY, 1, none⟩ = some (.bool yno) := dY2.cell 1 rfl
                    have y2 : wt.cell? ⟨BY, 2, none⟩ = some (.int .i64 yl) := dY2.cell 2 rfl
                    have y3 : wt.cell? ⟨BY, 3, none⟩ = some (.int .i64 yh) := dY2.cell 3 rfl
                    have y4 : wt.cell? ⟨BY, 4, none⟩ = some (.int .i64 yf) := dY2.cell 4 rfl
                    have y5 : wt.cell? ⟨BY, 5, none⟩ = some (.int .i64 yb) := dY2.cell 5 rfl
                    go_wp2_with fail
                    refine (cY _).mono ?_
                    rintro e wu ⟨rfl, hbk⟩
                    replace dX2 := At.below' hbk dX2
                    replace dY2 := At.below' hbk dY2
                    replace hbH := hbH.trans (hbk.mono hbH.size)
                    clear hbk y0 y1 y2 y3 y4 y5
                    go_wp2_with fail
                    go_roundw
                    case rel => exact ⟨n + 1, by omega, by go_num, hbH⟩
                    case measure => simp [intOf]; omega
                  · have x0 : wq.cell? ⟨BX, 0, none⟩ = some (.int .i64 8) := dX2.cell 0 rfl
                    have x1 : wq.cell? ⟨BX, 1, none⟩ = some (.bool xno) := dX2.cell 1 rfl
                    have x2 : wq.cell? ⟨BX, 2, none⟩ = some (.int .i64 xl) := dX2.cell 2 rfl
                    have x3 : wq.cell? ⟨BX, 3, none⟩ = some (.int .i64 xh) := dX2.cell 3 rfl
                    have x4 : wq.cell? ⟨BX, 4, none⟩ = some (.int .i64 xf) := dX2.cell 4 rfl
                    have x5 : wq.cell? ⟨BX, 5, none⟩ = some (.int .i64 xb) := dX2.cell 5 rfl
                    go_wp2_with fail
                    refine (cX _).mono ?_
                    rintro e wt ⟨rfl, hbk⟩
                    replace dX2 := At.below' hbk dX2
                    replace dY2 := At.below' hbk dY2
                    replace hbH := hbH.trans (hbk.mono hbH.size)
                    clear hbk x0 x1 x2 x3 x4 x5
                    have y0 : wt.cell? ⟨BY, 0, none⟩ = some (.int .i64 8) := dY2.cell 0 rfl
                    have y1 : wt.cell? ⟨BY, 1, none⟩ = some (.bool yno) := dY2.cell 1 rfl
                    have y2 : wt.cell? ⟨BY, 2, none⟩ = some (.int .i64 yl) := dY2.cell 2 rfl
                    have y3 : wt.cell? ⟨BY, 3, none⟩ = some (.int .i64 yh) := dY2.cell 3 rfl
                    have y4 : wt.cell? ⟨BY, 4, none⟩ = some (.int .i64 yf) := dY2.cell 4 rfl
                    have y5 : wt.cell? ⟨BY, 5, none⟩ = some (.int .i64 yb) := dY2.cell 5 rfl
                    go_wp2_with fail
                    refine (cY _).mono ?_
                    rintro e wu ⟨rfl, hbk⟩
                    replace dX2 := At.below' hbk dX2
                    replace dY2 := At.below' hbk dY2
                    replace hbH := hbH.trans (hbk.mono hbH.size)
                    clear hbk y0 y1 y2 y3 y4 y5
                    go_wp2_with fail
                    go_roundw
                    case rel => exact ⟨n + 1, by omega, by go_num, hbH⟩
                    case measure => simp [intOf]; omega
              · cases oB
                · obtain rfl : oX = true := i1 rfl
                  cases isn
                  · clear i1 i2 i3 i4 i5
                    have x0 : wq.cell? ⟨BX, 0, none⟩ = some (.int .i64 8) := dX2.cell 0 rfl
                    have x1 : wq.cell? ⟨BX, 1, none⟩ = some (.bool xno) := dX2.cell 1 rfl
                    have x2 : wq.cell? ⟨BX, 2, none⟩ = some (.int .i64 xl) := dX2.cell 2 rfl
                    have x3 : wq.cell? ⟨BX, 3, none⟩ = some (.int .i64 xh) := dX2.cell 3 rfl
                    have x4 : wq.cell? ⟨BX, 4, none⟩ = some (.int .i64 xf) := dX2.cell 4 rfl
                    have x5 : wq.cell? ⟨BX, 5, none⟩ = some (.int .i64 xb) := dX2.cell 5 rfl
                    go_wp2_with fail
                    refine (cX _).mono ?_
                    rintro e wt ⟨rfl, hbk⟩
                    replace dX2 := At.below' hbk dX2
                    replace dY2 := At.below' hbk dY2
                    replace hbH := hbH.trans (hbk.mono hbH.size)
                    clear hbk x0 x1 x2 x3 x4 x5
                    go_wp2_with fail
                    go_roundw
                    case rel => exact ⟨n + 1, by omega, by go_num, hbH⟩
                    case measure => simp [intOf]; omega
                  · exact absurd (i5 rfl rfl) (by decide)
                · obtain rfl : oX = true := i1 rfl
                  obtain rfl : oY = true := i3 rfl rfl
                  clear i1 i2 i3 i4 i5
                  cases isn
                  · have x0 : wq.cell? ⟨BX, 0, none⟩ = some (.int .i64 8) := dX2.cell 0 rfl
                    have x1 : wq.cell? ⟨BX, 1, none⟩ = some (.bool xno) := dX2.cell 1 rfl
                    have x2 : wq.cell? ⟨BX, 2, none⟩ = some (.int .i64 xl) := dX2.cell 2 rfl
                    have x3 : wq.cell? ⟨BX, 3, none⟩ = some (.int .i64 xh) := dX2.cell 3 rfl
                    have x4 : wq.cell? ⟨BX, 4, none⟩ = some (.int .i64 xf) := dX2.cell 4 rfl
                    have x5 : wq.cell? ⟨BX, 5, none⟩ = some (.int .i64 xb) := dX2.cell 5 rfl
                    go_wp2_with fail
                    refine (cX _).mono ?_
                    rintro e wt ⟨rfl, hbk⟩
                    replace dX2 := At.below' hbk dX2
                    replace dY2 := At.below' hbk dY2
                    replace hbH := hbH.trans (hbk.mono hbH.size)
                    clear hbk x0 x1 x2 x3 x4 x5
                    have y0 : wt.cell? ⟨BY, 0, none⟩ = some (.int .i64 8) := dY2.cell 0 rfl
                    have y1 : wt.cell? ⟨BY, 1, none⟩ = some (.bool yno) := dY2.cell 1 rfl
                    have y2 : wt.cell? ⟨BY, 2, none⟩ = some (.int .i64 yl) := dY2.cell 2 rfl
                    have y3 : wt.cell? ⟨BY, 3, none⟩ = some (.int .i64 yh) := dY2.cell 3 rfl
                    have y4 : wt.cell? ⟨BY, 4, none⟩ = some (.int .i64 yf) := dY2.cell 4 rfl
                    have y5 : wt.cell? ⟨BY, 5, none⟩ = some (.int .i64 yb) := dY2.cell 5 rfl
                    go_wp2_with fail
                    refine (cY _).mono ?_
                    rintro e wu ⟨rfl, hbk⟩
                    replace dX2 := At.below' hbk dX2
                    replace dY2 := At.below' hbk dY2
                    replace hbH := hbH.trans (hbk.mono hbH.size)
                    clear hbk y0 y1 y2 y3 y4 y5
                    go_wp2_with fail
                    go_roundw
                    case rel => exact ⟨n + 1, by omega, by go_num, hbH⟩
                    case measure => simp [intOf]; omega
                  · have x0 : wq.cell? ⟨BX, 0, none⟩ = some (.int .i64 8) := dX2.cell 0 rfl
                    have x1 : wq.cell? ⟨BX, 1, none⟩ = some (.bool xno) := dX2.cell 1 rfl
                    have x2 : wq.cell? ⟨BX, 2, none⟩ = some (.int .i64 xl) := dX2.cell 2 rfl
                    have x3 : wq.cell? ⟨BX, 3, none⟩ = some (.int .i64 xh) := dX2.cell 3 rfl
                    have x4 : wq.cell? ⟨BX, 4, none⟩ = some (.int .i64 xf) := dX2.cell 4 rfl
                    have x5 : wq.cell? ⟨BX, 5, none⟩ = some (.int .i64 xb) := dX2.cell 5 rfl
                    go_wp2_with fail
                    refine (cX _).mono ?_
                    rintro e wt ⟨rfl, hbk⟩
                    replace dX2 := At.below' hbk dX2
                    replace dY2 := At.below' hbk dY2
                    replace hbH := hbH.trans (hbk.mono hbH.size)
                    clear hbk x0 x1 x2 x3 x4 x5
                    have y0 : wt.cell? ⟨BY, 0, none⟩ = some (.int .i64 8) := dY2.cell 0 rfl
                    have y1 : wt.cell? ⟨BY, 1, none⟩ = some (.bool yno) := dY2.cell 1 rfl
                    have y2 : wt.cell? ⟨BY, 2, none⟩ = some (.int .i64 yl) := dY2.cell 2 rfl
                    have y3 : wt.cell? ⟨BY, 3, none⟩ = some (.int .i64 yh) := dY2.cell 3 rfl
                    have y4 : wt.cell? ⟨BY, 4, none⟩ = some (.int .i64 yf) := dY2.cell 4 rfl
                    have y5 : wt.cell? ⟨BY, 5, none⟩ = some (.int .i64 yb) := dY2.cell 5 rfl
                    go_wp2_with fail
                    refine (cY _).mono ?_
                    rintro e wu ⟨rfl, hbk⟩
                    replace dX2 := At.below' hbk dX2
                    replace dY2 := At.below' hbk dY2
                    replace hbH := hbH.trans (hbk.mono hbH.size)
                    clear hbk y0 y1 y2 y3 y4 y5
                    go_wp2_with fail
                    go_roundw
                    case rel => exact ⟨n + 1, by omega, by go_num, hbH⟩
                    case measure => simp [intOf]; omega
            · have hnt1 : decide ((n : Int) < 256) = false := by simp; omega
              have hbG := hbF.trans (hbn.mono hbF.size)
              clear dA2 dB2 dX dY XALL YALL YIN HIN
              go_wp2_with fail
              go_roundw
              case rel => exact ⟨k + 1, by omega, by go_num, hbG⟩
              case measure => simp [intOf]; omega
        · have hkt1 : decide ((k : Int) < 24) = false := by simp; omega
          go_wp2_with fail
          go_roundw
          case rel => exact ⟨i + 1, by omega, by go_num, hbr⟩
          case measure => simp [intOf]; omega
    · have hlt1 : decide ((i : Int) < 24) = false := by simp; omega
      have hbO : Below w.heap.size w wr := hb2.trans (hbr.mono hb2.size)
      go_wp2_with fail
      refine (cW _).mono ?_
      rintro e wZ ⟨rfl, hbZ⟩
      go_wp2_with fail
      go_ret
      exact ⟨rfl, hbO.trans (hbZ.mono hbO.size)⟩
end Go.Proofs.Ytgedkebinidmkaa
