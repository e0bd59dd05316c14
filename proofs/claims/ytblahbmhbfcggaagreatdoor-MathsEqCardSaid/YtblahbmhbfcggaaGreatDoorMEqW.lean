/- Package maths: Two, asked whether members are alike, of whatever sets. -/
import Derived.Test.YtblahbmhbfcggaaGreatDoorFMTwo
import Derived.Test.YtblahbmhbfcggaaGreatDoorZBad
import Derived.Test.YtblahbmhbfcggaaGreatDoorVSome24
import Derived.BigRegion
import Derived.Test.YtblahbmhbfcggaaGreatDoorBase
import Derived.Deep.LoopGhost
import Derived.Deep.RegionHeld3
import Derived.Test.YtblahbmhbfcggaaGreatDoorMOnesOdd
import Derived.Deep.CutRange
namespace Go.Proofs.YtblahbmhbfcggaaGreatDoor
open Go.ChangeShapes Go.WideShapes Go.ChangeAt Go.RowKit Go.Joins Go.Deep
set_option linter.unusedVariables false

def EqAll (A B M : Nat → Prop) : Prop := (¬ ((∃ z, A z) ∧ ∃ z, B z) → ∀ z, ¬ M z) ∧ ((∃ z, A z) → (∃ z, B z) → EqTold A B M)
def MTwoE (A B : Nat → Prop) (w : World) (e : Ending) (w' : World) : Prop := ∃ tno tl th tf tb, e = .returned (.tuple #[valV 32 tno (tl : Nat) (th : Nat) (tf : Nat) (tb : Nat), .slice none 0 0, .int .i64 0]) ∧ ValOk 32 tno tl th tf tb ∧ mayB (32 : Nat) tno tl th tf tb = true ∧ EqAll A B (MemV 32 tno tl th tf tb) ∧ Below w.heap.size w w'
set_option maxRecDepth 100000 in
set_option maxHeartbeats 1600000 in
theorem MTwo_eqall (kd : Int) (hk : 1 ≤ kd ∧ kd ≤ 6) (K : Nat) (hK : Al.widthI kd = K) (no : Bool) (l h f b : Nat) (no2 : Bool) (l2 h2 f2 b2 : Nat) (okA : ValOk K no l h f b) (okB : ValOk K no2 l2 h2 f2 b2) (hmA : mayB K no l h f b = true) (hmB : mayB K no2 l2 h2 f2 b2 = true)
    (w : World) :
    Calls Tryz.prog 10 #[.int .i64 18, .int .i64 kd, valV K no l h f b, valV K no2 l2 h2 f2 b2] w (MTwoE (MemV K no l h f b) (MemV K no2 l2 h2 f2 b2) w) := by
  obtain ⟨dA0, dB0, hb00⟩ := two_boxes w #[.int .i64 K, .bool no, .int .i64 l, .int .i64 h, .int .i64 f, .int .i64 b] #[.int .i64 K, .bool no2, .int .i64 l2, .int .i64 h2, .int .i64 f2, .int .i64 b2] 30
  have d4 := At.new ((w.alloc (.cells #[.int .i64 K, .bool no, .int .i64 l, .int .i64 h, .int .i64 f, .int .i64 b] 30)).alloc (.cells #[.int .i64 K, .bool no2, .int .i64 l2, .int .i64 h2, .int .i64 f2, .int .i64 b2] 30)) #[.int .i64 0, .bool false, .int .i64 0, .int .i64 0, .int .i64 0, .int .i64 0] 30
  have d8 : At (((w.alloc (.cells #[.int .i64 K, .bool no, .int .i64 l, .int .i64 h, .int .i64 f, .int .i64 b] 30)).alloc (.cells #[.int .i64 K, .bool no2, .int .i64 l2, .int .i64 h2, .int .i64 f2, .int .i64 b2] 30)).alloc (.cells #[.int .i64 0, .bool false, .int .i64 0, .int .i64 0, .int .i64 0, .int .i64 0] 30)) (w.heap.size + 1 + 1) #[.int .i64 0, .bool false, .int .i64 0, .int .i64 0, .int .i64 0, .int .i64 0] 30 := by simpa only [World.size_alloc] using d4
  have dA := At.alloc dA0 (.cells #[.int .i64 0, .bool false, .int .i64 0, .int .i64 0, .int .i64 0, .int .i64 0] 30)
  have dB := At.alloc dB0 (.cells #[.int .i64 0, .bool false, .int .i64 0, .int .i64 0, .int .i64 0, .int .i64 0] 30)
  have hbE := hb00.alloc hb00.size (.cells #[.int .i64 0, .bool false, .int .i64 0, .int .i64 0, .int .i64 0, .int .i64 0] 30)
  have hz0 : Al.isN 0 (Al.widthI kd) := by rcases Al.num_cases hk with rfl | rfl | rfl | rfl | rfl | rfl <;> exact ⟨Int.le_refl 0, by decide⟩
  have cT2 := fun w => Al.Two_yes 18 kd 0 0 (by omega) hk hz0 hz0 w
  generalize Al.twoI 18 kd 0 0 = r at *
  obtain ⟨r1, r2⟩ := r
  have cX := fun w => mtake_yes kd hk K hK no l h f b hmA w
  have cY := fun w => mtake_yes kd hk K hK no2 l2 h2 f2 b2 hmB w
  have cS := fun w => start_eq kd K (Al.signedB kd) w
  clear dA0 dB0 hb00 d4 hz0
  go_enter Tryz.func10, Tryz.ntmps10
  go_wp2_with fail
  refine (cT2 _).mono ?_
  rintro e w1 ⟨rfl, hb1⟩
  replace dA := At.below' hb1 dA
  replace dB := At.below' hb1 dB
  replace d8 := At.below' hb1 d8
  replace hbE := hbE.trans (hb1.mono hbE.size)
  clear hb1 cT2
  have p0 : w1.cell? ⟨w.heap.size, 0, none⟩ = some (.int .i64 K) := dA.cell 0 rfl
  have p1 : w1.cell? ⟨w.heap.size, 1, none⟩ = some (.bool no) := dA.cell 1 rfl
  have p2 : w1.cell? ⟨w.heap.size, 2, none⟩ = some (.int .i64 l) := dA.cell 2 rfl
  have p3 : w1.cell? ⟨w.heap.size, 3, none⟩ = some (.int .i64 h) := dA.cell 3 rfl
  have p4 : w1.cell? ⟨w.heap.size, 4, none⟩ = some (.int .i64 f) := dA.cell 4 rfl
  have p5 : w1.cell? ⟨w.heap.size, 5, none⟩ = some (.int .i64 b) := dA.cell 5 rfl
  go_wp2_with fail
  refine (cX _).mono ?_
  rintro e w2 ⟨xa, rfl, hXA, hxa, hb2⟩
  have hxa2 := Nat.le_trans hbE.size hxa
  replace dB := At.below' hb2 dB
  replace d8 := At.below' hb2 d8
  replace hbE := hbE.trans (hb2.mono hbE.size)
  clear p0 p1 p2 p3 p4 p5
  clear hb2 cX dA hxa
  have q0 : w2.cell? ⟨w.heap.size + 1, 0, none⟩ = some (.int .i64 K) := dB.cell 0 rfl
  have q1 : w2.cell? ⟨w.heap.size + 1, 1, none⟩ = some (.bool no2) := dB.cell 1 rfl
  have q2 : w2.cell? ⟨w.heap.size + 1, 2, none⟩ = some (.int .i64 l2) := dB.cell 2 rfl
  have q3 : w2.cell? ⟨w.heap.size + 1, 3, none⟩ = some (.int .i64 h2) := dB.cell 3 rfl
  have q4 : w2.cell? ⟨w.heap.size + 1, 4, none⟩ = some (.int .i64 f2) := dB.cell 4 rfl
  have q5 : w2.cell? ⟨w.heap.size + 1, 5, none⟩ = some (.int .i64 b2) := dB.cell 5 rfl
  go_wp2_with fail
  refine (cY _).mono ?_
  rintro e w3 ⟨xb0, rfl, hXB, hxb, hb3⟩
  have hXA3 : OpNew w3 xa kd K no l h f b := At.below' hb3 hXA
  replace d8 := At.below' hb3 d8
  replace hbE := hbE.trans (hb3.mono hbE.size)
  clear q0 q1 q2 q3 q4 q5
  clear hb3 cY dB hxb hXA
  have n0 : w3.cell? ⟨xa, 0, none⟩ = some (.int .i64 kd) := hXA3.cell 0 rfl
  have n1 : w3.cell? ⟨xa, 1, none⟩ = some (.int .i64 K) := hXA3.cell 1 rfl
  have n2 : w3.cell? ⟨xa, 2, none⟩ = some (.bool (Al.signedB kd)) := hXA3.cell 2 rfl
  go_wp2_with fail
  refine (cS _).mono ?_
  rintro e w4 ⟨bw, rfl, hW, hbw, hb4⟩
  have hbw2 : w.heap.size + 1 + 1 < bw := Nat.lt_of_lt_of_le d8.lt hbw
  have hXA4 : OpNew w4 xa kd K no l h f b := At.below' hb4 hXA3
  have hXB4 : OpNew w4 xb0 kd K no2 l2 h2 f2 b2 := At.below' hb4 hXB
  replace d8 := At.below' hb4 d8
  replace hbE := hbE.trans (hb4.mono hbE.size)
  clear hb4 cS n0 n1 n2 hXA3 hXB hbw
  have cE1 := fun w g => mempty_any xa kd K no l h f b okA hmA w g
  have cE2 := fun w g => mempty_any xb0 kd K no2 l2 h2 f2 b2 okB hmB w g
  have cM := fun hx1 hx2 w g g2 g3 => mtwo_eq bw xa xb0 kd K (Al.signedB kd) K no l h f b no2 l2 h2 f2 b2 okA okB hmA hmB hx1 hx2 w g g2 g3
  generalize hMA : MemV K no l h f b = A at *
  generalize hMB : MemV K no2 l2 h2 f2 b2 = B at *
  have hNA : NoneV K no l h f b ↔ ∀ z, ¬ A z := by rw [← hMA]; rfl
  have hNB : NoneV K no2 l2 h2 f2 b2 ↔ ∀ z, ¬ B z := by rw [← hMB]; rfl
  have HNA := Lib.hid hNA
  have HNB := Lib.hid hNB
  have hbw3 : w.heap.size + 1 + 1 < bw := hbw2
  clear hMA hMB hNA hNB okA okB hmA hmB
  go_upto_region 11 with (fail)
  go_cut [61] from 54 to 61 (fun v61 wx => ∃ cd : Bool, v61 = .bool cd ∧ (cd = true ↔ ((∃ z, A z) ∧ ∃ z, B z)) ∧ Below w4.heap.size w4 wx)
  case first =>
    clear d8 hW hbE cM
    go_wp2_with fail
    refine (cE1 _ hXA4).mono ?_
    rintro e w5 ⟨is, his, rfl, hb5⟩
    have hXB5 : OpNew w5 xb0 kd K no2 l2 h2 f2 b2 := At.below' hb5 hXB4
    have h1 := his.trans HNA.out
    clear his cE1 hXA4 hXB4
    cases is
    · have H1 := Lib.hid h1
      clear h1
      go_wp2_with fail
      refine (cE2 _ hXB5).mono ?_
      rintro e w6 ⟨is2, his2, rfl, hb6⟩
      have h2 := his2.trans HNB.out
      have hb7 := hb5.trans (hb6.mono hb5.size)
      have hA : ∃ z, A z := Classical.byContradiction fun hn => absurd (H1.out.2 (fun z hz => hn ⟨z, hz⟩)) (by decide)
      have fin : ∃ cd : Bool, Value.bool (!is2) = .bool cd ∧ (cd = true ↔ ((∃ z, A z) ∧ ∃ z, B z)) ∧ Below w4.heap.size w4 w6 := by
        refine ⟨!is2, rfl, ?_, hb7⟩
        cases is2
        · exact ⟨fun _ => ⟨hA, Classical.byContradiction fun hn => absurd (h2.2 (fun z hz => hn ⟨z, hz⟩)) (by decide)⟩, fun _ => rfl⟩
        · exact ⟨(fun hh => by cases hh), (fun ⟨_, z, hz⟩ => absurd hz (h2.1 rfl z))⟩
      clear his2 h2 hb5 hb6 hb7 cE2 hXB5 hA
      go_wp2_with fail
      go_meet
      exact fin
    · have fin : ∃ cd : Bool, Value.bool false = .bool cd ∧ (cd = true ↔ ((∃ z, A z) ∧ ∃ z, B z)) ∧ Below w4.heap.size w4 w5 := ⟨false, rfl, ⟨(fun hh => by cases hh), fun ⟨⟨z, hz⟩, _⟩ => absurd hz (h1.1 rfl z)⟩, hb5⟩
      clear h1 hb5 cE2 hXB5
      go_wp2_with fail
      go_meet
      exact fin
  case rest =>
  obtain ⟨cd, rfl, hcd, hb5⟩ := hcut
  generalize wc = w6 at *
  have hXA6 : OpNew w6 xa kd K no l h f b := At.below' hb5 hXA4
  have hXB6 : OpNew w6 xb0 kd K no2 l2 h2 f2 b2 := At.below' hb5 hXB4
  have hW6 : WkAt w6 bw kd K (Al.signedB kd) true 0 0 0 0 := At.below' hb5 hW
  replace d8 := At.below' hb5 d8
  replace hbE := hbE.trans (hb5.mono hbE.size)
  clear hb5 hXA4 hXB4 hW cE1 cE2
  go_upto_if 61 with (fail)
  go_cut [] from 62 to 65 (fun wx => (∃ tno tl th tf tb, WkAt wx bw kd K (Al.signedB kd) tno tl th tf tb ∧ ValOk 32 tno tl th tf tb ∧ mayB (32 : Nat) tno tl th tf tb = true ∧ EqAll A B (MemV 32 tno tl th tf tb)) ∧ Keeps bw w6 wx)
  case first =>
    clear d8 hbE
    cases cd
    · have fin : (∃ tno tl th tf tb, WkAt w6 bw kd K (Al.signedB kd) tno tl th tf tb ∧ ValOk 32 tno tl th tf tb ∧ mayB (32 : Nat) tno tl th tf tb = true ∧ EqAll A B (MemV 32 tno tl th tf tb)) ∧ Keeps bw w6 w6 := ⟨⟨true, 0, 0, 0, 0, hW6, no_32, no_32m, (fun _ z hz => by cases hz.1), (fun h1 h2 => absurd (hcd.2 ⟨h1, h2⟩) (by decide))⟩, Keeps.refl bw w6⟩
      clear hcd hXA6 hXB6 hW6 cM
      go_wp2_with fail
      go_meet
      exact fin
    · obtain ⟨hA, hB⟩ := hcd.1 rfl
      have cM2 := cM hA hB w6 hXA6 hXB6 hW6
      clear hcd cM hXA6 hXB6 hW6
      go_wp2_with fail
      refine cM2.mono ?_
      rintro e w7 ⟨rfl, ⟨tno, tl, th, tf, tb, hT, okT, hmT, eqt⟩, hKp⟩
      have fin : (∃ tno tl th tf tb, WkAt w7 bw kd K (Al.signedB kd) tno tl th tf tb ∧ ValOk 32 tno tl th tf tb ∧ mayB (32 : Nat) tno tl th tf tb = true ∧ EqAll A B (MemV 32 tno tl th tf tb)) ∧ Keeps bw w6 w7 := ⟨⟨tno, tl, th, tf, tb, hT, okT, hmT, (fun hn => absurd ⟨hA, hB⟩ hn), (fun _ _ => eqt)⟩, hKp⟩
      clear hT okT hmT eqt hKp cM2 hA hB
      go_wp2_with fail
      go_meet
      exact fin
  case rest =>
  obtain ⟨⟨tno, tl, th, tf, tb, hT, okT, hmT, eqt⟩, hKp⟩ := hcut
  generalize wc = w7 at *
  have EQT := Lib.hid eqt
  have d8k := At.keeps d8 hKp (by omega)
  have hbF := hbE.trans (hKp.below (by omega) hbE.size)
  have cC := fun w g => classes_0 bw kd K (Al.signedB kd) tno tl th tf tb w g
  clear cM hXA6 hXB6 hW6 hKp hbE d8 eqt hcd
  obtain ⟨B8, hB8⟩ : ∃ B, B = w.heap.size + 1 + 1 := ⟨_, rfl⟩
  have hB8l : w.heap.size ≤ B8 := by omega
  rw [← hB8] at d8k
  go_upto_region 13 with (fail)
  rw [← hB8]
  clear hB8 hbw2 hbw3
  have o0 : w7.cell? ⟨bw, 4, none⟩ = some (.int .i64 32) := hT.cell 4 rfl
  have o1 : w7.cell? ⟨bw, 5, none⟩ = some (.bool tno) := hT.cell 5 rfl
  have o2 : w7.cell? ⟨bw, 6, none⟩ = some (.int .i64 tl) := hT.cell 6 rfl
  have o3 : w7.cell? ⟨bw, 7, none⟩ = some (.int .i64 th) := hT.cell 7 rfl
  have o4 : w7.cell? ⟨bw, 8, none⟩ = some (.int .i64 tf) := hT.cell 8 rfl
  have o5 : w7.cell? ⟨bw, 9, none⟩ = some (.int .i64 tb) := hT.cell 9 rfl
  have HT := Lib.hid hT
  have D8 := Lib.hid d8k
  clear hT d8k
  go_region_with
    ((go_at_call 35; refine (cC _ (At.drew HT.out)).mono ?_; rintro e w8 ⟨rfl, hb8⟩
      have dR := At.below' hb8 D8.out.drew
      have hT8 := At.below' hb8 (At.drew HT.out)
      have u0 : w8.cell? ⟨bw, 4, none⟩ = some (.int .i64 32) := hT8.cell 4 rfl
      have u1 : w8.cell? ⟨bw, 5, none⟩ = some (.bool tno) := hT8.cell 5 rfl
      have u2 : w8.cell? ⟨bw, 6, none⟩ = some (.int .i64 tl) := hT8.cell 6 rfl
      have u3 : w8.cell? ⟨bw, 7, none⟩ = some (.int .i64 th) := hT8.cell 7 rfl
      have u4 : w8.cell? ⟨bw, 8, none⟩ = some (.int .i64 tf) := hT8.cell 8 rfl
      have u5 : w8.cell? ⟨bw, 9, none⟩ = some (.int .i64 tb) := hT8.cell 9 rfl
      have tc0 : w8.cell? ⟨B8, 0, none⟩ = some (.int .i64 0) := dR.cell 0 rfl
      have tf0 : w8.frozen? ⟨B8, 0, none⟩ = false := At.free dR 0
      have ts0 : At (w8.setCell ⟨B8, 0, none⟩ (.int .i64 32)) B8 #[.int .i64 32, .bool false, .int .i64 0, .int .i64 0, .int .i64 0, .int .i64 0] 30 := At.set dR 0 (.int .i64 32) (by simp)
      have tc1 : (w8.setCell ⟨B8, 0, none⟩ (.int .i64 32)).cell? ⟨B8, 1, none⟩ = some (.bool false) := ts0.cell 1 rfl
      have tf1 : (w8.setCell ⟨B8, 0, none⟩ (.int .i64 32)).frozen? ⟨B8, 1, none⟩ = false := At.free ts0 1
      have ts1 : At ((w8.setCell ⟨B8, 0, none⟩ (.int .i64 32)).setCell ⟨B8, 1, none⟩ (.bool tno)) B8 #[.int .i64 32, .bool tno, .int .i64 0, .int .i64 0, .int .i64 0, .int .i64 0] 30 := At.set ts0 1 (.bool tno) (by simp)
      have tc2 : ((w8.setCell ⟨B8, 0, none⟩ (.int .i64 32)).setCell ⟨B8, 1, none⟩ (.bool tno)).cell? ⟨B8, 2, none⟩ = some (.int .i64 0) := ts1.cell 2 rfl
      have tf2 : ((w8.setCell ⟨B8, 0, none⟩ (.int .i64 32)).setCell ⟨B8, 1, none⟩ (.bool tno)).frozen? ⟨B8, 2, none⟩ = false := At.free ts1 2
      have ts2 : At (((w8.setCell ⟨B8, 0, none⟩ (.int .i64 32)).setCell ⟨B8, 1, none⟩ (.bool tno)).setCell ⟨B8, 2, none⟩ (.int .i64 tl)) B8 #[.int .i64 32, .bool tno, .int .i64 tl, .int .i64 0, .int .i64 0, .int .i64 0] 30 := At.set ts1 2 (.int .i64 tl) (by simp)
      have tc3 : (((w8.setCell ⟨B8, 0, none⟩ (.int .i64 32)).setCell ⟨B8, 1, none⟩ (.bool tno)).setCell ⟨B8, 2, none⟩ (.int .i64 tl)).cell? ⟨B8, 3, none⟩ = some (.int .i64 0) := ts2.cell 3 rfl
      have tf3 : (((w8.setCell ⟨B8, 0, none⟩ (.int .i64 32)).setCell ⟨B8, 1, none⟩ (.bool tno)).setCell ⟨B8, 2, none⟩ (.int .i64 tl)).frozen? ⟨B8, 3, none⟩ = false := At.free ts2 3
      have ts3 : At ((((w8.setCell ⟨B8, 0, none⟩ (.int .i64 32)).setCell ⟨B8, 1, none⟩ (.bool tno)).setCell ⟨B8, 2, none⟩ (.int .i64 tl)).setCell ⟨B8, 3, none⟩ (.int .i64 th)) B8 #[.int .i64 32, .bool tno, .int .i64 tl, .int .i64 th, .int .i64 0, .int .i64 0] 30 := At.set ts2 3 (.int .i64 th) (by simp)
      have tc4 : ((((w8.setCell ⟨B8, 0, none⟩ (.int .i64 32)).setCell ⟨B8, 1, none⟩ (.bool tno)).setCell ⟨B8, 2, none⟩ (.int .i64 tl)).setCell ⟨B8, 3, none⟩ (.int .i64 th)).cell? ⟨B8, 4, none⟩ = some (.int .i64 0) := ts3.cell 4 rfl
      have tf4 : ((((w8.setCell ⟨B8, 0, none⟩ (.int .i64 32)).setCell ⟨B8, 1, none⟩ (.bool tno)).setCell ⟨B8, 2, none⟩ (.int .i64 tl)).setCell ⟨B8, 3, none⟩ (.int .i64 th)).frozen? ⟨B8, 4, none⟩ = false := At.free ts3 4
      have ts4 : At (((((w8.setCell ⟨B8, 0, none⟩ (.int .i64 32)).setCell ⟨B8, 1, none⟩ (.bool tno)).setCell ⟨B8, 2, none⟩ (.int .i64 tl)).setCell ⟨B8, 3, none⟩ (.int .i64 th)).setCell ⟨B8, 4, none⟩ (.int .i64 tf)) B8 #[.int .i64 32, .bool tno, .int .i64 tl, .int .i64 th, .int .i64 tf, .int .i64 0] 30 := At.set ts3 4 (.int .i64 tf) (by simp)
      have tc5 : (((((w8.setCell ⟨B8, 0, none⟩ (.int .i64 32)).setCell ⟨B8, 1, none⟩ (.bool tno)).setCell ⟨B8, 2, none⟩ (.int .i64 tl)).setCell ⟨B8, 3, none⟩ (.int .i64 th)).setCell ⟨B8, 4, none⟩ (.int .i64 tf)).cell? ⟨B8, 5, none⟩ = some (.int .i64 0) := ts4.cell 5 rfl
      have tf5 : (((((w8.setCell ⟨B8, 0, none⟩ (.int .i64 32)).setCell ⟨B8, 1, none⟩ (.bool tno)).setCell ⟨B8, 2, none⟩ (.int .i64 tl)).setCell ⟨B8, 3, none⟩ (.int .i64 th)).setCell ⟨B8, 4, none⟩ (.int .i64 tf)).frozen? ⟨B8, 5, none⟩ = false := At.free ts4 5
      have ts5 : At ((((((w8.setCell ⟨B8, 0, none⟩ (.int .i64 32)).setCell ⟨B8, 1, none⟩ (.bool tno)).setCell ⟨B8, 2, none⟩ (.int .i64 tl)).setCell ⟨B8, 3, none⟩ (.int .i64 th)).setCell ⟨B8, 4, none⟩ (.int .i64 tf)).setCell ⟨B8, 5, none⟩ (.int .i64 tb)) B8 #[.int .i64 32, .bool tno, .int .i64 tl, .int .i64 th, .int .i64 tf, .int .i64 tb] 30 := At.set ts4 5 (.int .i64 tb) (by simp)
      have DR := Lib.hid ts5
      have HB8 := Lib.hid hb8
      clear dR hb8 hT8 ts5 ts0 ts1 ts2 ts3 ts4))
  all_goals
    have hbG : Below w.heap.size w ((((((w8.setCell ⟨B8, 0, none⟩ (.int .i64 32)).setCell ⟨B8, 1, none⟩ (.bool tno)).setCell ⟨B8, 2, none⟩ (.int .i64 tl)).setCell ⟨B8, 3, none⟩ (.int .i64 th)).setCell ⟨B8, 4, none⟩ (.int .i64 tf)).setCell ⟨B8, 5, none⟩ (.int .i64 tb)) := (((((((hbF.drew.trans (HB8.out.mono hbF.size)).setCell (p := ⟨B8, 0, none⟩) hB8l (.int .i64 32)).setCell (p := ⟨B8, 1, none⟩) hB8l (.bool tno)).setCell (p := ⟨B8, 2, none⟩) hB8l (.int .i64 tl)).setCell (p := ⟨B8, 3, none⟩) hB8l (.int .i64 th)).setCell (p := ⟨B8, 4, none⟩) hB8l (.int .i64 tf)).setCell (p := ⟨B8, 5, none⟩) hB8l (.int .i64 tb))
    have g0 : ((((((w8.setCell ⟨B8, 0, none⟩ (.int .i64 32)).setCell ⟨B8, 1, none⟩ (.bool tno)).setCell ⟨B8, 2, none⟩ (.int .i64 tl)).setCell ⟨B8, 3, none⟩ (.int .i64 th)).setCell ⟨B8, 4, none⟩ (.int .i64 tf)).setCell ⟨B8, 5, none⟩ (.int .i64 tb)).cell? ⟨B8, 0, none⟩ = some (.int .i64 32) := DR.out.cell 0 rfl
    have g1 : ((((((w8.setCell ⟨B8, 0, none⟩ (.int .i64 32)).setCell ⟨B8, 1, none⟩ (.bool tno)).setCell ⟨B8, 2, none⟩ (.int .i64 tl)).setCell ⟨B8, 3, none⟩ (.int .i64 th)).setCell ⟨B8, 4, none⟩ (.int .i64 tf)).setCell ⟨B8, 5, none⟩ (.int .i64 tb)).cell? ⟨B8, 1, none⟩ = some (.bool tno) := DR.out.cell 1 rfl
    have g2 : ((((((w8.setCell ⟨B8, 0, none⟩ (.int .i64 32)).setCell ⟨B8, 1, none⟩ (.bool tno)).setCell ⟨B8, 2, none⟩ (.int .i64 tl)).setCell ⟨B8, 3, none⟩ (.int .i64 th)).setCell ⟨B8, 4, none⟩ (.int .i64 tf)).setCell ⟨B8, 5, none⟩ (.int .i64 tb)).cell? ⟨B8, 2, none⟩ = some (.int .i64 tl) := DR.out.cell 2 rfl
    have g3 : ((((((w8.setCell ⟨B8, 0, none⟩ (.int .i64 32)).setCell ⟨B8, 1, none⟩ (.bool tno)).setCell ⟨B8, 2, none⟩ (.int .i64 tl)).setCell ⟨B8, 3, none⟩ (.int .i64 th)).setCell ⟨B8, 4, none⟩ (.int .i64 tf)).setCell ⟨B8, 5, none⟩ (.int .i64 tb)).cell? ⟨B8, 3, none⟩ = some (.int .i64 th) := DR.out.cell 3 rfl
    have g4 : ((((((w8.setCell ⟨B8, 0, none⟩ (.int .i64 32)).setCell ⟨B8, 1, none⟩ (.bool tno)).setCell ⟨B8, 2, none⟩ (.int .i64 tl)).setCell ⟨B8, 3, none⟩ (.int .i64 th)).setCell ⟨B8, 4, none⟩ (.int .i64 tf)).setCell ⟨B8, 5, none⟩ (.int .i64 tb)).cell? ⟨B8, 4, none⟩ = some (.int .i64 tf) := DR.out.cell 4 rfl
    have g5 : ((((((w8.setCell ⟨B8, 0, none⟩ (.int .i64 32)).setCell ⟨B8, 1, none⟩ (.bool tno)).setCell ⟨B8, 2, none⟩ (.int .i64 tl)).setCell ⟨B8, 3, none⟩ (.int .i64 th)).setCell ⟨B8, 4, none⟩ (.int .i64 tf)).setCell ⟨B8, 5, none⟩ (.int .i64 tb)).cell? ⟨B8, 5, none⟩ = some (.int .i64 tb) := DR.out.cell 5 rfl
    clear u0 u1 u2 u3 u4 u5 tc0 tc1 tc2 tc3 tc4 tc5 tf0 tf1 tf2 tf3 tf4 tf5 DR HB8 HT D8 o0 o1 o2 o3 o4 o5 cC hbF
    go_wp2_with fail
    exact bodyPost_ret (v := .tuple #[valV 32 tno tl th tf tb, .slice none 0 0, .int .i64 0]) (by simp [results, Tryz.results10, go_sem, g0, g1, g2, g3, g4, g5]) rfl ⟨tno, tl, th, tf, tb, rfl, okT, hmT, EQT.out, hbG⟩
end Go.Proofs.YtblahbmhbfcggaaGreatDoor

/- Two at operands that are none; what an operator of two tells, against the numbers' own. -/
namespace Go.Proofs.YtblahbmhbfcggaaGreatDoor
open Go.ChangeShapes Go.WideShapes Go.ChangeAt Go.RowKit Go.Joins Go.Deep
set_option linter.unusedVariables false

set_option maxRecDepth 100000 in
set_option maxHeartbeats 1600000 in
theorem MTwo_bad1 (op kd : Int) (ho : 8 ≤ op ∧ op ≤ 19) (hk : 1 ≤ kd ∧ kd ≤ 6) (k : Int) (no : Bool) (l h f b : Int) (k2 : Int) (no2 : Bool) (l2 h2 f2 b2 : Int)
    (cX : ∀ w, Calls Tryz.prog 31 #[.int .i64 kd, valV k no l h f b] w fun e w' => e = .returned (.tuple #[.pointer none, .int .i64 1]) ∧ Below w.heap.size w w') (w : World) :
    Calls Tryz.prog 10 #[.int .i64 op, .int .i64 kd, valV k no l h f b, valV k2 no2 l2 h2 f2 b2] w fun e w' => e = .returned (.tuple #[valV 0 false 0 0 0 0, .slice none 0 0, .int .i64 1]) ∧ Below w.heap.size w w' := by
  obtain ⟨dA0, dB0, hb00⟩ := two_boxes w #[.int .i64 k, .bool no, .int .i64 l, .int .i64 h, .int .i64 f, .int .i64 b] #[.int .i64 k2, .bool no2, .int .i64 l2, .int .i64 h2, .int .i64 f2, .int .i64 b2] 30
  have d4 := At.new ((w.alloc (.cells #[.int .i64 k, .bool no, .int .i64 l, .int .i64 h, .int .i64 f, .int .i64 b] 30)).alloc (.cells #[.int .i64 k2, .bool no2, .int .i64 l2, .int .i64 h2, .int .i64 f2, .int .i64 b2] 30)) #[.int .i64 0, .bool false, .int .i64 0, .int .i64 0, .int .i64 0, .int .i64 0] 30
  have d8 : At (((w.alloc (.cells #[.int .i64 k, .bool no, .int .i64 l, .int .i64 h, .int .i64 f, .int .i64 b] 30)).alloc (.cells #[.int .i64 k2, .bool no2, .int .i64 l2, .int .i64 h2, .int .i64 f2, .int .i64 b2] 30)).alloc (.cells #[.int .i64 0, .bool false, .int .i64 0, .int .i64 0, .int .i64 0, .int .i64 0] 30)) (w.heap.size + 1 + 1) #[.int .i64 0, .bool false, .int .i64 0, .int .i64 0, .int .i64 0, .int .i64 0] 30 := by simpa only [World.size_alloc] using d4
  have dA := At.alloc dA0 (.cells #[.int .i64 0, .bool false, .int .i64 0, .int .i64 0, .int .i64 0, .int .i64 0] 30)
  have dB := At.alloc dB0 (.cells #[.int .i64 0, .bool false, .int .i64 0, .int .i64 0, .int .i64 0, .int .i64 0] 30)
  have hbE := hb00.alloc hb00.size (.cells #[.int .i64 0, .bool false, .int .i64 0, .int .i64 0, .int .i64 0, .int .i64 0] 30)
  have hz0 : Al.isN 0 (Al.widthI kd) := by rcases Al.num_cases hk with rfl | rfl | rfl | rfl | rfl | rfl <;> exact ⟨Int.le_refl 0, by decide⟩
  have cT2 := fun w => Al.Two_yes op kd 0 0 ho hk hz0 hz0 w
  generalize Al.twoI op kd 0 0 = r at *
  obtain ⟨r1, r2⟩ := r
  obtain ⟨BR, hBR⟩ : ∃ B, B = w.heap.size + 1 + 1 := ⟨_, rfl⟩
  have hBw : w.heap.size ≤ BR := by omega
  rw [← hBR] at d8
  have HBR := Lib.hid hBR
  clear hz0 hBR ho dA0 dB0 hb00 d4
  go_enter Tryz.func10, Tryz.ntmps10
  go_upto_region 1 with (fail)
  rw [← HBR.out]
  generalize (((w.alloc (.cells #[.int .i64 k, .bool no, .int .i64 l, .int .i64 h, .int .i64 f, .int .i64 b] 30)).alloc (.cells #[.int .i64 k2, .bool no2, .int .i64 l2, .int .i64 h2, .int .i64 f2, .int .i64 b2] 30)).alloc (.cells #[.int .i64 0, .bool false, .int .i64 0, .int .i64 0, .int .i64 0, .int .i64 0] 30)) = w0 at *
  go_wp2_with fail
  refine (cT2 _).mono ?_
  rintro e w1 ⟨rfl, hb1⟩
  replace dA := At.below' hb1 dA
  replace dB := At.below' hb1 dB
  replace d8 := At.below' hb1 d8
  replace hbE := hbE.trans (hb1.mono hbE.size)
  clear hb1 cT2
  have p0 : w1.cell? ⟨w.heap.size, 0, none⟩ = some (.int .i64 k) := dA.cell 0 rfl
  have p1 : w1.cell? ⟨w.heap.size, 1, none⟩ = some (.bool no) := dA.cell 1 rfl
  have p2 : w1.cell? ⟨w.heap.size, 2, none⟩ = some (.int .i64 l) := dA.cell 2 rfl
  have p3 : w1.cell? ⟨w.heap.size, 3, none⟩ = some (.int .i64 h) := dA.cell 3 rfl
  have p4 : w1.cell? ⟨w.heap.size, 4, none⟩ = some (.int .i64 f) := dA.cell 4 rfl
  have p5 : w1.cell? ⟨w.heap.size, 5, none⟩ = some (.int .i64 b) := dA.cell 5 rfl
  go_wp2_with fail
  refine (cX _).mono ?_
  rintro e w2 ⟨rfl, hb2⟩
  replace d8 := At.below' hb2 d8
  replace hbE := hbE.trans (hb2.mono hbE.size)
  clear p0 p1 p2 p3 p4 p5 hb2 cX dA dB
  have st := store6 d8 (.int .i64 0) (.bool false) (.int .i64 0) (.int .i64 0) (.int .i64 0) (.int .i64 0)
  have d2 := store6_at d8 (.int .i64 0) (.bool false) (.int .i64 0) (.int .i64 0) (.int .i64 0) (.int .i64 0)
  have hbT := store6_below hbE hBw (.int .i64 0) (.bool false) (.int .i64 0) (.int .i64 0) (.int .i64 0) (.int .i64 0)
  have g0 : ((((((w2.setCell ⟨BR, 0, none⟩ (.int .i64 0)).setCell ⟨BR, 1, none⟩ (.bool false)).setCell ⟨BR, 2, none⟩ (.int .i64 0)).setCell ⟨BR, 3, none⟩ (.int .i64 0)).setCell ⟨BR, 4, none⟩ (.int .i64 0)).setCell ⟨BR, 5, none⟩ (.int .i64 0)).cell? ⟨BR, 0, none⟩ = some (.int .i64 0) := d2.cell 0 rfl
  have g1 : ((((((w2.setCell ⟨BR, 0, none⟩ (.int .i64 0)).setCell ⟨BR, 1, none⟩ (.bool false)).setCell ⟨BR, 2, none⟩ (.int .i64 0)).setCell ⟨BR, 3, none⟩ (.int .i64 0)).setCell ⟨BR, 4, none⟩ (.int .i64 0)).setCell ⟨BR, 5, none⟩ (.int .i64 0)).cell? ⟨BR, 1, none⟩ = some (.bool false) := d2.cell 1 rfl
  have g2 : ((((((w2.setCell ⟨BR, 0, none⟩ (.int .i64 0)).setCell ⟨BR, 1, none⟩ (.bool false)).setCell ⟨BR, 2, none⟩ (.int .i64 0)).setCell ⟨BR, 3, none⟩ (.int .i64 0)).setCell ⟨BR, 4, none⟩ (.int .i64 0)).setCell ⟨BR, 5, none⟩ (.int .i64 0)).cell? ⟨BR, 2, none⟩ = some (.int .i64 0) := d2.cell 2 rfl
  have g3 : ((((((w2.setCell ⟨BR, 0, none⟩ (.int .i64 0)).setCell ⟨BR, 1, none⟩ (.bool false)).setCell ⟨BR, 2, none⟩ (.int .i64 0)).setCell ⟨BR, 3, none⟩ (.int .i64 0)).setCell ⟨BR, 4, none⟩ (.int .i64 0)).setCell ⟨BR, 5, none⟩ (.int .i64 0)).cell? ⟨BR, 3, none⟩ = some (.int .i64 0) := d2.cell 3 rfl
  have g4 : ((((((w2.setCell ⟨BR, 0, none⟩ (.int .i64 0)).setCell ⟨BR, 1, none⟩ (.bool false)).setCell ⟨BR, 2, none⟩ (.int .i64 0)).setCell ⟨BR, 3, none⟩ (.int .i64 0)).setCell ⟨BR, 4, none⟩ (.int .i64 0)).setCell ⟨BR, 5, none⟩ (.int .i64 0)).cell? ⟨BR, 4, none⟩ = some (.int .i64 0) := d2.cell 4 rfl
  have g5 : ((((((w2.setCell ⟨BR, 0, none⟩ (.int .i64 0)).setCell ⟨BR, 1, none⟩ (.bool false)).setCell ⟨BR, 2, none⟩ (.int .i64 0)).setCell ⟨BR, 3, none⟩ (.int .i64 0)).setCell ⟨BR, 4, none⟩ (.int .i64 0)).setCell ⟨BR, 5, none⟩ (.int .i64 0)).cell? ⟨BR, 5, none⟩ = some (.int .i64 0) := d2.cell 5 rfl
  clear d8 d2 hbE
  go_wp2_with fail
  exact bodyPost_ret (v := .tuple #[valV 0 false 0 0 0 0, .slice none 0 0, .int .i64 1]) (by simp [results, Tryz.results10, go_sem, g0, g1, g2, g3, g4, g5]) rfl ⟨rfl, hbT⟩
set_option maxRecDepth 100000 in
set_option maxHeartbeats 1600000 in
theorem MTwo_bad2 (op kd : Int) (ho : 8 ≤ op ∧ op ≤ 19) (hk : 1 ≤ kd ∧ kd ≤ 6) (K : Nat) (hK : Al.widthI kd = K) (no : Bool) (l h f b : Nat) (hm : mayB K no l h f b = true) (k2 : Int) (no2 : Bool) (l2 h2 f2 b2 : Int)
    (cX : ∀ w, Calls Tryz.prog 31 #[.int .i64 kd, valV k2 no2 l2 h2 f2 b2] w fun e w' => e = .returned (.tuple #[.pointer none, .int .i64 1]) ∧ Below w.heap.size w w') (w : World) :
    Calls Tryz.prog 10 #[.int .i64 op, .int .i64 kd, valV K no l h f b, valV k2 no2 l2 h2 f2 b2] w fun e w' => e = .returned (.tuple #[valV 0 false 0 0 0 0, .slice none 0 0, .int .i64 1]) ∧ Below w.heap.size w w' := by
  obtain ⟨dA0, dB0, hb00⟩ := two_boxes w #[.int .i64 K, .bool no, .int .i64 l, .int .i64 h, .int .i64 f, .int .i64 b] #[.int .i64 k2, .bool no2, .int .i64 l2, .int .i64 h2, .int .i64 f2, .int .i64 b2] 30
  have d4 := At.new ((w.alloc (.cells #[.int .i64 K, .bool no, .int .i64 l, .int .i64 h, .int .i64 f, .int .i64 b] 30)).alloc (.cells #[.int .i64 k2, .bool no2, .int .i64 l2, .int .i64 h2, .int .i64 f2, .int .i64 b2] 30)) #[.int .i64 0, .bool false, .int .i64 0, .int .i64 0, .int .i64 0, .int .i64 0] 30
  have d8 : At (((w.alloc (.cells #[.int .i64 K, .bool no, .int .i64 l, .int .i64 h, .int .i64 f, .int .i64 b] 30)).alloc (.cells #[.int .i64 k2, .bool no2, .int .i64 l2, .int .i64 h2, .int .i64 f2, .int .i64 b2] 30)).alloc (.cells #[.int .i64 0, .bool false, .int .i64 0, .int .i64 0, .int .i64 0, .int .i64 0] 30)) (w.heap.size + 1 + 1) #[.int .i64 0, .bool false, .int .i64 0, .int .i64 0, .int .i64 0, .int .i64 0] 30 := by simpa only [World.size_alloc] using d4
  have dA := At.alloc dA0 (.cells #[.int .i64 0, .bool false, .int .i64 0, .int .i64 0, .int .i64 0, .int .i64 0] 30)
  have dB := At.alloc dB0 (.cells #[.int .i64 0, .bool false, .int .i64 0, .int .i64 0, .int .i64 0, .int .i64 0] 30)
  have hbE := hb00.alloc hb00.size (.cells #[.int .i64 0, .bool false, .int .i64 0, .int .i64 0, .int .i64 0, .int .i64 0] 30)
  have hz0 : Al.isN 0 (Al.widthI kd) := by rcases Al.num_cases hk with rfl | rfl | rfl | rfl | rfl | rfl <;> exact ⟨Int.le_refl 0, by decide⟩
  have cT2 := fun w => Al.Two_yes op kd 0 0 ho hk hz0 hz0 w
  generalize Al.twoI op kd 0 0 = r at *
  obtain ⟨r1, r2⟩ := r
  have cA := fun w => mtake_yes kd hk K hK no l h f b hm w
  obtain ⟨BR, hBR⟩ : ∃ B, B = w.heap.size + 1 + 1 := ⟨_, rfl⟩
  have hBw : w.heap.size ≤ BR := by omega
  rw [← hBR] at d8
  have HBR := Lib.hid hBR
  clear hz0 hBR ho dA0 dB0 hb00 d4
  go_enter Tryz.func10, Tryz.ntmps10
  go_upto_region 1 with (fail)
  rw [← HBR.out]
  generalize (((w.alloc (.cells #[.int .i64 K, .bool no, .int .i64 l, .int .i64 h, .int .i64 f, .int .i64 b] 30)).alloc (.cells #[.int .i64 k2, .bool no2, .int .i64 l2, .int .i64 h2, .int .i64 f2, .int .i64 b2] 30)).alloc (.cells #[.int .i64 0, .bool false, .int .i64 0, .int .i64 0, .int .i64 0, .int .i64 0] 30)) = w0 at *
  go_wp2_with fail
  refine (cT2 _).mono ?_
  rintro e w1 ⟨rfl, hb1⟩
  replace dA := At.below' hb1 dA
  replace dB := At.below' hb1 dB
  replace d8 := At.below' hb1 d8
  replace hbE := hbE.trans (hb1.mono hbE.size)
  clear hb1 cT2
  have p0 : w1.cell? ⟨w.heap.size, 0, none⟩ = some (.int .i64 K) := dA.cell 0 rfl
  have p1 : w1.cell? ⟨w.heap.size, 1, none⟩ = some (.bool no) := dA.cell 1 rfl
  have p2 : w1.cell? ⟨w.heap.size, 2, none⟩ = some (.int .i64 l) := dA.cell 2 rfl
  have p3 : w1.cell? ⟨w.heap.size, 3, none⟩ = some (.int .i64 h) := dA.cell 3 rfl
  have p4 : w1.cell? ⟨w.heap.size, 4, none⟩ = some (.int .i64 f) := dA.cell 4 rfl
  have p5 : w1.cell? ⟨w.heap.size, 5, none⟩ = some (.int .i64 b) := dA.cell 5 rfl
  go_wp2_with fail
  refine (cA _).mono ?_
  rintro e w1b ⟨xa, rfl, hXA, hxa, hb2⟩
  replace dB := At.below' hb2 dB
  replace d8 := At.below' hb2 d8
  replace hbE := hbE.trans (hb2.mono hbE.size)
  clear p0 p1 p2 p3 p4 p5 hb2 cA dA hXA hxa
  have q0 : w1b.cell? ⟨(w.heap.size + 1), 0, none⟩ = some (.int .i64 k2) := dB.cell 0 rfl
  have q1 : w1b.cell? ⟨(w.heap.size + 1), 1, none⟩ = some (.bool no2) := dB.cell 1 rfl
  have q2 : w1b.cell? ⟨(w.heap.size + 1), 2, none⟩ = some (.int .i64 l2) := dB.cell 2 rfl
  have q3 : w1b.cell? ⟨(w.heap.size + 1), 3, none⟩ = some (.int .i64 h2) := dB.cell 3 rfl
  have q4 : w1b.cell? ⟨(w.heap.size + 1), 4, none⟩ = some (.int .i64 f2) := dB.cell 4 rfl
  have q5 : w1b.cell? ⟨(w.heap.size + 1), 5, none⟩ = some (.int .i64 b2) := dB.cell 5 rfl
  go_wp2_with fail
  refine (cX _).mono ?_
  rintro e w2 ⟨rfl, hb2⟩
  replace d8 := At.below' hb2 d8
  replace hbE := hbE.trans (hb2.mono hbE.size)
  clear q0 q1 q2 q3 q4 q5 hb2 cX dB
  have st := store6 d8 (.int .i64 0) (.bool false) (.int .i64 0) (.int .i64 0) (.int .i64 0) (.int .i64 0)
  have d2 := store6_at d8 (.int .i64 0) (.bool false) (.int .i64 0) (.int .i64 0) (.int .i64 0) (.int .i64 0)
  have hbT := store6_below hbE hBw (.int .i64 0) (.bool false) (.int .i64 0) (.int .i64 0) (.int .i64 0) (.int .i64 0)
  have g0 : ((((((w2.setCell ⟨BR, 0, none⟩ (.int .i64 0)).setCell ⟨BR, 1, none⟩ (.bool false)).setCell ⟨BR, 2, none⟩ (.int .i64 0)).setCell ⟨BR, 3, none⟩ (.int .i64 0)).setCell ⟨BR, 4, none⟩ (.int .i64 0)).setCell ⟨BR, 5, none⟩ (.int .i64 0)).cell? ⟨BR, 0, none⟩ = some (.int .i64 0) := d2.cell 0 rfl
  have g1 : ((((((w2.setCell ⟨BR, 0, none⟩ (.int .i64 0)).setCell ⟨BR, 1, none⟩ (.bool false)).setCell ⟨BR, 2, none⟩ (.int .i64 0)).setCell ⟨BR, 3, none⟩ (.int .i64 0)).setCell ⟨BR, 4, none⟩ (.int .i64 0)).setCell ⟨BR, 5, none⟩ (.int .i64 0)).cell? ⟨BR, 1, none⟩ = some (.bool false) := d2.cell 1 rfl
  have g2 : ((((((w2.setCell ⟨BR, 0, none⟩ (.int .i64 0)).setCell ⟨BR, 1, none⟩ (.bool false)).setCell ⟨BR, 2, none⟩ (.int .i64 0)).setCell ⟨BR, 3, none⟩ (.int .i64 0)).setCell ⟨BR, 4, none⟩ (.int .i64 0)).setCell ⟨BR, 5, none⟩ (.int .i64 0)).cell? ⟨BR, 2, none⟩ = some (.int .i64 0) := d2.cell 2 rfl
  have g3 : ((((((w2.setCell ⟨BR, 0, none⟩ (.int .i64 0)).setCell ⟨BR, 1, none⟩ (.bool false)).setCell ⟨BR, 2, none⟩ (.int .i64 0)).setCell ⟨BR, 3, none⟩ (.int .i64 0)).setCell ⟨BR, 4, none⟩ (.int .i64 0)).setCell ⟨BR, 5, none⟩ (.int .i64 0)).cell? ⟨BR, 3, none⟩ = some (.int .i64 0) := d2.cell 3 rfl
  have g4 : ((((((w2.setCell ⟨BR, 0, none⟩ (.int .i64 0)).setCell ⟨BR, 1, none⟩ (.bool false)).setCell ⟨BR, 2, none⟩ (.int .i64 0)).setCell ⟨BR, 3, none⟩ (.int .i64 0)).setCell ⟨BR, 4, none⟩ (.int .i64 0)).setCell ⟨BR, 5, none⟩ (.int .i64 0)).cell? ⟨BR, 4, none⟩ = some (.int .i64 0) := d2.cell 4 rfl
  have g5 : ((((((w2.setCell ⟨BR, 0, none⟩ (.int .i64 0)).setCell ⟨BR, 1, none⟩ (.bool false)).setCell ⟨BR, 2, none⟩ (.int .i64 0)).setCell ⟨BR, 3, none⟩ (.int .i64 0)).setCell ⟨BR, 4, none⟩ (.int .i64 0)).setCell ⟨BR, 5, none⟩ (.int .i64 0)).cell? ⟨BR, 5, none⟩ = some (.int .i64 0) := d2.cell 5 rfl
  clear d8 d2 hbE
  go_wp2_with fail
  exact bodyPost_ret (v := .tuple #[valV 0 false 0 0 0 0, .slice none 0 0, .int .i64 1]) (by simp [results, Tryz.results10, go_sem, g0, g1, g2, g3, g4, g5]) rfl ⟨rfl, hbT⟩
def TwoGood (op kd : Int) (WA : Nat) (A B M : Nat → Prop) : Prop := (¬ ((∃ z, A z) ∧ ∃ z, B z) → ∀ z, ¬ M z) ∧ (∀ x y, A x → B y → ∃ n : Nat, Al.twoI op kd x y = ((n : Int), 0) ∧ n < 2 ^ WA ∧ M n ∧ ((∀ z, A z ↔ z = x) → (∀ z, B z ↔ z = y) → ∀ z, M z ↔ z = n))
def TwoP (op kd : Int) (A B : Nat → Prop) (w : World) (e : Ending) (w' : World) : Prop := ∃ (WA : Nat) (tno : Bool) (tl th tf tb : Nat), e = .returned (.tuple #[valV WA tno tl th tf tb, .slice none 0 0, .int .i64 0]) ∧ ValOk WA tno tl th tf tb ∧ mayB (WA : Nat) tno tl th tf tb = true ∧ ansI op kd = WA ∧ TwoGood op kd WA A B (MemV WA tno tl th tf tb) ∧ Below w.heap.size w w'
def TwoH (op : Int) : Prop := ∀ (kd : Int) (K : Nat) (no : Bool) (l h f b : Nat) (no2 : Bool) (l2 h2 f2 b2 : Nat), 1 ≤ kd ∧ kd ≤ 6 → Al.widthI kd = K → ValOk K no l h f b → mayB K no l h f b = true → ValOk K no2 l2 h2 f2 b2 → mayB K no2 l2 h2 f2 b2 = true → ∀ w, Calls Tryz.prog 10 #[.int .i64 op, .int .i64 kd, valV K no l h f b, valV K no2 l2 h2 f2 b2] w (TwoP op kd (MemV K no l h f b) (MemV K no2 l2 h2 f2 b2) w)
/-- are two sets of a kind's width -/
def good2B (kd : Int) (k : Int) (no : Bool) (l h f b : Int) (k2 : Int) (no2 : Bool) (l2 h2 f2 b2 : Int) : Bool := decide (1 ≤ kd ∧ kd ≤ 6) && mayB k no l h f b && mayB k2 no2 l2 h2 f2 b2 && (k == Al.widthI kd) && (k2 == k)
theorem width_nat {kd : Int} (hk : 1 ≤ kd ∧ kd ≤ 6) : ∃ W : Nat, Al.widthI kd = W := by rcases Al.num_cases hk with rfl | rfl | rfl | rfl | rfl | rfl <;> first | exact ⟨8, rfl⟩ | exact ⟨16, rfl⟩ | exact ⟨32, rfl⟩
theorem two_refused (op kd : Int) (ho : 8 ≤ op ∧ op ≤ 19) (k : Int) (no : Bool) (l h f b : Int) (k2 : Int) (no2 : Bool) (l2 h2 f2 b2 : Int) (hg : good2B kd k no l h f b k2 no2 l2 h2 f2 b2 = false) (w : World) :
    Calls Tryz.prog 10 #[.int .i64 op, .int .i64 kd, valV k no l h f b, valV k2 no2 l2 h2 f2 b2] w fun e w' => e = .returned (.tuple #[valV 0 false 0 0 0 0, .slice none 0 0, .int .i64 1]) ∧ Below w.heap.size w w' := by
  by_cases hk : 1 ≤ kd ∧ kd ≤ 6
  · obtain ⟨W, hW⟩ := width_nat hk
    cases hm : mayB k no l h f b
    · exact MTwo_bad1 op kd ho hk k no l h f b k2 no2 l2 h2 f2 b2 (fun w => mtake_bad1 kd hk W hW k no l h f b hm w) w
    · obtain ⟨K, L, H, F, B, rfl, rfl, rfl, rfl, rfl, _, _⟩ := may_nat hm
      by_cases hKW : K = W
      · subst hKW
        cases hm2 : mayB k2 no2 l2 h2 f2 b2
        · exact MTwo_bad2 op kd ho hk K hW no L H F B hm k2 no2 l2 h2 f2 b2 (fun w => mtake_bad1 kd hk K hW k2 no2 l2 h2 f2 b2 hm2 w) w
        · obtain ⟨K2, L2, H2, F2, B2, rfl, rfl, rfl, rfl, rfl, _, _⟩ := may_nat hm2
          refine MTwo_bad2 op kd ho hk K hW no L H F B hm K2 no2 L2 H2 F2 B2 (fun w => mtake_bad2 kd hk K hW K2 no2 L2 H2 F2 B2 hm2 (fun hKK => ?_) w) w
          subst hKK
          simp [good2B, hk, hm, hm2, hW] at hg
      · exact MTwo_bad1 op kd ho hk K no L H F B k2 no2 l2 h2 f2 b2 (fun w => mtake_bad2 kd hk W hW K no L H F B hm hKW w) w
  · exact MTwo_no op kd (fun w => Al.Two_no_k op kd 0 0 ho hk w) k no l h f b k2 no2 l2 h2 f2 b2 w
theorem good2_nat {kd k : Int} {no : Bool} {l h f b : Int} {k2 : Int} {no2 : Bool} {l2 h2 f2 b2 : Int} (hg : good2B kd k no l h f b k2 no2 l2 h2 f2 b2 = true) : (1 ≤ kd ∧ kd ≤ 6) ∧ ∃ K L H F B L2 H2 F2 B2 : Nat, k = K ∧ l = L ∧ h = H ∧ f = F ∧ b = B ∧ k2 = K ∧ l2 = L2 ∧ h2 = H2 ∧ f2 = F2 ∧ b2 = B2 ∧ ValOk K no L H F B ∧ mayB K no L H F B = true ∧ ValOk K no2 L2 H2 F2 B2 ∧ mayB K no2 L2 H2 F2 B2 = true ∧ Al.widthI kd = K := by
  simp only [good2B, Bool.and_eq_true, decide_eq_true_eq, beq_iff_eq] at hg
  obtain ⟨⟨⟨⟨h1, hm1⟩, hm2⟩, h3⟩, h4⟩ := hg
  obtain ⟨K, L, H, F, B, rfl, rfl, rfl, rfl, rfl, ok1, _⟩ := may_nat hm1
  obtain ⟨K2, L2, H2, F2, B2, rfl, rfl, rfl, rfl, rfl, ok2, _⟩ := may_nat hm2
  obtain rfl : K2 = K := by omega
  exact ⟨h1, K2, L, H, F, B, L2, H2, F2, B2, rfl, rfl, rfl, rfl, rfl, rfl, rfl, rfl, rfl, rfl, ok1, hm1, ok2, hm2, h3.symm⟩
theorem see_inj0 {kd : Int} {x y K : Nat} (hk : 1 ≤ kd ∧ kd ≤ 6) (hK : Al.widthI kd = K) (hx : x < 2 ^ K) (hy : y < 2 ^ K) : Al.seeI kd x = Al.seeI kd y ↔ x = y := by
  have ix : Al.isN (x : Int) (Al.widthI kd) := by rw [hK]; exact isN_nat hx
  have iy : Al.isN (y : Int) (Al.widthI kd) := by rw [hK]; exact isN_nat hy
  constructor
  · intro hh
    have := (Al.see_inj hk ix iy).1 hh
    omega
  · rintro rfl
    rfl
theorem eq_good : TwoH 18 := by
  intro kd K no l h f b no2 l2 h2 f2 b2 hk hK okA hmA okB hmB w
  refine (MTwo_eqall kd hk K hK no l h f b no2 l2 h2 f2 b2 okA okB hmA hmB w).mono ?_
  rintro e w' ⟨tno, tl, th, tf, tb, rfl, okT, hmT, ⟨g0, g1⟩, hb⟩
  have ev : ∀ x y : Nat, Al.twoI 18 kd x y = (Al.truthI (decide (Al.seeI kd x = Al.seeI kd y)), 0) := fun x y => by
    unfold Al.twoI
    rw [if_neg (by decide), if_neg (by decide), if_neg (by decide), if_neg (by decide), if_neg (by decide), if_neg (by decide), if_neg (by decide), if_neg (by decide), if_neg (by decide), if_neg (by decide), if_pos rfl]
  refine ⟨32, tno, tl, th, tf, tb, rfl, okT, hmT, if_pos (Or.inl rfl), ⟨g0, fun x y hx hy => ?_⟩, hb⟩
  obtain ⟨t1, t2, t3, t4⟩ := g1 ⟨x, hx⟩ ⟨y, hy⟩
  have hse := see_inj0 hk hK hx.2.lt hy.2.lt
  by_cases hxy : x = y
  · have e1 : decide (Al.seeI kd (x : Int) = Al.seeI kd (y : Int)) = true := decide_eq_true (hse.2 hxy)
    refine ⟨1, by rw [ev, e1]; rfl, by decide, t1 ⟨x, hx, by rw [hxy]; exact hy⟩, fun hA hB => t3 ⟨x, hA, fun z => by rw [hB z, hxy]⟩⟩
  · have e1 : decide (Al.seeI kd (x : Int) = Al.seeI kd (y : Int)) = false := decide_eq_false (fun hh => hxy (hse.1 hh))
    refine ⟨0, by rw [ev, e1]; rfl, by decide, t2 (fun ⟨m, hA, hB⟩ => hxy (((hA x).1 hx).trans ((hB y).1 hy).symm)), fun hA hB => t4 (fun z hz => hxy (((hA z).1 hz.1).symm.trans ((hB z).1 hz.2)))⟩
end Go.Proofs.YtblahbmhbfcggaaGreatDoor

/- The document's own: some members of a set, at most 14 asked. -/
namespace Go.Proofs.YtblahbmhbfcggaaGreatDoor
open Go.ChangeShapes Go.WideShapes Go.ChangeAt Go.RowKit Go.Joins Go.Deep
set_option linter.unusedVariables false

def RelS1_14 (M : Nat → Prop) (Bl base : Nat) (w0 : World) (v : Value) (wr : World) : Prop := ∃ i : Nat, i ≤ 4 ∧ v = .int .i64 i ∧ SomeSt M Bl base w0 wr (i + 1)
def RelS2_14 (M : Nat → Prop) (Bl base : Nat) (w0 : World) (v : Value) (wr : World) : Prop := ∃ i : Nat, i ≤ 7 ∧ v = .int .i64 i ∧ SomeSt M Bl base w0 wr (i + 100)
set_option maxRecDepth 100000 in
set_option maxHeartbeats 6400000 in
theorem some_14 (k : Nat) (no : Bool) (l h f b : Nat) (ok : ValOk k no l h f b) (sd : Int) (w : World) :
    Calls Tryz.prog 16 #[valV k no l h f b, .int .i64 14, .int .i64 sd] w (SomeP (MemV k no l h f b) w) := by
  have cG := fun B w => gather_any (k : Int) no (l : Int) (h : Int) (f : Int) (b : Int) B w
  obtain ⟨dN, dL, hb0⟩ : At ((w.alloc (.cells #[.int .i64 k, .bool no, .int .i64 l, .int .i64 h, .int .i64 f, .int .i64 b] 30)).alloc (.cells #[.slice none 0 0] 23)) w.heap.size #[.int .i64 k, .bool no, .int .i64 l, .int .i64 h, .int .i64 f, .int .i64 b] 30 ∧ At ((w.alloc (.cells #[.int .i64 k, .bool no, .int .i64 l, .int .i64 h, .int .i64 f, .int .i64 b] 30)).alloc (.cells #[.slice none 0 0] 23)) (w.heap.size + 1) #[.slice none 0 0] 23 ∧ Below w.heap.size w ((w.alloc (.cells #[.int .i64 k, .bool no, .int .i64 l, .int .i64 h, .int .i64 f, .int .i64 b] 30)).alloc (.cells #[.slice none 0 0] 23)) := ⟨(At.new w _ _).alloc _, two_new w _ _ _ _, ((Below.refl _ _).alloc (Nat.le_refl _) _).alloc (by simp) _⟩
  have hk := ok.pat.hk
  have hkp := hk.pow
  have hl := ok.hl
  have hh := ok.hh
  go_enter Tryz.func16, Tryz.ntmps16
  go_wp2_with fail
  refine (cG _ _).mono ?_
  rintro e w1 ⟨rfl, hb1⟩
  have dN1 := At.below' hb1 dN
  have dL1 := At.below' hb1 dL
  have hbE := hb0.trans (hb1.mono hb0.size)
  have dA := At.new w1 (#[.int .i64 k, .bool no, .int .i64 l, .int .i64 h, .int .i64 f, .int .i64 b, .pointer (some ⟨w.heap.size + 1, 0, none⟩)]) 87
  have hl1 : w.heap.size + 1 < w1.heap.size := dL1.lt
  have hbA : Below w.heap.size w (w1.alloc (.cells #[.int .i64 k, .bool no, .int .i64 l, .int .i64 h, .int .i64 f, .int .i64 b, .pointer (some ⟨w.heap.size + 1, 0, none⟩)] 87)) := hbE.alloc hbE.size _
  have dN2 := dN1.alloc (.cells #[.int .i64 k, .bool no, .int .i64 l, .int .i64 h, .int .i64 f, .int .i64 b, .pointer (some ⟨w.heap.size + 1, 0, none⟩)] 87)
  have dL2 := dL1.alloc (.cells #[.int .i64 k, .bool no, .int .i64 l, .int .i64 h, .int .i64 f, .int .i64 b, .pointer (some ⟨w.heap.size + 1, 0, none⟩)] 87)
  go_wp2_with fail
  obtain ⟨N0, hN0⟩ : ∃ N, N = w.heap.size := ⟨_, rfl⟩
  obtain ⟨Bl, hBl⟩ : ∃ B, B = w.heap.size + 1 := ⟨_, rfl⟩
  obtain ⟨Ba, hBa⟩ : ∃ B, B = w1.heap.size := ⟨_, rfl⟩
  have hsz : (w1.alloc (.cells #[.int .i64 k, .bool no, .int .i64 l, .int .i64 h, .int .i64 f, .int .i64 b, .pointer (some ⟨w.heap.size + 1, 0, none⟩)] 87)).heap.size = Ba + 1 := by rw [hBa]; simp
  rw [← hBl] at dA dL2 dN2 hbA hsz ⊢
  rw [← hN0] at dN2 ⊢
  rw [← hBa] at dA ⊢
  have hr1 : N0 < Bl := by omega
  have hr2 : Bl < Ba := by omega
  have HN := Lib.hid hN0
  clear dN dL dN1 dL1 hb0 hb1 hbE cG hBl hBa hN0 hl1
  generalize w1.alloc (.cells #[.int .i64 k, .bool no, .int .i64 l, .int .i64 h, .int .i64 f, .int .i64 b, .pointer (some ⟨Bl, 0, none⟩)] 87) = w0 at *
  obtain ⟨base, hbl, hb0⟩ : ∃ B, Ba < B ∧ B ≤ w0.heap.size := ⟨Ba + 1, by omega, by omega⟩
  clear hsz
  have hRL : RowL w0 Bl base [] (.slice none 0 0) := ⟨dL2, World.ownsRow_nil _ _ _ _, fun _ => rfl⟩
  have lw : w.heap.size ≤ Bl := by have := HN.out; omega
  have lw2 : w.heap.size ≤ base := by omega
  refine (next_some k no l h f b 0 ok (by omega) Bl base [] (.slice none 0 0) (by simp) (by omega) w0 hb0 hRL).mono ?_
  rintro e w2 ⟨is, zs, sl, rfl, his, hRL2, hz1, hz2, hz3, _, hHo⟩
  have r1 : N0 < base := by omega
  have r2 : N0 ≠ Bl := by omega
  have r3 : Ba < base := by omega
  have r4 : Ba ≠ Bl := by omega
  cases is
  · have hno : ∀ z, ¬ MemV k no l h f b z := fun z hz => by have := his.2 ⟨z, Nat.zero_le _, hz⟩; cases this
    have fin : SomeP (MemV k no l h f b) w (.returned (.slice none 0 0)) w2 := ⟨[], none, 0, rfl, Or.inl rfl, by simp, fun _ => hno, by simp, hbA.trans (hHo.below lw lw2)⟩
    clear his hRL hRL2 hHo hno dL2
    go_wp2_with fail
    go_ret
    exact fin
  · have hS : SomeSt (MemV k no l h f b) Bl base w0 w2 1 := ⟨zs, sl, hRL2, fun z hz => (hz1 z hz).elim (fun h => by cases h) id, hz3 rfl, by simpa using hz2, hHo⟩
    clear his hRL hRL2 hHo hz1 hz2 hz3 dL2
    go_wp2_with fail
    go_loopw [9] (fun v wr => RelS1_14 (MemV k no l h f b) Bl base w0 v wr) (fun v _ => 4 - (intOf v).toNat)
    case atStart => exact ⟨0, by omega, rfl, hS⟩
    case round =>
      clear hS
      obtain ⟨i, hi, rfl, hS⟩ := hrel
      by_cases hlt : i < 4
      · have hlt1 : (i : Int) < 4 := by omega
        have hS2 := hS.below hb0 ((Below.refl wr.heap.size wr).drew)
        have dAd := hS2.at dA r3 r4
        obtain ⟨zs, sl, q1, q2, q3, q4, q5⟩ := id hS2
        obtain ⟨p, cap, rfl, hI⟩ := q1.form
        have hpos : 0 < zs.length := List.length_pos_iff.2 q3
        obtain ⟨g, rfl, hc⟩ := hI.resolve_left (by omega)
        obtain ⟨m, hm⟩ : ∃ m, m = zs.length - 1 := ⟨_, rfl⟩
        have hlen : zs.length = m + 1 := by omega
        have cE := hc m (by omega)
        obtain ⟨x, hx⟩ : ∃ x : Nat, x = zs[m]'(by omega) := ⟨_, rfl⟩
        rw [← hx] at cE
        have hxM : MemV k no l h f b x := by rw [hx]; exact q2 _ (List.getElem_mem _)
        have hxlt : x < 2 ^ k := hxM.2.lt
        have cL : wr.drew.cell? ⟨Bl, 0, none⟩ = some (.slice (some ⟨g, 0, none⟩) zs.length cap) := q1.cell.cell 0 rfl
        obtain ⟨q, hq⟩ : ∃ q, q = zs.length := ⟨_, rfl⟩
        rw [← hq] at cL
        have iw1 : IntKind.i64.wrap ((q : Int) - 1) = (m : Int) := by rw [IntKind.wrap_i64]; omega
        have iw3 : (0 : Int) ≤ (m : Int) := by omega
        have iw6 : IntKind.i64.wrap (m : Int) = (m : Int) := by rw [IntKind.wrap_i64]; omega
        have iw4 : (m : Int) < (q : Int) := by omega
        have iw5 : IntKind.i64.wrap ((x : Int) + 1) = (x : Int) + 1 := by rw [IntKind.wrap_i64]; omega
        have cX := fun hS => next_step k no l h f b (x + 1) ok (by omega) Bl base (i + 1) (by omega) w0 wr.drew hb0 (by omega) hS
        have ex : ((x + 1 : Nat) : Int) = (x : Int) + 1 := by omega
        rw [ex] at cX
        have hS8 : wr.drew.cell? ⟨Bl, 0, none⟩ = some (.slice (some ⟨g, 0, none⟩) q cap) ∧ wr.drew.cell? ⟨g, m, none⟩ = some (.int .i64 x) ∧ wr.drew.cell? ⟨Ba, 0, none⟩ = some (.int .i64 k) ∧ wr.drew.cell? ⟨Ba, 1, none⟩ = some (.bool no) ∧ wr.drew.cell? ⟨Ba, 2, none⟩ = some (.int .i64 l) ∧ wr.drew.cell? ⟨Ba, 3, none⟩ = some (.int .i64 h) ∧ wr.drew.cell? ⟨Ba, 4, none⟩ = some (.int .i64 f) ∧ wr.drew.cell? ⟨Ba, 5, none⟩ = some (.int .i64 b) ∧ wr.drew.cell? ⟨Ba, 6, none⟩ = some (.pointer (some ⟨Bl, 0, none⟩)) := ⟨cL, cE, dAd.cell 0 rfl, dAd.cell 1 rfl, dAd.cell 2 rfl, dAd.cell 3 rfl, dAd.cell 4 rfl, dAd.cell 5 rfl, dAd.cell 6 rfl⟩
        have hmp : (0 : Int) < (q : Int) := by omega
        have hmq : 0 < q := by omega
        have hmq2 : m < q := by omega
        have hmq3 : ¬ ((m : Int) < 0) := by omega
        have hm9 : m ≤ 1000 := by omega
        clear hq hx hc hm hlen cE cL q1 q2 q3 q4 q5 hpos dAd ex
        go_upto_region 8 with (fail)
        go_cut [37] from 23 to 37 (fun v37 wx => ∃ is : Bool, v37 = .bool is ∧ SomeSt (MemV k no l h f b) Bl base w0 wx (i + 2))
        case first =>
          obtain ⟨y0, y1, y2, y3, y4, y5, y6, y7, y8⟩ := hS8
          clear hS hl hh hkp hb0 hbA dN2 dA hxM
          go_region_with ((go_at_call 43; refine (cX hS2).mono ?_; rintro e ws ⟨is, rfl, hS3⟩))
          all_goals
            go_wp2_with fail
            go_meet
            exact ⟨_, rfl, hS3⟩
        case rest =>
        obtain ⟨is, rfl, hS3⟩ := hcut
        clear hS8 cX hS2 hS
        cases is
        · go_wp2_with fail
          go_roundw
          case rel => exact ⟨i + 1, by omega, by go_num, hS3⟩
          case measure => simp [intOf]; omega
        · obtain ⟨p, nl, cap, hc, fin⟩ := hS3.some (by omega) hbA lw lw2
          clear hS3
          go_wp2_with fail
          go_ret
          exact fin
      · have hlt1 : decide ((i : Int) < 4) = false := by simp; omega
        have hS1 := hS.up (d := 101) (by omega)
        obtain ⟨TT, PP, hT1, hP, hT2, hT3⟩ := top_num hk
        have HT3 := Lib.hid hT3
        clear hT3
        have e12 : Int.tdiv 14 2 = 7 := by decide
        have e13 : IntKind.i64.wrap 7 = 7 := by decide
        clear hS
        go_wp2_with fail
        go_loopw [10] (fun v wr => RelS2_14 (MemV k no l h f b) Bl base w0 v wr) (fun v _ => 7 - (intOf v).toNat)
        case atStart => exact ⟨1, by omega, rfl, hS1⟩
        case round =>
          clear hS1 hlt hlt1 hi
          obtain ⟨i, hi, rfl, hS⟩ := hrel
          by_cases hlt : i < 7
          · have hlt1 : (i : Int) < 7 := by omega
            go_upto_region 13 with (fail)
            have hS2 := hS.below hb0 ((Below.refl wr.heap.size wr).drew)
            have dAd := hS2.at dA r3 r4
            have dBx := hS2.at dN2 r1 r2
            have hS8 : wr.drew.cell? ⟨Ba, 0, none⟩ = some (.int .i64 k) ∧ wr.drew.cell? ⟨Ba, 1, none⟩ = some (.bool no) ∧ wr.drew.cell? ⟨Ba, 2, none⟩ = some (.int .i64 l) ∧ wr.drew.cell? ⟨Ba, 3, none⟩ = some (.int .i64 h) ∧ wr.drew.cell? ⟨Ba, 4, none⟩ = some (.int .i64 f) ∧ wr.drew.cell? ⟨Ba, 5, none⟩ = some (.int .i64 b) ∧ wr.drew.cell? ⟨Ba, 6, none⟩ = some (.pointer (some ⟨Bl, 0, none⟩)) ∧ wr.drew.cell? ⟨N0, 0, none⟩ = some (.int .i64 k) := ⟨dAd.cell 0 rfl, dAd.cell 1 rfl, dAd.cell 2 rfl, dAd.cell 3 rfl, dAd.cell 4 rfl, dAd.cell 5 rfl, dAd.cell 6 rfl, dBx.cell 0 rfl⟩
            have cR := fun x w => rWrap_nat x k hk w
            clear hS dAd dBx
            go_region_held3 (fun w' => w'.cell? ⟨Ba, 0, none⟩ = some (.int .i64 k) ∧ w'.cell? ⟨Ba, 1, none⟩ = some (.bool no) ∧ w'.cell? ⟨Ba, 2, none⟩ = some (.int .i64 l) ∧ w'.cell? ⟨Ba, 3, none⟩ = some (.int .i64 h) ∧ w'.cell? ⟨Ba, 4, none⟩ = some (.int .i64 f) ∧ w'.cell? ⟨Ba, 5, none⟩ = some (.int .i64 b) ∧ w'.cell? ⟨Ba, 6, none⟩ = some (.pointer (some ⟨Bl, 0, none⟩)) ∧ w'.cell? ⟨N0, 0, none⟩ = some (.int .i64 k))
              (first
                | exact hS8
                | exact ⟨(hS3.at dA r3 r4).cell 0 rfl, (hS3.at dA r3 r4).cell 1 rfl, (hS3.at dA r3 r4).cell 2 rfl, (hS3.at dA r3 r4).cell 3 rfl, (hS3.at dA r3 r4).cell 4 rfl, (hS3.at dA r3 r4).cell 5 rfl, (hS3.at dA r3 r4).cell 6 rfl, (hS3.at dN2 r1 r2).cell 0 rfl⟩ | exact hS8)
              (first
                | (go_at_call 29; refine (cR _ _).mono ?_; rintro e ws0 ⟨nn, hnn, rfl, rfl⟩)
                | (go_at_call 43; refine (next_step k no l h f b nn ok (by omega) Bl base (i + 100) (by omega) w0 _ hb0 (by omega) hS2).mono ?_; rintro e ws ⟨is, rfl, hS3⟩))
            all_goals
              go_wp2_with fail
              go_roundw
              case rel => exact ⟨i + 1, by omega, by go_num, hS3.up (by omega)⟩
              case measure => simp [intOf]; omega
          · have hlt1 : decide ((i : Int) < 7) = false := by simp; omega
            have hS := hS.up (d := 200) (by omega)
            obtain ⟨k1, hf, hk1, hf0, hf1, hf2⟩ := half_num hk
            obtain ⟨hf3, hf4⟩ : ∃ x, x = hf - 1 := ⟨_, rfl⟩
            have HF4 := Lib.hid hf4
            have HK1 := Lib.hid hk1
            have HT1 := Lib.hid hT1
            have dBx := hS.at dN2 r1 r2
            have z0 : wr.cell? ⟨N0, 0, none⟩ = some (.int .i64 k) := dBx.cell 0 rfl
            have ek1 : IntKind.i64.wrap ((k : Int) - 1) = (k1 : Int) := by have := hk.le; rw [IntKind.wrap_i64]; omega
            have HP := Lib.hid hP
            have HT2 := Lib.hid hT2
            clear dBx hf4 hk1 hT1 hP hT2 e12 e13
            go_upto_region 15 with (fail)
            rw [hf2]
            clear z0 ek1 hf2
            have dAd := hS.at dA r3 r4
            have dBx := hS.at dN2 r1 r2
            have y0 : wr.cell? ⟨Ba, 0, none⟩ = some (.int .i64 k) := dAd.cell 0 rfl
            have y1 : wr.cell? ⟨Ba, 1, none⟩ = some (.bool no) := dAd.cell 1 rfl
            have y2 : wr.cell? ⟨Ba, 2, none⟩ = some (.int .i64 l) := dAd.cell 2 rfl
            have y3 : wr.cell? ⟨Ba, 3, none⟩ = some (.int .i64 h) := dAd.cell 3 rfl
            have y4 : wr.cell? ⟨Ba, 4, none⟩ = some (.int .i64 f) := dAd.cell 4 rfl
            have y5 : wr.cell? ⟨Ba, 5, none⟩ = some (.int .i64 b) := dAd.cell 5 rfl
            have y6 : wr.cell? ⟨Ba, 6, none⟩ = some (.pointer (some ⟨Bl, 0, none⟩)) := dAd.cell 6 rfl
            have cX := next_step k no l h f b hf ok (by omega) Bl base 200 (by omega) w0 wr hb0 (by omega) hS
            clear hS dAd dBx
            go_wp2_with fail
            refine cX.mono ?_
            rintro e wx1 ⟨is, rfl, hS⟩
            clear cX y0 y1 y2 y3 y4 y5 y6
            go_upto_region 16 with (fail)
            go_cut [] from 68 to 73 (fun wx => SomeSt (MemV k no l h f b) Bl base w0 wx 202)
            case first =>
              have hS2 := hS.below hb0 ((Below.refl wx1.heap.size wx1).drew)
              have dAd := hS2.at dA r3 r4
              have dBx := hS2.at dN2 r1 r2
              have hS8 : wx1.drew.cell? ⟨Ba, 0, none⟩ = some (.int .i64 k) ∧ wx1.drew.cell? ⟨Ba, 1, none⟩ = some (.bool no) ∧ wx1.drew.cell? ⟨Ba, 2, none⟩ = some (.int .i64 l) ∧ wx1.drew.cell? ⟨Ba, 3, none⟩ = some (.int .i64 h) ∧ wx1.drew.cell? ⟨Ba, 4, none⟩ = some (.int .i64 f) ∧ wx1.drew.cell? ⟨Ba, 5, none⟩ = some (.int .i64 b) ∧ wx1.drew.cell? ⟨Ba, 6, none⟩ = some (.pointer (some ⟨Bl, 0, none⟩)) ∧ wx1.drew.cell? ⟨N0, 0, none⟩ = some (.int .i64 k) := ⟨dAd.cell 0 rfl, dAd.cell 1 rfl, dAd.cell 2 rfl, dAd.cell 3 rfl, dAd.cell 4 rfl, dAd.cell 5 rfl, dAd.cell 6 rfl, dBx.cell 0 rfl⟩
              clear hS dAd dBx
              go_region_held3 (fun w' => w'.cell? ⟨Ba, 0, none⟩ = some (.int .i64 k) ∧ w'.cell? ⟨Ba, 1, none⟩ = some (.bool no) ∧ w'.cell? ⟨Ba, 2, none⟩ = some (.int .i64 l) ∧ w'.cell? ⟨Ba, 3, none⟩ = some (.int .i64 h) ∧ w'.cell? ⟨Ba, 4, none⟩ = some (.int .i64 f) ∧ w'.cell? ⟨Ba, 5, none⟩ = some (.int .i64 b) ∧ w'.cell? ⟨Ba, 6, none⟩ = some (.pointer (some ⟨Bl, 0, none⟩)) ∧ w'.cell? ⟨N0, 0, none⟩ = some (.int .i64 k))
                (first
                  | exact hS8
                  | exact ⟨(hS3.at dA r3 r4).cell 0 rfl, (hS3.at dA r3 r4).cell 1 rfl, (hS3.at dA r3 r4).cell 2 rfl, (hS3.at dA r3 r4).cell 3 rfl, (hS3.at dA r3 r4).cell 4 rfl, (hS3.at dA r3 r4).cell 5 rfl, (hS3.at dA r3 r4).cell 6 rfl, (hS3.at dN2 r1 r2).cell 0 rfl⟩ | exact hS8)
                ((go_at_call 43; rw [HT3.out]; refine (next_step k no l h f b TT ok (by have := HT1.out; omega) Bl base 201 (by omega) w0 _ hb0 (by omega) hS2).mono ?_; rintro e ws ⟨is, rfl, hS3⟩))
              all_goals
                go_wp2_with fail
                go_meet
                exact hS3
            case rest =>
            clear hS
            have hS := hcut
            clear hcut HT1 HK1 HT2 HP
            generalize wc = wx2 at *
            have dAd := hS.at dA r3 r4
            have dBx := hS.at dN2 r1 r2
            have y0 : wx2.cell? ⟨Ba, 0, none⟩ = some (.int .i64 k) := dAd.cell 0 rfl
            have y1 : wx2.cell? ⟨Ba, 1, none⟩ = some (.bool no) := dAd.cell 1 rfl
            have y2 : wx2.cell? ⟨Ba, 2, none⟩ = some (.int .i64 l) := dAd.cell 2 rfl
            have y3 : wx2.cell? ⟨Ba, 3, none⟩ = some (.int .i64 h) := dAd.cell 3 rfl
            have y4 : wx2.cell? ⟨Ba, 4, none⟩ = some (.int .i64 f) := dAd.cell 4 rfl
            have y5 : wx2.cell? ⟨Ba, 5, none⟩ = some (.int .i64 b) := dAd.cell 5 rfl
            have y6 : wx2.cell? ⟨Ba, 6, none⟩ = some (.pointer (some ⟨Bl, 0, none⟩)) := dAd.cell 6 rfl
            have z2 : wx2.cell? ⟨N0, 2, none⟩ = some (.int .i64 l) := dBx.cell 2 rfl
            have cX := next_step k no l h f b l ok (by omega) Bl base 202 (by omega) w0 wx2 hb0 (by omega) hS
            clear hS dAd dBx
            go_wp2_with fail
            refine cX.mono ?_
            rintro e wx3 ⟨is, rfl, hS⟩
            clear cX y0 y1 y2 y3 y4 y5 y6
            clear z2
            have dBx := hS.at dN2 r1 r2
            have z0 : wx3.cell? ⟨N0, 0, none⟩ = some (.int .i64 k) := dBx.cell 0 rfl
            have z1 : wx3.cell? ⟨N0, 1, none⟩ = some (.bool no) := dBx.cell 1 rfl
            have z2 : wx3.cell? ⟨N0, 2, none⟩ = some (.int .i64 l) := dBx.cell 2 rfl
            have z3 : wx3.cell? ⟨N0, 3, none⟩ = some (.int .i64 h) := dBx.cell 3 rfl
            have z4 : wx3.cell? ⟨N0, 4, none⟩ = some (.int .i64 f) := dBx.cell 4 rfl
            have z5 : wx3.cell? ⟨N0, 5, none⟩ = some (.int .i64 b) := dBx.cell 5 rfl
            have cX := rHas_e k no l h f b h ok (hh) wx3
            clear dBx
            go_wp2_with fail
            refine cX.mono ?_
            rintro e wx4 ⟨is, rfl, hbh⟩
            replace hS := hS.below hb0 hbh
            clear cX hbh z0 z1 z2 z3 z4 z5
            go_upto_if 81 with (fail)
            go_cut [] from 82 to 85 (fun wx => SomeSt (MemV k no l h f b) Bl base w0 wx 204)
            case first =>
              cases is
              · go_wp2_with fail
                go_meet
                exact hS.up (by omega)
              · skip
                have dAd := hS.at dA r3 r4
                have dBx := hS.at dN2 r1 r2
                have y0 : wx4.cell? ⟨Ba, 0, none⟩ = some (.int .i64 k) := dAd.cell 0 rfl
                have y1 : wx4.cell? ⟨Ba, 1, none⟩ = some (.bool no) := dAd.cell 1 rfl
                have y2 : wx4.cell? ⟨Ba, 2, none⟩ = some (.int .i64 l) := dAd.cell 2 rfl
                have y3 : wx4.cell? ⟨Ba, 3, none⟩ = some (.int .i64 h) := dAd.cell 3 rfl
                have y4 : wx4.cell? ⟨Ba, 4, none⟩ = some (.int .i64 f) := dAd.cell 4 rfl
                have y5 : wx4.cell? ⟨Ba, 5, none⟩ = some (.int .i64 b) := dAd.cell 5 rfl
                have y6 : wx4.cell? ⟨Ba, 6, none⟩ = some (.pointer (some ⟨Bl, 0, none⟩)) := dAd.cell 6 rfl
                have z3 : wx4.cell? ⟨N0, 3, none⟩ = some (.int .i64 h) := dBx.cell 3 rfl
                have cX := next_step k no l h f b h ok (by omega) Bl base 203 (by omega) w0 wx4 hb0 (by omega) hS
                clear hS dAd dBx
                go_wp2_with fail
                refine cX.mono ?_
                rintro e wx4b ⟨is, rfl, hS⟩
                clear cX y0 y1 y2 y3 y4 y5 y6
                go_wp2_with fail
                go_meet
                exact hS
            case rest =>
            clear hS
            have hS := hcut
            clear hcut
            generalize wc = wx5 at *
            have iw : IntKind.i64.wrap ((hf : Int) - 1) = (hf3 : Int) := by have := HF4.out; rw [IntKind.wrap_i64]; omega
            have hf5 : hf3 < 2 ^ k := by have := HF4.out; omega
            have iw2 : (hf : Int) - 1 = (hf3 : Int) := by have := HF4.out; omega
            have IW := Lib.hid iw2
            clear iw2
            clear HF4
            have dBx := hS.at dN2 r1 r2
            have z0 : wx5.cell? ⟨N0, 0, none⟩ = some (.int .i64 k) := dBx.cell 0 rfl
            have z1 : wx5.cell? ⟨N0, 1, none⟩ = some (.bool no) := dBx.cell 1 rfl
            have z2 : wx5.cell? ⟨N0, 2, none⟩ = some (.int .i64 l) := dBx.cell 2 rfl
            have z3 : wx5.cell? ⟨N0, 3, none⟩ = some (.int .i64 h) := dBx.cell 3 rfl
            have z4 : wx5.cell? ⟨N0, 4, none⟩ = some (.int .i64 f) := dBx.cell 4 rfl
            have z5 : wx5.cell? ⟨N0, 5, none⟩ = some (.int .i64 b) := dBx.cell 5 rfl
            have cX := rHas_e k no l h f b hf3 ok (hf5) wx5
            clear dBx
            go_wp2_with fail
            refine cX.mono ?_
            rintro e wx6 ⟨is, rfl, hbh⟩
            replace hS := hS.below hb0 hbh
            clear cX hbh z0 z1 z2 z3 z4 z5
            go_upto_if 89 with (fail)
            go_cut [] from 90 to 93 (fun wx => SomeSt (MemV k no l h f b) Bl base w0 wx 205)
            case first =>
              cases is
              · go_wp2_with fail
                go_meet
                exact hS.up (by omega)
              · skip
                have dAd := hS.at dA r3 r4
                have dBx := hS.at dN2 r1 r2
                have y0 : wx6.cell? ⟨Ba, 0, none⟩ = some (.int .i64 k) := dAd.cell 0 rfl
                have y1 : wx6.cell? ⟨Ba, 1, none⟩ = some (.bool no) := dAd.cell 1 rfl
                have y2 : wx6.cell? ⟨Ba, 2, none⟩ = some (.int .i64 l) := dAd.cell 2 rfl
                have y3 : wx6.cell? ⟨Ba, 3, none⟩ = some (.int .i64 h) := dAd.cell 3 rfl
                have y4 : wx6.cell? ⟨Ba, 4, none⟩ = some (.int .i64 f) := dAd.cell 4 rfl
                have y5 : wx6.cell? ⟨Ba, 5, none⟩ = some (.int .i64 b) := dAd.cell 5 rfl
                have y6 : wx6.cell? ⟨Ba, 6, none⟩ = some (.pointer (some ⟨Bl, 0, none⟩)) := dAd.cell 6 rfl
                have cX := next_step k no l h f b hf3 ok (by omega) Bl base 204 (by omega) w0 wx6 hb0 (by omega) hS
                clear hS dAd dBx
                go_wp2_with fail
                refine cX.mono ?_
                rintro e wx7 ⟨is, rfl, hS⟩
                clear cX y0 y1 y2 y3 y4 y5 y6
                go_wp2_with fail
                go_meet
                exact hS
            case rest =>
            obtain ⟨p, nl, cap, hc, fin⟩ := hcut.some (by omega) hbA lw lw2
            clear hS hcut
            go_wp2_with fail
            go_ret
            exact fin
end Go.Proofs.YtblahbmhbfcggaaGreatDoor

/- Frames of many slots as a row in a variable; loops and regions taken out of the translation. -/
namespace Go.Proofs.YtblahbmhbfcggaaGreatDoor
open Go.ChangeShapes Go.WideShapes Go.ChangeAt Go.RowKit Go.Joins Go.Deep
set_option linter.unusedVariables false

/-- a slot of a frame -/
def sl (t : Array Value) (n : Nat) : Value := t.getD n undef
theorem frame_list (t : Array Value) (n : Nat) (h : t.size = n) : t = ((List.range n).map (sl t)).toArray := by
  apply Array.ext
  · simp [h]
  · intro i h1 h2
    simp [sl, h1]
def firstLoop : Code → Option Code
  | .loop c => some c
  | .seq a b => match firstLoop a with
    | some c => some c
    | none => firstLoop b
  | .block _ c => firstLoop c
  | .scope c => firstLoop c
  | .cond _ a b => match firstLoop a with
    | some c => some c
    | none => firstLoop b
  | _ => none
def findReg (n : Nat) : Code → Option Code
  | .region i ops d => if i = n then some (.region i ops d) else none
  | .loop c => findReg n c
  | .seq a b => match findReg n a with
    | some c => some c
    | none => findReg n b
  | .block _ c => findReg n c
  | .scope c => findReg n c
  | .cond _ a b => match findReg n a with
    | some c => some c
    | none => findReg n b
  | _ => none
theorem noPanic_mono {P : Program} {c : Code} {Q : Exit → Act → World → Prop} {a : Act} {w : World} (h : c.wp P (NoPanic Q) a w) : c.wp P Q a w := Code.wp_mono NoPanic.imp h
end Go.Proofs.YtblahbmhbfcggaaGreatDoor

/- The walk over two sets of all kinds: frames, loops' bodies. -/
namespace Go.Proofs.YtblahbmhbfcggaaGreatDoor
open Go.ChangeShapes Go.WideShapes Go.ChangeAt Go.RowKit Go.Joins Go.Deep
set_option linter.unusedVariables false

theorem open_191 (t : Array Value) (h : t.size = 191) : t = #[sl t 0, sl t 1, sl t 2, sl t 3, sl t 4, sl t 5, sl t 6, sl t 7, sl t 8, sl t 9, sl t 10, sl t 11, sl t 12, sl t 13, sl t 14, sl t 15, sl t 16, sl t 17, sl t 18, sl t 19, sl t 20, sl t 21, sl t 22, sl t 23, sl t 24, sl t 25, sl t 26, sl t 27, sl t 28, sl t 29, sl t 30, sl t 31, sl t 32, sl t 33, sl t 34, sl t 35, sl t 36, sl t 37, sl t 38, sl t 39, sl t 40, sl t 41, sl t 42, sl t 43, sl t 44, sl t 45, sl t 46, sl t 47, sl t 48, sl t 49, sl t 50, sl t 51, sl t 52, sl t 53, sl t 54, sl t 55, sl t 56, sl t 57, sl t 58, sl t 59, sl t 60, sl t 61, sl t 62, sl t 63, sl t 64, sl t 65, sl t 66, sl t 67, sl t 68, sl t 69, sl t 70, sl t 71, sl t 72, sl t 73, sl t 74, sl t 75, sl t 76, sl t 77, sl t 78, sl t 79, sl t 80, sl t 81, sl t 82, sl t 83, sl t 84, sl t 85, sl t 86, sl t 87, sl t 88, sl t 89, sl t 90, sl t 91, sl t 92, sl t 93, sl t 94, sl t 95, sl t 96, sl t 97, sl t 98, sl t 99, sl t 100, sl t 101, sl t 102, sl t 103, sl t 104, sl t 105, sl t 106, sl t 107, sl t 108, sl t 109, sl t 110, sl t 111, sl t 112, sl t 113, sl t 114, sl t 115, sl t 116, sl t 117, sl t 118, sl t 119, sl t 120, sl t 121, sl t 122, sl t 123, sl t 124, sl t 125, sl t 126, sl t 127, sl t 128, sl t 129, sl t 130, sl t 131, sl t 132, sl t 133, sl t 134, sl t 135, sl t 136, sl t 137, sl t 138, sl t 139, sl t 140, sl t 141, sl t 142, sl t 143, sl t 144, sl t 145, sl t 146, sl t 147, sl t 148, sl t 149, sl t 150, sl t 151, sl t 152, sl t 153, sl t 154, sl t 155, sl t 156, sl t 157, sl t 158, sl t 159, sl t 160, sl t 161, sl t 162, sl t 163, sl t 164, sl t 165, sl t 166, sl t 167, sl t 168, sl t 169, sl t 170, sl t 171, sl t 172, sl t 173, sl t 174, sl t 175, sl t 176, sl t 177, sl t 178, sl t 179, sl t 180, sl t 181, sl t 182, sl t 183, sl t 184, sl t 185, sl t 186, sl t 187, sl t 188, sl t 189, sl t 190] := (frame_list t 191 h).trans (by kernel_rfl)
noncomputable def bodyA : Code := (Tryz.f6.body.bind firstLoop).getD .skip
noncomputable def bodyB : Code := (firstLoop bodyA).getD .skip
noncomputable def bodyC : Code := (firstLoop bodyB).getD .skip
noncomputable def bodyD : Code := (firstLoop bodyC).getD .skip
noncomputable def bodyE : Code := (firstLoop bodyD).getD .skip
/-- the frame where loops 4 and 5 stand -/
def FrD (t : Array Value) (op : Int) (BP k i j BA BB BT : Nat) (sv sx sy : Value) : Prop := t.size = 191 ∧ sl t 1 = .int .i64 op ∧ sl t 2 = .pointer (some ⟨BP, 0, none⟩) ∧ sl t 5 = .int .i64 (k : Nat) ∧ sl t 6 = sv ∧ sl t 7 = .int .i64 (i : Nat) ∧ sl t 8 = .int .i64 (j : Nat) ∧ sl t 9 = .pointer (some ⟨BA, 0, none⟩) ∧ sl t 10 = .pointer (some ⟨BB, 0, none⟩) ∧ sl t 11 = .pointer (some ⟨BT, 0, none⟩) ∧ sl t 12 = .slice none 0 0 ∧ sl t 15 = sx ∧ sl t 16 = sy
/-- two rows of members, and what is told of them -/
structure PairS (op : Int) (k K : Nat) (A B M : Nat → Prop) (WA : Nat) (tno : Bool) (tl th tf tb : Nat) (BT : Nat) (px : Option Addr) (zx : List Nat) (py : Option Addr) (zy : List Nat) (w : World) : Prop where
  ho : 8 ≤ op ∧ op ≤ 19
  hk : 1 ≤ (k : Int) ∧ (k : Int) ≤ 6
  hK : Al.widthI k = K
  hA : ∀ z, A z → z < 2 ^ K
  hB : ∀ z, B z → z < 2 ^ K
  okT : ValOk WA tno tl th tf tb
  good : TwoGood op k WA A B (MemV WA tno tl th tf tb)
  dT : At w BT #[.int .i64 WA, .bool tno, .int .i64 tl, .int .i64 th, .int .i64 tf, .int .i64 tb] 30
  ix : HasInts w px zx
  mx : ∀ z ∈ zx, A z
  iy : HasInts w py zy
  my : ∀ z ∈ zy, B z
theorem HasInts.below {w w' : World} {p : Option Addr} {zs : List Nat} (h : HasInts w p zs) (hb : Below w.heap.size w w') : HasInts w' p zs := by
  rcases h with h | ⟨g, hp, hc⟩
  · exact Or.inl h
  · exact Or.inr ⟨g, hp, fun i hi => cell_below (hc i hi) hb⟩
theorem PairS.below {op : Int} {k K : Nat} {A B M : Nat → Prop} {WA : Nat} {tno : Bool} {tl th tf tb BT : Nat} {px : Option Addr} {zx : List Nat} {py : Option Addr} {zy : List Nat} {w w' : World} (h : PairS op k K A B M WA tno tl th tf tb BT px zx py zy w) (hb : Below w.heap.size w w') : PairS op k K A B M WA tno tl th tf tb BT px zx py zy w' :=
  { h with dT := At.below' hb h.dT, ix := h.ix.below hb, iy := h.iy.below hb }
/-- one of each -/
theorem PairS.two {op : Int} {k K : Nat} {A B M : Nat → Prop} {WA : Nat} {tno : Bool} {tl th tf tb BT : Nat} {px : Option Addr} {zx : List Nat} {py : Option Addr} {zy : List Nat} {w : World} (h : PairS op k K A B M WA tno tl th tf tb BT px zx py zy w) (s q : Nat) (hs : s < zx.length) (hq : q < zy.length) :
    ∃ g g2 x y n : Nat, px = some ⟨g, 0, none⟩ ∧ py = some ⟨g2, 0, none⟩ ∧ w.cell? ⟨g, s, none⟩ = some (.int .i64 x) ∧ w.cell? ⟨g2, q, none⟩ = some (.int .i64 y) ∧ A x ∧ B y ∧ n < 2 ^ WA ∧ MemV WA tno tl th tf tb n ∧ ((∀ z, A z ↔ z = x) → (∀ z, B z ↔ z = y) → ∀ z, MemV WA tno tl th tf tb z ↔ z = n) ∧
      (∀ w, Calls Tryz.prog 18 #[.int .i64 op, .int .i64 k, .int .i64 x, .int .i64 y] w (Al.TwoPost n 0 w)) := by
  obtain ⟨g, hg, hc⟩ := h.ix.resolve_left (by omega)
  obtain ⟨g2, hg2, hc2⟩ := h.iy.resolve_left (by omega)
  have ax := h.mx _ (List.getElem_mem hs)
  have by_ := h.my _ (List.getElem_mem hq)
  obtain ⟨n, n1, n2, n3, n4⟩ := h.good.2 _ _ ax by_
  refine ⟨g, g2, zx[s], zy[q], n, hg, hg2, hc s hs, hc2 q hq, ax, by_, n2, n3, n4, fun w => ?_⟩
  have ix : Al.isN ((zx[s] : Nat) : Int) (Al.widthI k) := by rw [h.hK]; exact isN_nat (h.hA _ ax)
  have iy : Al.isN ((zy[q] : Nat) : Int) (Al.widthI k) := by rw [h.hK]; exact isN_nat (h.hB _ by_)
  have hh := Al.rTwo_any op k (zx[s] : Nat) (zy[q] : Nat) h.ho h.hk ix iy w
  rw [n1] at hh
  exact hh
/-- the frame where loop 5 stands -/
def RelE (op : Int) (BP k i j BA BB BT : Nat) (sv sx sy : Value) (s my : Nat) (w1 : World) (n : Nat) (a : Act) (wr : World) : Prop := ∃ t q z, a = ⟨t, []⟩ ∧ FrD t op BP k i j BA BB BT sv sx sy ∧ sl t 17 = .int .i64 (s : Nat) ∧ sl t 18 = .int .i64 z ∧ z = (q : Nat) ∧ q + n = my ∧ Below w1.heap.size w1 wr
def RelD (op : Int) (BP k i j BA BB BT : Nat) (sv sx sy : Value) (mx : Nat) (w1 : World) (n : Nat) (a : Act) (wr : World) : Prop := ∃ t s z, a = ⟨t, []⟩ ∧ FrD t op BP k i j BA BB BT sv sx sy ∧ sl t 17 = .int .i64 z ∧ z = (s : Nat) ∧ s + n = mx ∧ Below w1.heap.size w1 wr
end Go.Proofs.YtblahbmhbfcggaaGreatDoor

/- The walk over two sets of all kinds: its two innermost loops. -/
namespace Go.Proofs.YtblahbmhbfcggaaGreatDoor
open Go.ChangeShapes Go.WideShapes Go.ChangeAt Go.RowKit Go.Joins Go.Deep
set_option linter.unusedVariables false

set_option maxRecDepth 1000000 in
set_option maxHeartbeats 6400000 in
theorem loopE (op : Int) (BP k i j BA BB BT : Nat) (sv : Value) (K : Nat) (A B M : Nat → Prop) (WA : Nat) (tno : Bool) (tl th tf tb : Nat) (px : Option Addr) (zx : List Nat) (py : Option Addr) (zy : List Nat) (mx my : Nat) (hmx : mx = zx.length) (hmy : my = zy.length) (hx : mx ≤ 1000) (hy : my ≤ 1000) (cx cy : Nat) (s : Nat) (hs : s < mx) (w1 : World)
    (hP : PairS op k K A B M WA tno tl th tf tb BT px zx py zy w1)
    (t : Array Value) (hF : FrD t op BP k i j BA BB BT sv (.slice px mx cx) (.slice py my cy)) (f17 : sl t 17 = .int .i64 (s : Nat)) (f18 : sl t 18 = .int .i64 0) (Q : Exit → Act → World → Prop)
    (hQ : ∀ t w', FrD t op BP k i j BA BB BT sv (.slice px mx cx) (.slice py my cy) → sl t 17 = .int .i64 (s : Nat) → Below w1.heap.size w1 w' → Q (.exit 8) ⟨t, []⟩ w') :
    (Code.loop bodyE).wp Tryz.prog (NoPanic Q) ⟨t, []⟩ w1 := by
  refine wp_loop_ghost_k (RelE op BP k i j BA BB BT sv (.slice px mx cx) (.slice py my cy) s my w1) my ⟨t, 0, 0, rfl, hF, f17, f18, rfl, by omega, Below.refl _ _⟩ ?_
  have HMX := Lib.hid hmx
  have HMY := Lib.hid hmy
  clear hF f17 f18 hmx hmy
  intro n a wr hR iK iJv hJ hK
  clear t
  obtain ⟨t, q, z, rfl, ⟨f0, f1, f2, f5, f6, f7, f8, f9, f10, f11, f12, f15, f16⟩, f17, f18, rfl, hqn, hbj⟩ := hR
  rw [open_191 t f0]
  simp only [f1, f2, f5, f6, f7, f8, f9, f10, f11, f12, f15, f16, f17, f18]
  clear f0 f1 f2 f5 f6 f7 f8 f9 f10 f11 f12 f15 f16 f17 f18
  conv => arg 2; whnf
  by_cases hlt : q < my
  · have hlt1 : (q : Int) < (my : Int) := by omega
    have hs1 : (s : Int) < (mx : Int) := by omega
    have s0 : (0 : Int) ≤ (s : Int) := by omega
    have q0 : (0 : Int) ≤ (q : Int) := by omega
    have hPr := hP.below hbj
    obtain ⟨g, g2, x, y, m, rfl, rfl, cx0, cy0, ax, by_, m2, m3, _, cTwo⟩ := hPr.two s q (by have := HMX.out; omega) (by have := HMY.out; omega)
    have dT2 := hPr.dT
    have cHo := fun w => holds_ok WA tno tl th tf tb hPr.okT m m2 m3 w
    clear hPr hP ax by_ m2 m3 hQ
    go_upto_region 33 with (fail)
    go_quiet ((go_at_call 18; exact Calls.quiet_of (cTwo _)))
    have dT3 := At.drewN dT2 nq
    have hb9 := hbj.trans ((Joins.below_draws wr.heap.size wr nq).mono hbj.size)
    clear dT2 hbj cx0 cy0 cTwo
    generalize wr.drewN nq = w9 at *
    have t0 : w9.cell? ⟨BT, 0, none⟩ = some (.int .i64 WA) := dT3.cell 0 rfl
    have t1 : w9.cell? ⟨BT, 1, none⟩ = some (.bool tno) := dT3.cell 1 rfl
    have t2 : w9.cell? ⟨BT, 2, none⟩ = some (.int .i64 tl) := dT3.cell 2 rfl
    have t3 : w9.cell? ⟨BT, 3, none⟩ = some (.int .i64 th) := dT3.cell 3 rfl
    have t4 : w9.cell? ⟨BT, 4, none⟩ = some (.int .i64 tf) := dT3.cell 4 rfl
    have t5 : w9.cell? ⟨BT, 5, none⟩ = some (.int .i64 tb) := dT3.cell 5 rfl
    go_wp2_with fail
    refine (cHo _).mono ?_
    rintro e wA ⟨rfl, hbA⟩
    have hbJ := hb9.trans (hbA.mono hb9.size)
    clear hb9 hbA dT3 t0 t1 t2 t3 t4 t5 cHo
    go_wp2_with fail
    refine Handed.intro (n - 1) (by omega) (hJ _ _ _ ⟨_, q + 1, _, rfl, ⟨rfl, rfl, rfl, rfl, rfl, rfl, rfl, rfl, rfl, rfl, rfl, rfl, rfl⟩, rfl, rfl, by omega, by omega, hbJ⟩)
  · have hlt1 : decide ((q : Int) < (my : Int)) = false := by simp; omega
    clear hJ
    go_wp2_with fail
    exact hQ _ _ ⟨rfl, rfl, rfl, rfl, rfl, rfl, rfl, rfl, rfl, rfl, rfl, rfl, rfl⟩ rfl hbj
set_option maxRecDepth 1000000 in
set_option maxHeartbeats 6400000 in
theorem loopD (op : Int) (BP k i j BA BB BT : Nat) (sv : Value) (K : Nat) (A B M : Nat → Prop) (WA : Nat) (tno : Bool) (tl th tf tb : Nat) (px : Option Addr) (zx : List Nat) (py : Option Addr) (zy : List Nat) (mx my : Nat) (hmx : mx = zx.length) (hmy : my = zy.length) (hx : mx ≤ 1000) (hy : my ≤ 1000) (cx cy : Nat) (w1 : World)
    (hP : PairS op k K A B M WA tno tl th tf tb BT px zx py zy w1)
    (t : Array Value) (hF : FrD t op BP k i j BA BB BT sv (.slice px mx cx) (.slice py my cy)) (f17 : sl t 17 = .int .i64 0) (Q : Exit → Act → World → Prop)
    (hQ : ∀ t w', FrD t op BP k i j BA BB BT sv (.slice px mx cx) (.slice py my cy) → Below w1.heap.size w1 w' → Q (.exit 6) ⟨t, []⟩ w') :
    (Code.loop bodyD).wp Tryz.prog (NoPanic Q) ⟨t, []⟩ w1 := by
  refine wp_loop_ghost_k (RelD op BP k i j BA BB BT sv (.slice px mx cx) (.slice py my cy) mx w1) mx ⟨t, 0, 0, rfl, hF, f17, rfl, by omega, Below.refl _ _⟩ ?_
  have HMX := Lib.hid hmx
  have HMY := Lib.hid hmy
  clear hF f17 hmx hmy
  intro n a wr hR iK iJv hJ hK
  clear t
  obtain ⟨t, s, z, rfl, ⟨f0, f1, f2, f5, f6, f7, f8, f9, f10, f11, f12, f15, f16⟩, f17, rfl, hsn, hbj⟩ := hR
  rw [open_191 t f0]
  simp only [f1, f2, f5, f6, f7, f8, f9, f10, f11, f12, f15, f16, f17]
  clear f0 f1 f2 f5 f6 f7 f8 f9 f10 f11 f12 f15 f16 f17
  conv => arg 2; whnf
  by_cases hlt : s < mx
  · have hlt1 : (s : Int) < (mx : Int) := by omega
    have hPr := hP.below hbj
    clear hQ
    go_wp2_with fail
    refine noPanic_mono (loopE op BP k i j BA BB BT sv K A B M WA tno tl th tf tb px zx py zy mx my HMX.out HMY.out hx hy cx cy s hlt wr hPr _ ⟨rfl, rfl, rfl, rfl, rfl, rfl, rfl, rfl, rfl, rfl, rfl, rfl, rfl⟩ rfl rfl _ ?_)
    clear hP hPr
    intro t2 w2 hF g17 hb2
    obtain ⟨f0, f1, f2, f5, f6, f7, f8, f9, f10, f11, f12, f15, f16⟩ := hF
    rw [open_191 t2 f0]
    simp only [f1, f2, f5, f6, f7, f8, f9, f10, f11, f12, f15, f16, g17]
    clear f0 f1 f2 f5 f6 f7 f8 f9 f10 f11 f12 f15 f16 g17
    have hbJ := hbj.trans (hb2.mono hbj.size)
    clear hb2 hbj
    go_wp2_with fail
    refine Handed.intro (n - 1) (by omega) (hJ _ _ _ ⟨_, s + 1, _, rfl, ⟨rfl, rfl, rfl, rfl, rfl, rfl, rfl, rfl, rfl, rfl, rfl, rfl, rfl⟩, rfl, by omega, by omega, hbJ⟩)
  · have hlt1 : decide ((s : Int) < (mx : Int)) = false := by simp; omega
    clear hJ
    go_wp2_with fail
    exact hQ _ _ ⟨rfl, rfl, rfl, rfl, rfl, rfl, rfl, rfl, rfl, rfl, rfl, rfl, rfl⟩ hbj
end Go.Proofs.YtblahbmhbfcggaaGreatDoor

/- The walk over two sets of all kinds: a round of its third loop. -/
namespace Go.Proofs.YtblahbmhbfcggaaGreatDoor
open Go.ChangeShapes Go.WideShapes Go.ChangeAt Go.RowKit Go.Joins Go.Deep
set_option linter.unusedVariables false

/-- the frame where loop 3 stands -/
def FrC (t : Array Value) (op : Int) (BP k i : Nat) (sv : Value) : Prop := t.size = 191 ∧ sl t 1 = .int .i64 op ∧ sl t 2 = .pointer (some ⟨BP, 0, none⟩) ∧ sl t 5 = .int .i64 (k : Nat) ∧ sl t 6 = sv ∧ sl t 7 = .int .i64 (i : Nat)
def RelC (op : Int) (BP k i : Nat) (sv : Value) (len : Nat) (w1 : World) (n : Nat) (a : Act) (wr : World) : Prop := ∃ t j z, a = ⟨t, []⟩ ∧ FrC t op BP k i sv ∧ sl t 8 = .int .i64 z ∧ z = (j : Nat) ∧ j + n = len ∧ Below w1.heap.size w1 wr
theorem wrap_sum (i j : Nat) (hi : i < 20) (hj : j < 20) : IntKind.i64.wrap ((i : Int) + (j : Int)) = (i : Int) + (j : Int) := by
  simp [IntKind.wrap, IntKind.bits, IntKind.signed]; omega
set_option maxRecDepth 1000000 in
set_option maxHeartbeats 6400000 in
theorem loopC (op : Int) (ho : 8 ≤ op ∧ op ≤ 19) (H : TwoH op) (BP k i len cap : Nat) (p : Option Addr) (vs2 : List VI) (w2 : World) (hI : IsVals w2 p len vs2) (hil : i < len) (hlen : len ≤ 20)
    (t : Array Value) (hF : FrC t op BP k i (.slice p len cap)) (f8 : sl t 8 = .int .i64 0) (Q : Exit → Act → World → Prop)
    (hQ : ∀ t w', FrC t op BP k i (.slice p len cap) → Below w2.heap.size w2 w' → Q (.exit 4) ⟨t, []⟩ w') :
    (Code.loop bodyC).wp Tryz.prog (NoPanic Q) ⟨t, []⟩ w2 := by
  have HH := Lib.hid H
  refine wp_loop_ghost_k (RelC op BP k i (.slice p len cap) len w2) len ⟨t, 0, 0, rfl, hF, f8, rfl, by omega, Below.refl _ _⟩ ?_
  clear hF f8 H
  intro n a wr hR iK iJv hJ hK
  clear t
  obtain ⟨t, j, z, rfl, ⟨f0, f1, f2, f5, f6, f7⟩, f8, rfl, hjn, hbj⟩ := hR
  rw [open_191 t f0]
  simp only [f1, f2, f5, f6, f7, f8]
  clear f0 f1 f2 f5 f6 f7 f8
  conv => arg 2; whnf
  by_cases hlt : j < len
  · have hlt1 : (j : Int) < (len : Int) := by omega
    have hil3 : (i : Int) < (len : Int) := by omega
    have i0 : (0 : Int) ≤ (i : Int) := by omega
    have j0 : (0 : Int) ≤ (j : Int) := by omega
    obtain ⟨bb, off, ⟨uk, uno, ul, uh, uf, ub⟩, rfl, hcu⟩ := (hI.below hbj).at hil
    obtain ⟨bb', off', ⟨vk, vno, vl, vh, vf, vb⟩, hpe, hcv⟩ := (hI.below hbj).at hlt
    obtain ⟨rfl, rfl⟩ : bb' = bb ∧ off' = off := by simp at hpe; exact ⟨hpe.1.symm, hpe.2.symm⟩
    clear hpe hI hQ
    go_upto_region 13 with (fail)
    go_cut [9, 10] from 48 to 55 (fun v9 v10 wx => ∃ BA BB, v9 = .pointer (some ⟨BA, 0, none⟩) ∧ v10 = .pointer (some ⟨BB, 0, none⟩) ∧ At wx BA #[.int .i64 uk, .bool uno, .int .i64 ul, .int .i64 uh, .int .i64 uf, .int .i64 ub] 30 ∧ At wx BB #[.int .i64 vk, .bool vno, .int .i64 vl, .int .i64 vh, .int .i64 vf, .int .i64 vb] 30 ∧ Below wr.heap.size wr wx)
    case first =>
      clear hbj hJ
      obtain ⟨a0, a1, a2, a3, a4, a5⟩ := hcu
      obtain ⟨b0, b1, b2, b3, b4, b5⟩ := hcv
      dsimp only at a0 a1 a2 a3 a4 a5 b0 b1 b2 b3 b4 b5
      have hab := two_boxes wr #[.int .i64 uk, .bool uno, .int .i64 ul, .int .i64 uh, .int .i64 uf, .int .i64 ub] #[.int .i64 vk, .bool vno, .int .i64 vl, .int .i64 vh, .int .i64 vf, .int .i64 vb] 30
      have hba := two_boxes wr #[.int .i64 vk, .bool vno, .int .i64 vl, .int .i64 vh, .int .i64 vf, .int .i64 vb] #[.int .i64 uk, .bool uno, .int .i64 ul, .int .i64 uh, .int .i64 uf, .int .i64 ub] 30
      have HAB := Lib.hid hab
      have HBA := Lib.hid hba
      clear hab hba
      have a0Z := cell_alloc a0 (.cells #[.int .i64 0, .bool false, .int .i64 0, .int .i64 0, .int .i64 0, .int .i64 0] 30)
      have a0ZZ := cell_alloc a0Z (.cells #[.int .i64 0, .bool false, .int .i64 0, .int .i64 0, .int .i64 0, .int .i64 0] 30)
      have a0O := cell_alloc a0 (.cells #[.int .i64 vk, .bool vno, .int .i64 vl, .int .i64 vh, .int .i64 vf, .int .i64 vb] 30)
      have a0OZ := cell_alloc a0O (.cells #[.int .i64 0, .bool false, .int .i64 0, .int .i64 0, .int .i64 0, .int .i64 0] 30)
      have a0ZO := cell_alloc a0Z (.cells #[.int .i64 vk, .bool vno, .int .i64 vl, .int .i64 vh, .int .i64 vf, .int .i64 vb] 30)
      have a1Z := cell_alloc a1 (.cells #[.int .i64 0, .bool false, .int .i64 0, .int .i64 0, .int .i64 0, .int .i64 0] 30)
      have a1ZZ := cell_alloc a1Z (.cells #[.int .i64 0, .bool false, .int .i64 0, .int .i64 0, .int .i64 0, .int .i64 0] 30)
      have a1O := cell_alloc a1 (.cells #[.int .i64 vk, .bool vno, .int .i64 vl, .int .i64 vh, .int .i64 vf, .int .i64 vb] 30)
      have a1OZ := cell_alloc a1O (.cells #[.int .i64 0, .bool false, .int .i64 0, .int .i64 0, .int .i64 0, .int .i64 0] 30)
      have a1ZO := cell_alloc a1Z (.cells #[.int .i64 vk, .bool vno, .int .i64 vl, .int .i64 vh, .int .i64 vf, .int .i64 vb] 30)
      have a2Z := cell_alloc a2 (.cells #[.int .i64 0, .bool false, .int .i64 0, .int .i64 0, .int .i64 0, .int .i64 0] 30)
      have a2ZZ := cell_alloc a2Z (.cells #[.int .i64 0, .bool false, .int .i64 0, .int .i64 0, .int .i64 0, .int .i64 0] 30)
      have a2O := cell_alloc a2 (.cells #[.int .i64 vk, .bool vno, .int .i64 vl, .int .i64 vh, .int .i64 vf, .int .i64 vb] 30)
      have a2OZ := cell_alloc a2O (.cells #[.int .i64 0, .bool false, .int .i64 0, .int .i64 0, .int .i64 0, .int .i64 0] 30)
      have a2ZO := cell_alloc a2Z (.cells #[.int .i64 vk, .bool vno, .int .i64 vl, .int .i64 vh, .int .i64 vf, .int .i64 vb] 30)
      have a3Z := cell_alloc a3 (.cells #[.int .i64 0, .bool false, .int .i64 0, .int .i64 0, .int .i64 0, .int .i64 0] 30)
      have a3ZZ := cell_alloc a3Z (.cells #[.int .i64 0, .bool false, .int .i64 0, .int .i64 0, .int .i64 0, .int .i64 0] 30)
      have a3O := cell_alloc a3 (.cells #[.int .i64 vk, .bool vno, .int .i64 vl, .int .i64 vh, .int .i64 vf, .int .i64 vb] 30)
      have a3OZ := cell_alloc a3O (.cells #[.int .i64 0, .bool false, .int .i64 0, .int .i64 0, .int .i64 0, .int .i64 0] 30)
      have a3ZO := cell_alloc a3Z (.cells #[.int .i64 vk, .bool vno, .int .i64 vl, .int .i64 vh, .int .i64 vf, .int .i64 vb] 30)
      have a4Z := cell_alloc a4 (.cells #[.int .i64 0, .bool false, .int .i64 0, .int .i64 0, .int .i64 0, .int .i64 0] 30)
      have a4ZZ := cell_alloc a4Z (.cells #[.int .i64 0, .bool false, .int .i64 0, .int .i64 0, .int .i64 0, .int .i64 0] 30)
      have a4O := cell_alloc a4 (.cells #[.int .i64 vk, .bool vno, .int .i64 vl, .int .i64 vh, .int .i64 vf, .int .i64 vb] 30)
      have a4OZ := cell_alloc a4O (.cells #[.int .i64 0, .bool false, .int .i64 0, .int .i64 0, .int .i64 0, .int .i64 0] 30)
      have a4ZO := cell_alloc a4Z (.cells #[.int .i64 vk, .bool vno, .int .i64 vl, .int .i64 vh, .int .i64 vf, .int .i64 vb] 30)
      have a5Z := cell_alloc a5 (.cells #[.int .i64 0, .bool false, .int .i64 0, .int .i64 0, .int .i64 0, .int .i64 0] 30)
      have a5ZZ := cell_alloc a5Z (.cells #[.int .i64 0, .bool false, .int .i64 0, .int .i64 0, .int .i64 0, .int .i64 0] 30)
      have a5O := cell_alloc a5 (.cells #[.int .i64 vk, .bool vno, .int .i64 vl, .int .i64 vh, .int .i64 vf, .int .i64 vb] 30)
      have a5OZ := cell_alloc a5O (.cells #[.int .i64 0, .bool false, .int .i64 0, .int .i64 0, .int .i64 0, .int .i64 0] 30)
      have a5ZO := cell_alloc a5Z (.cells #[.int .i64 vk, .bool vno, .int .i64 vl, .int .i64 vh, .int .i64 vf, .int .i64 vb] 30)
      have b0Z := cell_alloc b0 (.cells #[.int .i64 0, .bool false, .int .i64 0, .int .i64 0, .int .i64 0, .int .i64 0] 30)
      have b0ZZ := cell_alloc b0Z (.cells #[.int .i64 0, .bool false, .int .i64 0, .int .i64 0, .int .i64 0, .int .i64 0] 30)
      have b0O := cell_alloc b0 (.cells #[.int .i64 uk, .bool uno, .int .i64 ul, .int .i64 uh, .int .i64 uf, .int .i64 ub] 30)
      have b0OZ := cell_alloc b0O (.cells #[.int .i64 0, .bool false, .int .i64 0, .int .i64 0, .int .i64 0, .int .i64 0] 30)
      have b0ZO := cell_alloc b0Z (.cells #[.int .i64 uk, .bool uno, .int .i64 ul, .int .i64 uh, .int .i64 uf, .int .i64 ub] 30)
      have b1Z := cell_alloc b1 (.cells #[.int .i64 0, .bool false, .int .i64 0, .int .i64 0, .int .i64 0, .int .i64 0] 30)
      have b1ZZ := cell_alloc b1Z (.cells #[.int .i64 0, .bool false, .int .i64 0, .int .i64 0, .int .i64 0, .int .i64 0] 30)
      have b1O := cell_alloc b1 (.cells #[.int .i64 uk, .bool uno, .int .i64 ul, .int .i64 uh, .int .i64 uf, .int .i64 ub] 30)
      have b1OZ := cell_alloc b1O (.cells #[.int .i64 0, .bool false, .int .i64 0, .int .i64 0, .int .i64 0, .int .i64 0] 30)
      have b1ZO := cell_alloc b1Z (.cells #[.int .i64 uk, .bool uno, .int .i64 ul, .int .i64 uh, .int .i64 uf, .int .i64 ub] 30)
      have b2Z := cell_alloc b2 (.cells #[.int .i64 0, .bool false, .int .i64 0, .int .i64 0, .int .i64 0, .int .i64 0] 30)
      have b2ZZ := cell_alloc b2Z (.cells #[.int .i64 0, .bool false, .int .i64 0, .int .i64 0, .int .i64 0, .int .i64 0] 30)
      have b2O := cell_alloc b2 (.cells #[.int .i64 uk, .bool uno, .int .i64 ul, .int .i64 uh, .int .i64 uf, .int .i64 ub] 30)
      have b2OZ := cell_alloc b2O (.cells #[.int .i64 0, .bool false, .int .i64 0, .int .i64 0, .int .i64 0, .int .i64 0] 30)
      have b2ZO := cell_alloc b2Z (.cells #[.int .i64 uk, .bool uno, .int .i64 ul, .int .i64 uh, .int .i64 uf, .int .i64 ub] 30)
      have b3Z := cell_alloc b3 (.cells #[.int .i64 0, .bool false, .int .i64 0, .int .i64 0, .int .i64 0, .int .i64 0] 30)
      have b3ZZ := cell_alloc b3Z (.cells #[.int .i64 0, .bool false, .int .i64 0, .int .i64 0, .int .i64 0, .int .i64 0] 30)
      have b3O := cell_alloc b3 (.cells #[.int .i64 uk, .bool uno, .int .i64 ul, .int .i64 uh, .int .i64 uf, .int .i64 ub] 30)
      have b3OZ := cell_alloc b3O (.cells #[.int .i64 0, .bool false, .int .i64 0, .int .i64 0, .int .i64 0, .int .i64 0] 30)
      have b3ZO := cell_alloc b3Z (.cells #[.int .i64 uk, .bool uno, .int .i64 ul, .int .i64 uh, .int .i64 uf, .int .i64 ub] 30)
      have b4Z := cell_alloc b4 (.cells #[.int .i64 0, .bool false, .int .i64 0, .int .i64 0, .int .i64 0, .int .i64 0] 30)
      have b4ZZ := cell_alloc b4Z (.cells #[.int .i64 0, .bool false, .int .i64 0, .int .i64 0, .int .i64 0, .int .i64 0] 30)
      have b4O := cell_alloc b4 (.cells #[.int .i64 uk, .bool uno, .int .i64 ul, .int .i64 uh, .int .i64 uf, .int .i64 ub] 30)
      have b4OZ := cell_alloc b4O (.cells #[.int .i64 0, .bool false, .int .i64 0, .int .i64 0, .int .i64 0, .int .i64 0] 30)
      have b4ZO := cell_alloc b4Z (.cells #[.int .i64 uk, .bool uno, .int .i64 ul, .int .i64 uh, .int .i64 uf, .int .i64 ub] 30)
      have b5Z := cell_alloc b5 (.cells #[.int .i64 0, .bool false, .int .i64 0, .int .i64 0, .int .i64 0, .int .i64 0] 30)
      have b5ZZ := cell_alloc b5Z (.cells #[.int .i64 0, .bool false, .int .i64 0, .int .i64 0, .int .i64 0, .int .i64 0] 30)
      have b5O := cell_alloc b5 (.cells #[.int .i64 uk, .bool uno, .int .i64 ul, .int .i64 uh, .int .i64 uf, .int .i64 ub] 30)
      have b5OZ := cell_alloc b5O (.cells #[.int .i64 0, .bool false, .int .i64 0, .int .i64 0, .int .i64 0, .int .i64 0] 30)
      have b5ZO := cell_alloc b5Z (.cells #[.int .i64 uk, .bool uno, .int .i64 ul, .int .i64 uh, .int .i64 uf, .int .i64 ub] 30)
      go_region
      all_goals clear a0 a0Z a0ZZ a0O a0OZ a0ZO a1 a1Z a1ZZ a1O a1OZ a1ZO a2 a2Z a2ZZ a2O a2OZ a2ZO a3 a3Z a3ZZ a3O a3OZ a3ZO a4 a4Z a4ZZ a4O a4OZ a4ZO a5 a5Z a5ZZ a5O a5OZ a5ZO b0 b0Z b0ZZ b0O b0OZ b0ZO b1 b1Z b1ZZ b1O b1OZ b1ZO b2 b2Z b2ZZ b2O b2OZ b2ZO b3 b3Z b3ZZ b3O b3OZ b3ZO b4 b4Z b4ZZ b4O b4OZ b4ZO b5 b5Z b5ZZ b5O b5OZ b5ZO
      all_goals
        go_wp2_with fail
        go_meet
        first
          | exact ⟨_, _, rfl, rfl, HAB.out.1.drew, HAB.out.2.1.drew, (HAB.out.2.2).drew⟩
          | exact ⟨_, _, rfl, rfl, HBA.out.2.1.drew, HBA.out.1.drew, (HBA.out.2.2).drew⟩
    case rest =>
    obtain ⟨BA, BB, rfl, rfl, dA, dB, hbx⟩ := hcut
    generalize wc = w3 at *
    have hbm := hbj.trans (hbx.mono hbj.size)
    clear hbj hbx hcu hcv
    have a0 : w3.cell? ⟨BA, 0, none⟩ = some (.int .i64 uk) := dA.cell 0 rfl
    have a1 : w3.cell? ⟨BA, 1, none⟩ = some (.bool uno) := dA.cell 1 rfl
    have a2 : w3.cell? ⟨BA, 2, none⟩ = some (.int .i64 ul) := dA.cell 2 rfl
    have a3 : w3.cell? ⟨BA, 3, none⟩ = some (.int .i64 uh) := dA.cell 3 rfl
    have a4 : w3.cell? ⟨BA, 4, none⟩ = some (.int .i64 uf) := dA.cell 4 rfl
    have a5 : w3.cell? ⟨BA, 5, none⟩ = some (.int .i64 ub) := dA.cell 5 rfl
    have b0 : w3.cell? ⟨BB, 0, none⟩ = some (.int .i64 vk) := dB.cell 0 rfl
    have b1 : w3.cell? ⟨BB, 1, none⟩ = some (.bool vno) := dB.cell 1 rfl
    have b2 : w3.cell? ⟨BB, 2, none⟩ = some (.int .i64 vl) := dB.cell 2 rfl
    have b3 : w3.cell? ⟨BB, 3, none⟩ = some (.int .i64 vh) := dB.cell 3 rfl
    have b4 : w3.cell? ⟨BB, 4, none⟩ = some (.int .i64 vf) := dB.cell 4 rfl
    have b5 : w3.cell? ⟨BB, 5, none⟩ = some (.int .i64 vb) := dB.cell 5 rfl
    obtain ⟨gd, hgd⟩ : ∃ g, g = good2B k uk uno ul uh uf ub vk vno vl vh vf vb := ⟨_, rfl⟩
    cases gd
    · have cO := fun w => two_refused op k ho uk uno ul uh uf ub vk vno vl vh vf vb hgd.symm w
      have HGD := Lib.hid hgd
      clear hgd
      go_wp2_with fail
      refine (cO _).mono ?_
      rintro e w4 ⟨rfl, hb4⟩
      replace hbm := hbm.trans (hb4.mono hbm.size)
      have hbl := hbm.alloc hbm.size (.cells #[.int .i64 0, .bool false, .int .i64 0, .int .i64 0, .int .i64 0, .int .i64 0] 30)
      have dA4 := At.alloc (At.below' hb4 dA) (.cells #[.int .i64 0, .bool false, .int .i64 0, .int .i64 0, .int .i64 0, .int .i64 0] 30)
      have dB4 := At.alloc (At.below' hb4 dB) (.cells #[.int .i64 0, .bool false, .int .i64 0, .int .i64 0, .int .i64 0, .int .i64 0] 30)
      clear hb4 dA dB a0 a1 a2 a3 a4 a5 b0 b1 b2 b3 b4 b5 cO hbm
      go_upto_region 16 with (fail)
      generalize w4.alloc (.cells #[.int .i64 0, .bool false, .int .i64 0, .int .i64 0, .int .i64 0, .int .i64 0] 30) = w5 at *
      go_cut [89] from 65 to 89 (fun v89 wx => v89 = .bool false ∧ Below w5.heap.size w5 wx)
      case first =>
        have q0 := fun p : BelowBy w5 => p.cell (dA4.cell 0 rfl : w5.cell? ⟨BA, 0, none⟩ = some (.int .i64 uk))
        have q1 := fun p : BelowBy w5 => p.cell (dA4.cell 1 rfl : w5.cell? ⟨BA, 1, none⟩ = some (.bool uno))
        have q2 := fun p : BelowBy w5 => p.cell (dA4.cell 2 rfl : w5.cell? ⟨BA, 2, none⟩ = some (.int .i64 ul))
        have q3 := fun p : BelowBy w5 => p.cell (dA4.cell 3 rfl : w5.cell? ⟨BA, 3, none⟩ = some (.int .i64 uh))
        have q4 := fun p : BelowBy w5 => p.cell (dA4.cell 4 rfl : w5.cell? ⟨BA, 4, none⟩ = some (.int .i64 uf))
        have q5 := fun p : BelowBy w5 => p.cell (dA4.cell 5 rfl : w5.cell? ⟨BA, 5, none⟩ = some (.int .i64 ub))
        have r0 := fun p : BelowBy w5 => p.cell (dB4.cell 0 rfl : w5.cell? ⟨BB, 0, none⟩ = some (.int .i64 vk))
        have r1 := fun p : BelowBy w5 => p.cell (dB4.cell 1 rfl : w5.cell? ⟨BB, 1, none⟩ = some (.bool vno))
        have r2 := fun p : BelowBy w5 => p.cell (dB4.cell 2 rfl : w5.cell? ⟨BB, 2, none⟩ = some (.int .i64 vl))
        have r3 := fun p : BelowBy w5 => p.cell (dB4.cell 3 rfl : w5.cell? ⟨BB, 3, none⟩ = some (.int .i64 vh))
        have r4 := fun p : BelowBy w5 => p.cell (dB4.cell 4 rfl : w5.cell? ⟨BB, 4, none⟩ = some (.int .i64 vf))
        have r5 := fun p : BelowBy w5 => p.cell (dB4.cell 5 rfl : w5.cell? ⟨BB, 5, none⟩ = some (.int .i64 vb))
        clear dA4 dB4 hbl hJ
        have cWd := fun w => Al.rWidth_any k w
        have cVA := fun w => rVal_any uk uno ul uh uf ub w
        have cVB := fun w => rVal_any vk vno vl vh vf vb w
        have hgg := HGD.out.symm
        by_cases hk6 : 1 ≤ (k : Int) ∧ (k : Int) ≤ 6
        · have cM := fun w => Al.rMayTwo_yes op k ho hk6 w
          cases hm : mayB uk uno ul uh uf ub
          · rw [hm] at cVA
            clear hgg cVB
            refine wp_region_quiet_below (by kernel_rfl) (by kernel_rfl) ?_
            repeat (go_big_quiet_step ((first | (go_at_call 11; with_reducible exact Calls.below_same (cM _)) | (go_at_call 12; first | (with_reducible exact Calls.below_of (cVA _)) | (with_reducible exact Calls.below_of (cVB _))) | (go_at_call 13; with_reducible exact Calls.below_same (cWd _)))))
            refine wpQuiet_nil ?_
            intro wx hw'
            obtain ⟨⟨wx', hbx⟩, hw''⟩ := hw'
            subst hw''
            go_wp2_with fail
            go_meet
            exact ⟨rfl, hbx⟩
          · rw [hm] at cVA
            cases hm2 : mayB vk vno vl vh vf vb
            · rw [hm2] at cVB
              clear hgg
              refine wp_region_quiet_below (by kernel_rfl) (by kernel_rfl) ?_
              repeat (go_big_quiet_step ((first | (go_at_call 11; with_reducible exact Calls.below_same (cM _)) | (go_at_call 12; first | (with_reducible exact Calls.below_of (cVA _)) | (with_reducible exact Calls.below_of (cVB _))) | (go_at_call 13; with_reducible exact Calls.below_same (cWd _)))))
              refine wpQuiet_nil ?_
              intro wx hw'
              obtain ⟨⟨wx', hbx⟩, hw''⟩ := hw'
              subst hw''
              go_wp2_with fail
              go_meet
              exact ⟨rfl, hbx⟩
            · rw [hm2] at cVB
              simp only [good2B, hm, hm2, decide_eq_true hk6, Bool.true_and] at hgg
              by_cases hw1 : uk = Al.widthI k
              · have e1 : (uk == Al.widthI k) = true := by simpa using hw1
                have e2 : (vk == uk) = false := by
                  rw [e1] at hgg
                  simpa using hgg
                have HW1 := Lib.hid hw1
                clear hgg hw1
                refine wp_region_quiet_below (by kernel_rfl) (by kernel_rfl) ?_
                repeat (go_big_quiet_step ((first | (go_at_call 11; with_reducible exact Calls.below_same (cM _)) | (go_at_call 12; first | (with_reducible exact Calls.below_of (cVA _)) | (with_reducible exact Calls.below_of (cVB _))) | (go_at_call 13; with_reducible exact Calls.below_same (cWd _)))))
                refine wpQuiet_nil ?_
                intro wx hw'
                obtain ⟨⟨wx', hbx⟩, hw''⟩ := hw'
                subst hw''
                go_wp2_with fail
                go_meet
                exact ⟨rfl, hbx⟩
              · have e1 : (uk == Al.widthI k) = false := by simpa using hw1
                clear hgg
                refine wp_region_quiet_below (by kernel_rfl) (by kernel_rfl) ?_
                repeat (go_big_quiet_step ((first | (go_at_call 11; with_reducible exact Calls.below_same (cM _)) | (go_at_call 12; first | (with_reducible exact Calls.below_of (cVA _)) | (with_reducible exact Calls.below_of (cVB _))) | (go_at_call 13; with_reducible exact Calls.below_same (cWd _)))))
                refine wpQuiet_nil ?_
                intro wx hw'
                obtain ⟨⟨wx', hbx⟩, hw''⟩ := hw'
                subst hw''
                go_wp2_with fail
                go_meet
                exact ⟨rfl, hbx⟩
        · have cM := fun w => Al.rMayTwo_no_k op k ho hk6 w
          clear hgg
          refine wp_region_quiet_below (by kernel_rfl) (by kernel_rfl) ?_
          repeat (go_big_quiet_step ((first | (go_at_call 11; with_reducible exact Calls.below_same (cM _)) | (go_at_call 12; first | (with_reducible exact Calls.below_of (cVA _)) | (with_reducible exact Calls.below_of (cVB _))) | (go_at_call 13; with_reducible exact Calls.below_same (cWd _)))))
          refine wpQuiet_nil ?_
          intro wx hw'
          obtain ⟨⟨wx', hbx⟩, hw''⟩ := hw'
          subst hw''
          go_wp2_with fail
          go_meet
          exact ⟨rfl, hbx⟩
      case rest =>
      obtain ⟨rfl, hbx⟩ := hcut
      have hbn := hbl.trans (hbx.mono hbl.size)
      generalize wc = w6 at *
      clear hbl hbx dA4 dB4 HGD
      go_wp2_with (go_at_call 14; refine (num4_any _ _).mono ?_; rintro e w' ⟨rfl, rfl⟩)
      refine Handed.intro (n - 1) (by omega) (hJ _ _ _ ⟨_, j + 1, _, rfl, ⟨rfl, rfl, rfl, rfl, rfl, rfl⟩, rfl, by omega, by omega, hbn⟩)
    · obtain ⟨hk6, K, al, ah, af, ab, bl, bh, bf, bc, rfl, rfl, rfl, rfl, rfl, rfl, rfl, rfl, rfl, rfl, okA, hmA, okB, hmB, hKw⟩ := good2_nat hgd.symm
      have cO := fun w => HH.out k K uno al ah af ab vno bl bh bf bc hk6 hKw okA hmA okB hmB w
      clear hgd
      go_wp2_with fail
      refine (cO _).mono ?_
      rintro e w4 ⟨WA, tno, tl, th, tf, tb, rfl, okT, hmT, hans, hgood, hb4⟩
      replace hbm := hbm.trans (hb4.mono hbm.size)
      have hbl := hbm.alloc hbm.size (.cells #[.int .i64 WA, .bool tno, .int .i64 tl, .int .i64 th, .int .i64 tf, .int .i64 tb] 30)
      have dA4 := At.alloc (At.below' hb4 dA) (.cells #[.int .i64 WA, .bool tno, .int .i64 tl, .int .i64 th, .int .i64 tf, .int .i64 tb] 30)
      have dB4 := At.alloc (At.below' hb4 dB) (.cells #[.int .i64 WA, .bool tno, .int .i64 tl, .int .i64 th, .int .i64 tf, .int .i64 tb] 30)
      have dT4 := At.new w4 #[.int .i64 WA, .bool tno, .int .i64 tl, .int .i64 th, .int .i64 tf, .int .i64 tb] 30
      obtain ⟨BT, hBT⟩ : ∃ B, B = w4.heap.size := ⟨_, rfl⟩
      rw [← hBT] at dT4
      have HBT := Lib.hid hBT
      have HG := Lib.hid hgood
      clear hb4 dA dB a0 a1 a2 a3 a4 a5 b0 b1 b2 b3 b4 b5 cO hbm hBT hgood
      go_upto_region 16 with (fail)
      rw [← HBT.out]
      generalize w4.alloc (.cells #[.int .i64 WA, .bool tno, .int .i64 tl, .int .i64 th, .int .i64 tf, .int .i64 tb] 30) = w5 at *
      go_cut [89] from 65 to 89 (fun v89 wx => v89 = .bool true ∧ Below w5.heap.size w5 wx)
      case first =>
        have q0 := fun p : BelowBy w5 => p.cell (dA4.cell 0 rfl : w5.cell? ⟨BA, 0, none⟩ = some (.int .i64 K))
        have q1 := fun p : BelowBy w5 => p.cell (dA4.cell 1 rfl : w5.cell? ⟨BA, 1, none⟩ = some (.bool uno))
        have q2 := fun p : BelowBy w5 => p.cell (dA4.cell 2 rfl : w5.cell? ⟨BA, 2, none⟩ = some (.int .i64 al))
        have q3 := fun p : BelowBy w5 => p.cell (dA4.cell 3 rfl : w5.cell? ⟨BA, 3, none⟩ = some (.int .i64 ah))
        have q4 := fun p : BelowBy w5 => p.cell (dA4.cell 4 rfl : w5.cell? ⟨BA, 4, none⟩ = some (.int .i64 af))
        have q5 := fun p : BelowBy w5 => p.cell (dA4.cell 5 rfl : w5.cell? ⟨BA, 5, none⟩ = some (.int .i64 ab))
        have r0 := fun p : BelowBy w5 => p.cell (dB4.cell 0 rfl : w5.cell? ⟨BB, 0, none⟩ = some (.int .i64 K))
        have r1 := fun p : BelowBy w5 => p.cell (dB4.cell 1 rfl : w5.cell? ⟨BB, 1, none⟩ = some (.bool vno))
        have r2 := fun p : BelowBy w5 => p.cell (dB4.cell 2 rfl : w5.cell? ⟨BB, 2, none⟩ = some (.int .i64 bl))
        have r3 := fun p : BelowBy w5 => p.cell (dB4.cell 3 rfl : w5.cell? ⟨BB, 3, none⟩ = some (.int .i64 bh))
        have r4 := fun p : BelowBy w5 => p.cell (dB4.cell 4 rfl : w5.cell? ⟨BB, 4, none⟩ = some (.int .i64 bf))
        have r5 := fun p : BelowBy w5 => p.cell (dB4.cell 5 rfl : w5.cell? ⟨BB, 5, none⟩ = some (.int .i64 bc))
        clear dA4 dB4 hbl hJ dT4
        have cWd := fun w => Al.rWidth_any k w
        rw [hKw] at cWd
        have cVA := fun w => rVal_any (K : Int) uno (al : Int) (ah : Int) (af : Int) (ab : Int) w
        rw [hmA] at cVA
        have cVB := fun w => rVal_any (K : Int) vno (bl : Int) (bh : Int) (bf : Int) (bc : Int) w
        rw [hmB] at cVB
        have cM := fun w => Al.rMayTwo_yes op k ho hk6 w
        refine wp_region_quiet_below (by kernel_rfl) (by kernel_rfl) ?_
        repeat (go_big_quiet_step ((first | (go_at_call 11; with_reducible exact Calls.below_same (cM _)) | (go_at_call 12; first | (with_reducible exact Calls.below_of (cVA _)) | (with_reducible exact Calls.below_of (cVB _))) | (go_at_call 13; with_reducible exact Calls.below_same (cWd _)))))
        refine wpQuiet_nil ?_
        intro wx hw'
        obtain ⟨⟨wx', hbx⟩, hw''⟩ := hw'
        subst hw''
        go_wp2_with fail
        go_meet
        exact ⟨rfl, hbx⟩
      case rest =>
      obtain ⟨rfl, hbx⟩ := hcut
      have hbn := hbl.trans (hbx.mono hbl.size)
      generalize wc = w6 at *
      have dA6 := At.below' hbx dA4
      have dB6 := At.below' hbx dB4
      have dT6 := At.below' hbx dT4
      clear hbl hbx dA4 dB4 dT4
      have cF := fun w => fine_ok op k WA tno tl th tf tb hmT hans w
      have t0 : w6.cell? ⟨BT, 0, none⟩ = some (.int .i64 WA) := dT6.cell 0 rfl
      have t1 : w6.cell? ⟨BT, 1, none⟩ = some (.bool tno) := dT6.cell 1 rfl
      have t2 : w6.cell? ⟨BT, 2, none⟩ = some (.int .i64 tl) := dT6.cell 2 rfl
      have t3 : w6.cell? ⟨BT, 3, none⟩ = some (.int .i64 th) := dT6.cell 3 rfl
      have t4 : w6.cell? ⟨BT, 4, none⟩ = some (.int .i64 tf) := dT6.cell 4 rfl
      have t5 : w6.cell? ⟨BT, 5, none⟩ = some (.int .i64 tb) := dT6.cell 5 rfl
      go_wp2_with (go_at_call 14; refine (num4_any _ _).mono ?_; rintro e w' ⟨rfl, rfl⟩)
      refine (cF _).mono ?_
      rintro e w7 ⟨rfl, hb7⟩
      have dA7 := At.below' hb7 dA6
      have dB7 := At.below' hb7 dB6
      have dT7 := At.below' hb7 dT6
      replace hbn := hbn.trans (hb7.mono hbn.size)
      clear hb7 dA6 dB6 dT6 t0 t1 t2 t3 t4 t5 cF
      have cSa := fun w => some_14 K uno al ah af ab okA ((i : Int) + (j : Int)) w
      have cSb := fun w => some_14 K vno bl bh bf bc okB (j : Int) w
      have hsum := wrap_sum i j (by omega) (by omega)
      go_upto_region 23 with (fail)
      have hSd : (fun w' => w'.cell? ⟨BA, 0, none⟩ = some (.int .i64 K) ∧ w'.cell? ⟨BA, 1, none⟩ = some (.bool uno) ∧ w'.cell? ⟨BA, 2, none⟩ = some (.int .i64 al) ∧ w'.cell? ⟨BA, 3, none⟩ = some (.int .i64 ah) ∧ w'.cell? ⟨BA, 4, none⟩ = some (.int .i64 af) ∧ w'.cell? ⟨BA, 5, none⟩ = some (.int .i64 ab) ∧ w'.cell? ⟨BB, 0, none⟩ = some (.int .i64 K) ∧ w'.cell? ⟨BB, 1, none⟩ = some (.bool vno) ∧ w'.cell? ⟨BB, 2, none⟩ = some (.int .i64 bl) ∧ w'.cell? ⟨BB, 3, none⟩ = some (.int .i64 bh) ∧ w'.cell? ⟨BB, 4, none⟩ = some (.int .i64 bf) ∧ w'.cell? ⟨BB, 5, none⟩ = some (.int .i64 bc)) w7.drew := ⟨dA7.cell 0 rfl, dA7.cell 1 rfl, dA7.cell 2 rfl, dA7.cell 3 rfl, dA7.cell 4 rfl, dA7.cell 5 rfl, dB7.cell 0 rfl, dB7.cell 1 rfl, dB7.cell 2 rfl, dB7.cell 3 rfl, dB7.cell 4 rfl, dB7.cell 5 rfl⟩
      go_region_held3 (fun w' => w'.cell? ⟨BA, 0, none⟩ = some (.int .i64 K) ∧ w'.cell? ⟨BA, 1, none⟩ = some (.bool uno) ∧ w'.cell? ⟨BA, 2, none⟩ = some (.int .i64 al) ∧ w'.cell? ⟨BA, 3, none⟩ = some (.int .i64 ah) ∧ w'.cell? ⟨BA, 4, none⟩ = some (.int .i64 af) ∧ w'.cell? ⟨BA, 5, none⟩ = some (.int .i64 ab) ∧ w'.cell? ⟨BB, 0, none⟩ = some (.int .i64 K) ∧ w'.cell? ⟨BB, 1, none⟩ = some (.bool vno) ∧ w'.cell? ⟨BB, 2, none⟩ = some (.int .i64 bl) ∧ w'.cell? ⟨BB, 3, none⟩ = some (.int .i64 bh) ∧ w'.cell? ⟨BB, 4, none⟩ = some (.int .i64 bf) ∧ w'.cell? ⟨BB, 5, none⟩ = some (.int .i64 bc))
        (first
          | with_reducible exact hSd
          | exact keep12_below (by assumption) hbN)
        ((go_at_call 16
          first
          | (with_reducible refine (cSa _).mono ?_
             rintro e w8 ⟨za, pa, ca, rfl, hIa, hMa, hEa, hla, hbN⟩
             obtain ⟨mx, hmx⟩ : ∃ m, m = za.length := ⟨_, rfl⟩
             rw [← hmx] at hla ⊢
             have HMX := Lib.hid hmx
             have HB8 := Lib.hid hbN
             clear hmx)
          | (with_reducible refine (cSb _).mono ?_
             rintro e w9 ⟨zb, pb, cb, rfl, hIb, hMb, hEb, hlb, hbN⟩
             obtain ⟨my, hmy⟩ : ∃ m, m = zb.length := ⟨_, rfl⟩
             rw [← hmy] at hlb ⊢
             have HMY := Lib.hid hmy
             have HB9 := Lib.hid hbN
             clear hmy)))
      have hb8 := HB8.out
      have hb9 := HB9.out
      have dA9 := At.below' hb9 (At.below' hb8 dA7.drew)
      have dB9 := At.below' hb9 (At.below' hb8 dB7.drew)
      have dT9 := At.below' hb9 (At.below' hb8 dT7.drew)
      have hbp := hbn.drew.trans (hb8.mono hbn.size)
      have hbq := hbp.trans (hb9.mono hbp.size)
      have hPr : PairS op k K (MemV K uno al ah af ab) (MemV K vno bl bh bf bc) (MemV WA tno tl th tf tb) WA tno tl th tf tb BT pa za pb zb w9 := ⟨ho, hk6, hKw, fun z hz => hz.2.lt, fun z hz => hz.2.lt, okT, HG.out, dT9, hIa.below hb9, hMa, hIb, hMb⟩
      have hem : ∃ em : Bool, em = (decide (mx = 0) || decide (my = 0)) := ⟨_, rfl⟩
      obtain ⟨em, hem⟩ := hem
      have hnone : em = true → ∀ z, ¬ MemV WA tno tl th tf tb z := fun he => by
        refine HG.out.1 (fun ⟨⟨x, hx⟩, y, hy⟩ => ?_)
        rw [hem, Bool.or_eq_true, decide_eq_true_eq, decide_eq_true_eq] at he
        rcases he with h0 | h0
        · exact hEa (List.length_eq_zero_iff.1 (by have := HMX.out; omega)) x hx
        · exact hEb (List.length_eq_zero_iff.1 (by have := HMY.out; omega)) y hy
      have hsome : em = false → 0 < za.length ∧ 0 < zb.length := fun he => by
        rw [hem, Bool.or_eq_false_iff, decide_eq_false_iff_not, decide_eq_false_iff_not] at he
        have := HMX.out
        have := HMY.out
        omega
      have HNO := Lib.hid hnone
      have HSO := Lib.hid hsome
      have HEM := Lib.hid hem
      have hla2 : mx ≤ 1000 := hla
      have hlb2 : my ≤ 1000 := hlb
      clear hSd hb8 hb9 HB8 HB9 hbN hbn hbp dA7 dB7 dT7 hIa hIb hMa hMb hEa hEb cSa cSb hnone hsome hem hsum
      go_upto_region 24 with (fail)
      go_cut [117] from 110 to 117 (fun v117 wx => v117 = .bool em ∧ wx = w9)
      case first =>
        clear hPr hbq hJ dA9 dB9 dT9
        by_cases hx0 : mx = 0
        · have t6 : ((mx : Int) == 0) = true := by simp; omega
          have t7 : em = true := by rw [HEM.out]; simp [hx0]
          have HX0 := Lib.hid hx0
          subst t7
          clear hx0
          go_wp2_with fail
          go_meet
          exact ⟨rfl, rfl⟩
        · have t6 : ((mx : Int) == 0) = false := by simp; omega
          by_cases hy0 : my = 0
          · have t7 : ((my : Int) == 0) = true := by simp; omega
            have t8 : em = true := by rw [HEM.out]; simp [hy0]
            have HY0 := Lib.hid hy0
            subst t8
            clear hy0
            go_wp2_with fail
            go_meet
            exact ⟨rfl, rfl⟩
          · have t7 : ((my : Int) == 0) = false := by simp; omega
            have t8 : em = false := by rw [HEM.out]; simp [hx0, hy0]
            subst t8
            go_wp2_with fail
            go_meet
            exact ⟨rfl, rfl⟩
      case rest =>
      obtain ⟨rfl, hwc⟩ := hcut
      obtain rfl : w9 = wc := hwc.symm
      cases em
      · clear HEM HNO
        have hso := HSO.out rfl
        go_wp2_with fail
        refine noPanic_mono (loopD op BP k i j BA BB BT (.slice (some ⟨bb', off', none⟩) len cap) K _ _ _ WA tno tl th tf tb pa za pb zb mx my HMX.out HMY.out hla2 hlb2 ca cb w9 hPr _ ⟨rfl, rfl, rfl, rfl, rfl, rfl, rfl, rfl, rfl, rfl, rfl, rfl, rfl⟩ rfl _ ?_)
        intro t3 wA hF hbA
        obtain ⟨f0, f1, f2, f5, f6, f7, f8, f9, f10, f11, f12, f15, f16⟩ := hF
        rw [open_191 t3 f0]
        simp only [f1, f2, f5, f6, f7, f8, f9, f10, f11, f12, f15, f16]
        clear f0 f1 f2 f5 f6 f7 f8 f9 f10 f11 f12 f15 f16
        have dAA := At.below' hbA dA9
        have dBA := At.below' hbA dB9
        have hPA := hPr.below hbA
        replace hbq := hbq.trans (hbA.mono hbq.size)
        clear hbA dA9 dB9 dT9 hPr
        have cOa := fun w => rOnly_v K uno al ah af ab okA w
        have cOb := fun w => rOnly_v K vno bl bh bf bc okB w
        have a0 : wA.cell? ⟨BA, 0, none⟩ = some (.int .i64 K) := dAA.cell 0 rfl
        have a1 : wA.cell? ⟨BA, 1, none⟩ = some (.bool uno) := dAA.cell 1 rfl
        have a2 : wA.cell? ⟨BA, 2, none⟩ = some (.int .i64 al) := dAA.cell 2 rfl
        have a3 : wA.cell? ⟨BA, 3, none⟩ = some (.int .i64 ah) := dAA.cell 3 rfl
        have a4 : wA.cell? ⟨BA, 4, none⟩ = some (.int .i64 af) := dAA.cell 4 rfl
        have a5 : wA.cell? ⟨BA, 5, none⟩ = some (.int .i64 ab) := dAA.cell 5 rfl
        go_wp2_with fail
        refine (cOa _).mono ?_
        rintro e wB ⟨x1, is1, hx1, rfl, hbB⟩
        have dBB := At.below' hbB dBA
        have hPB := hPA.below hbB
        replace hbq := hbq.trans (hbB.mono hbq.size)
        clear a0 a1 a2 a3 a4 a5 hbB dAA dBA hPA cOa
        have b0 : wB.cell? ⟨BB, 0, none⟩ = some (.int .i64 K) := dBB.cell 0 rfl
        have b1 : wB.cell? ⟨BB, 1, none⟩ = some (.bool vno) := dBB.cell 1 rfl
        have b2 : wB.cell? ⟨BB, 2, none⟩ = some (.int .i64 bl) := dBB.cell 2 rfl
        have b3 : wB.cell? ⟨BB, 3, none⟩ = some (.int .i64 bh) := dBB.cell 3 rfl
        have b4 : wB.cell? ⟨BB, 4, none⟩ = some (.int .i64 bf) := dBB.cell 4 rfl
        have b5 : wB.cell? ⟨BB, 5, none⟩ = some (.int .i64 bc) := dBB.cell 5 rfl
        go_wp2_with fail
        refine (cOb _).mono ?_
        rintro e wC ⟨x2, is2, hx2, rfl, hbC⟩
        have hPC := hPB.below hbC
        replace hbq := hbq.trans (hbC.mono hbq.size)
        clear b0 b1 b2 b3 b4 b5 hbC dBB hPB cOb
        cases is1
        · clear hx1 hx2 hPC
          go_wp2_with fail
          refine Handed.intro (n - 1) (by omega) (hJ _ _ _ ⟨_, j + 1, _, rfl, ⟨rfl, rfl, rfl, rfl, rfl, rfl⟩, rfl, by omega, by omega, hbq⟩)
        · cases is2
          · clear hx1 hx2 hPC
            go_wp2_with fail
            refine Handed.intro (n - 1) (by omega) (hJ _ _ _ ⟨_, j + 1, _, rfl, ⟨rfl, rfl, rfl, rfl, rfl, rfl⟩, rfl, by omega, by omega, hbq⟩)
          · obtain ⟨g, g2, x, y, m, rfl, rfl, cx0, cy0, ax, by_, m2, m3, m4, cTwo⟩ := hPC.two 0 0 hso.1 hso.2
            have h1 : ∀ z, MemV K uno al ah af ab z ↔ z = x := by
              rcases hx1 with ⟨_, q, _, h3⟩ | ⟨h1, _⟩
              · have := (h3 x).1 ax
                subst this
                exact h3
              · cases h1
            have h2 : ∀ z, MemV K vno bl bh bf bc z ↔ z = y := by
              rcases hx2 with ⟨_, q, _, h3⟩ | ⟨h1, _⟩
              · have := (h3 y).1 by_
                subst this
                exact h3
              · cases h1
            have cJu := fun w => just_ok WA tno tl th tf tb okT m (m4 h1 h2) w
            have dTC := hPC.dT
            have hx9 : (0 : Int) < (mx : Int) := by have := HMX.out; omega
            have hy9 : (0 : Int) < (my : Int) := by have := HMY.out; omega
            clear hx1 hx2 hPC h1 h2 ax by_ m2 m3 m4
            go_upto_region 39 with (fail)
            go_quiet ((go_at_call 18; exact Calls.quiet_of (cTwo _)))
            have dTD := At.drewN dTC nq
            replace hbq := hbq.trans ((Joins.below_draws wC.heap.size wC nq).mono hbq.size)
            clear dTC cx0 cy0 cTwo
            generalize wC.drewN nq = wD at *
            have t0 : wD.cell? ⟨BT, 0, none⟩ = some (.int .i64 WA) := dTD.cell 0 rfl
            have t1 : wD.cell? ⟨BT, 1, none⟩ = some (.bool tno) := dTD.cell 1 rfl
            have t2 : wD.cell? ⟨BT, 2, none⟩ = some (.int .i64 tl) := dTD.cell 2 rfl
            have t3 : wD.cell? ⟨BT, 3, none⟩ = some (.int .i64 th) := dTD.cell 3 rfl
            have t4 : wD.cell? ⟨BT, 4, none⟩ = some (.int .i64 tf) := dTD.cell 4 rfl
            have t5 : wD.cell? ⟨BT, 5, none⟩ = some (.int .i64 tb) := dTD.cell 5 rfl
            go_wp2_with fail
            refine (cJu _).mono ?_
            rintro e wE ⟨rfl, hbE⟩
            replace hbq := hbq.trans (hbE.mono hbq.size)
            clear hbE dTD t0 t1 t2 t3 t4 t5 cJu
            go_wp2_with fail
            refine Handed.intro (n - 1) (by omega) (hJ _ _ _ ⟨_, j + 1, _, rfl, ⟨rfl, rfl, rfl, rfl, rfl, rfl⟩, rfl, by omega, by omega, hbq⟩)
      · clear HEM hPr
        have hno := HNO.out rfl
        have cNx := fun w => rNext_v WA tno tl th tf tb 0 okT (by omega) w
        have HN2 := Lib.hid hno
        have t0 : w9.cell? ⟨BT, 0, none⟩ = some (.int .i64 WA) := dT9.cell 0 rfl
        have t1 : w9.cell? ⟨BT, 1, none⟩ = some (.bool tno) := dT9.cell 1 rfl
        have t2 : w9.cell? ⟨BT, 2, none⟩ = some (.int .i64 tl) := dT9.cell 2 rfl
        have t3 : w9.cell? ⟨BT, 3, none⟩ = some (.int .i64 th) := dT9.cell 3 rfl
        have t4 : w9.cell? ⟨BT, 4, none⟩ = some (.int .i64 tf) := dT9.cell 4 rfl
        have t5 : w9.cell? ⟨BT, 5, none⟩ = some (.int .i64 tb) := dT9.cell 5 rfl
        clear hno dA9 dB9 dT9 HNO
        go_wp2_with fail
        refine (cNx _).mono ?_
        rintro e wA ⟨r, hr, rfl, hbA⟩
        obtain rfl : r = -1 := by
          rcases hr with ⟨h1, _⟩ | ⟨mm, _, _, hMm, _⟩
          · exact h1
          · exact absurd hMm (HN2.out mm)
        replace hbq := hbq.trans (hbA.mono hbq.size)
        clear hr hbA t0 t1 t2 t3 t4 t5 cNx
        go_wp2_with fail
        refine Handed.intro (n - 1) (by omega) (hJ _ _ _ ⟨_, j + 1, _, rfl, ⟨rfl, rfl, rfl, rfl, rfl, rfl⟩, rfl, by omega, by omega, hbq⟩)
  · have hlt1 : decide ((j : Int) < (len : Int)) = false := by simp; omega
    clear hJ
    go_wp2_with fail
    exact hQ _ _ ⟨rfl, rfl, rfl, rfl, rfl, rfl⟩ hbj
end Go.Proofs.YtblahbmhbfcggaaGreatDoor

/- The walk over two sets of all kinds: its outer loops. -/
namespace Go.Proofs.YtblahbmhbfcggaaGreatDoor
open Go.ChangeShapes Go.WideShapes Go.ChangeAt Go.RowKit Go.Joins Go.Deep
set_option linter.unusedVariables false

/-- the frames where loops 2 and 1 stand -/
def FrB (t : Array Value) (op : Int) (BP k : Nat) (sv : Value) : Prop := t.size = 191 ∧ sl t 1 = .int .i64 op ∧ sl t 2 = .pointer (some ⟨BP, 0, none⟩) ∧ sl t 5 = .int .i64 (k : Nat) ∧ sl t 6 = sv
def RelB (op : Int) (BP k : Nat) (sv : Value) (len : Nat) (w1 : World) (n : Nat) (a : Act) (wr : World) : Prop := ∃ t i z, a = ⟨t, []⟩ ∧ FrB t op BP k sv ∧ sl t 7 = .int .i64 z ∧ z = (i : Nat) ∧ i + n = len ∧ Below w1.heap.size w1 wr
def FrA (t : Array Value) (op : Int) (BP : Nat) : Prop := t.size = 191 ∧ sl t 1 = .int .i64 op ∧ sl t 2 = .pointer (some ⟨BP, 0, none⟩)
def RelA1 (op : Int) (BP : Nat) (w1 : World) (n : Nat) (a : Act) (wr : World) : Prop := ∃ t k z, a = ⟨t, []⟩ ∧ FrA t op BP ∧ sl t 5 = .int .i64 z ∧ z = (k : Nat) ∧ k + n = 8 ∧ Below w1.heap.size w1 wr
set_option maxRecDepth 1000000 in
set_option maxHeartbeats 6400000 in
theorem loopB (op : Int) (ho : 8 ≤ op ∧ op ≤ 19) (H : TwoH op) (BP k len cap : Nat) (p : Option Addr) (vs2 : List VI) (w2 : World) (hI : IsVals w2 p len vs2) (hlen : len ≤ 20)
    (t : Array Value) (hF : FrB t op BP k (.slice p len cap)) (f7 : sl t 7 = .int .i64 0) (Q : Exit → Act → World → Prop)
    (hQ : ∀ t w', FrA t op BP → sl t 5 = .int .i64 (k : Nat) → Below w2.heap.size w2 w' → Q (.exit 2) ⟨t, []⟩ w') :
    (Code.loop bodyB).wp Tryz.prog (NoPanic Q) ⟨t, []⟩ w2 := by
  refine wp_loop_ghost_k (RelB op BP k (.slice p len cap) len w2) len ⟨t, 0, 0, rfl, hF, f7, rfl, by omega, Below.refl _ _⟩ ?_
  clear hF f7
  intro n a wr hR iK iJv hJ hK
  clear t
  obtain ⟨t, i, z, rfl, ⟨f0, f1, f2, f5, f6⟩, f7, rfl, hin, hbi⟩ := hR
  rw [open_191 t f0]
  simp only [f1, f2, f5, f6, f7]
  clear f0 f1 f2 f5 f6 f7
  conv => arg 2; whnf
  by_cases hlt : i < len
  · have hlt1 : (i : Int) < (len : Int) := by omega
    have hIr := hI.below hbi
    clear hQ
    go_wp2_with fail
    refine noPanic_mono (loopC op ho H BP k i len cap p vs2 wr hIr hlt hlen _ ⟨rfl, rfl, rfl, rfl, rfl, rfl⟩ rfl _ ?_)
    clear hIr
    intro t2 w3 hF hb3
    obtain ⟨f0, f1, f2, f5, f6, f7⟩ := hF
    rw [open_191 t2 f0]
    simp only [f1, f2, f5, f6, f7]
    clear f0 f1 f2 f5 f6 f7
    have hbJ := hbi.trans (hb3.mono hbi.size)
    clear hb3 hbi
    go_wp2_with fail
    refine Handed.intro (n - 1) (by omega) (hJ _ _ _ ⟨_, i + 1, _, rfl, ⟨rfl, rfl, rfl, rfl, rfl⟩, rfl, by omega, by omega, hbJ⟩)
  · have hlt1 : decide ((i : Int) < (len : Int)) = false := by simp; omega
    clear hJ
    go_wp2_with fail
    exact hQ _ _ ⟨rfl, rfl, rfl⟩ rfl hbi
set_option maxRecDepth 1000000 in
set_option maxHeartbeats 6400000 in
theorem loopA (op : Int) (ho : 8 ≤ op ∧ op ≤ 19) (H : TwoH op) (pv : Option Addr) (lv cv : Nat) (vs : List VI) (pn : Option Addr) (ln cn : Nat) (zs : List Int) (BP : Nat) (w w1 : World) (hv : IsVals w pv lv vs) (hn : IsInts w pn ln zs) (hlv : lv ≤ 100) (d0 : At w1 BP #[.slice pv lv cv, .slice pn ln cn] 25) (hb0 : Below w.heap.size w w1)
    (t : Array Value) (hF : FrA t op BP) (f5 : sl t 5 = .int .i64 0) (Q : Exit → Act → World → Prop)
    (hQ : ∀ t w', t.size = 191 → Below w1.heap.size w1 w' → Q (.exit 0) ⟨t, []⟩ w') :
    (Code.loop bodyA).wp Tryz.prog (NoPanic Q) ⟨t, []⟩ w1 := by
  refine wp_loop_ghost_k (RelA1 op BP w1) 8 ⟨t, 0, 0, rfl, hF, f5, rfl, by omega, Below.refl _ _⟩ ?_
  clear hF f5
  intro n a wr hR iK iJv hJ hK
  clear t
  obtain ⟨t, k, z, rfl, ⟨f0, f1, f2⟩, f5, rfl, hkn, hbr⟩ := hR
  rw [open_191 t f0]
  simp only [f1, f2, f5]
  clear f0 f1 f2 f5
  conv => arg 2; whnf
  by_cases hk7 : k ≤ 7
  · have t0 : decide ((k : Int) ≤ 7) = true := by simp; omega
    have d1 := At.below' hbr d0
    have c0 : wr.cell? ⟨BP, 0, none⟩ = some (.slice pv lv cv) := d1.cell 0 rfl
    have c1 : wr.cell? ⟨BP, 1, none⟩ = some (.slice pn ln cn) := d1.cell 1 rfl
    have hbx := hb0.trans (hbr.mono hb0.size)
    clear hQ
    go_wp2_with fail
    refine (sets_any pv lv cv vs pn ln cn zs k _ (hv.below hbx) (hn.below hbx) hlv).mono ?_
    rintro e w2 ⟨p, len, cap, vs2, rfl, hI, hlen, hb2⟩
    have hbK := hbr.trans (hb2.mono hbr.size)
    clear c0 c1 d1 hbr hb2 hbx
    go_wp2_with fail
    refine noPanic_mono (loopB op ho H BP k len cap p vs2 w2 hI hlen _ ⟨rfl, rfl, rfl, rfl, rfl⟩ rfl _ ?_)
    clear hI
    intro t2 w3 hF g5 hb3
    obtain ⟨f0, f1, f2⟩ := hF
    rw [open_191 t2 f0]
    simp only [f1, f2, g5]
    clear f0 f1 f2 g5
    have hbJ := hbK.trans (hb3.mono hbK.size)
    clear hb3 hbK
    go_wp2_with fail
    refine Handed.intro (n - 1) (by omega) (hJ _ _ _ ⟨_, k + 1, _, rfl, ⟨rfl, rfl, rfl⟩, rfl, by omega, by omega, hbJ⟩)
  · have t0 : decide ((k : Int) ≤ 7) = false := by simp; omega
    clear hJ
    go_wp2_with fail
    exact hQ _ _ rfl hbr
set_option maxRecDepth 1000000 in
set_option maxHeartbeats 6400000 in
theorem twos_good (op : Int) (ho : 8 ≤ op ∧ op ≤ 19) (H : TwoH op) (pv : Option Addr) (lv cv : Nat) (vs : List VI) (pn : Option Addr) (ln cn : Nat) (zs : List Int) (w : World) (hv : IsVals w pv lv vs) (hn : IsInts w pn ln zs) :
    Calls Tryz.prog 6 #[.agg #[.slice pv lv cv, .slice pn ln cn], .int .i64 op] w fun e w' => e = .returned (.bool true) ∧ Below w.heap.size w w' := by
  have d0 := At.new w #[.slice pv lv cv, .slice pn ln cn] 25
  have hb0 : Below w.heap.size w (w.alloc (.cells #[.slice pv lv cv, .slice pn ln cn] 25)) := (Below.refl _ _).alloc (Nat.le_refl _) _
  have cW := wakes4_holds
  unfold Wakes4 at cW
  go_enter Tryz.func6, Tryz.ntmps6
  go_wp2_with fail
  refine (heavy_any pv lv cv pn ln cn _).mono ?_
  rintro e w1 ⟨hvy, rfl, hle, hb1⟩
  replace d0 := At.below' hb1 d0
  replace hb0 := hb0.trans (hb1.mono hb0.size)
  clear hb1
  cases hvy
  · obtain ⟨hlv, hln⟩ := hle rfl
    clear hle
    go_wp2_with fail
    refine noPanic_mono (loopA op ho H pv lv cv vs pn ln cn zs w.heap.size w w1 hv hn hlv d0 hb0 _ ⟨rfl, rfl, rfl⟩ rfl _ ?_)
    intro t w2 f0 hb2
    rw [open_191 t f0]
    have hbO := hb0.trans (hb2.mono hb0.size)
    clear f0 hb2 d0
    go_wp2_with fail
    refine (cW _).mono ?_
    rintro e wZ ⟨rfl, hbZ⟩
    go_wp2_with fail
    go_ret
    exact ⟨rfl, hbO.trans (hbZ.mono hbO.size)⟩
  · clear hle d0
    go_wp2_with fail
    go_ret
    exact ⟨rfl, hb0⟩
end Go.Proofs.YtblahbmhbfcggaaGreatDoor

/- MathsEq's walk. -/
namespace Go.Proofs.YtblahbmhbfcggaaGreatDoor
open Go.ChangeShapes Go.WideShapes Go.ChangeAt Go.RowKit Go.Joins Go.Deep
set_option linter.unusedVariables false

set_option maxRecDepth 100000 in
set_option maxHeartbeats 1600000 in
theorem mathsEq_holds (pv : Option Addr) (lv cv : Nat) (vs : List VI) (pn : Option Addr) (ln cn : Nat) (zs : List Int) (w : World) (hv : IsVals w pv lv vs) (hn : IsInts w pn ln zs) :
    Calls Tryz.prog 4 #[.agg #[.slice pv lv cv, .slice pn ln cn]] w fun e w' => e = .returned (.bool true) ∧ Below w.heap.size w w' := by
  have d0 := At.new w #[.slice pv lv cv, .slice pn ln cn] 25
  have hb0 : Below w.heap.size w (w.alloc (.cells #[.slice pv lv cv, .slice pn ln cn] 25)) := (Below.refl _ _).alloc (Nat.le_refl _) _
  go_enter Tryz.func4, Tryz.ntmps4
  go_upto_region 1 with (fail)
  generalize w.alloc (.cells #[.slice pv lv cv, .slice pn ln cn] 25) = w0 at *
  have c0 : w0.cell? ⟨w.heap.size, 0, none⟩ = some (.slice pv lv cv) := d0.cell 0 rfl
  have c1 : w0.cell? ⟨w.heap.size, 1, none⟩ = some (.slice pn ln cn) := d0.cell 1 rfl
  go_wp2_with fail
  refine (twos_good 18 (by omega) eq_good pv lv cv vs pn ln cn zs _ (hv.below hb0) (hn.below hb0)).mono ?_
  rintro e w1 ⟨rfl, hb⟩
  replace hb0 := hb0.trans (hb.mono hb0.size)
  clear c0 c1 hb d0
  go_wp2_with fail
  go_ret
  exact ⟨rfl, hb0⟩
end Go.Proofs.YtblahbmhbfcggaaGreatDoor
