/- Package val: Join: what two sets have together, or one of them has. -/
import Derived.Test.YtblahbmhbfcggaaGreatDoorVTellA
import Derived.Test.YtblahbmhbfcggaaGreatDoorVFits
import Derived.Test.YtblahbmhbfcggaaGreatDoorVMerge
import Derived.Test.YtblahbmhbfcggaaGreatDoorVMeet
import Derived.Deep.CutRange
namespace Go.Proofs.YtblahbmhbfcggaaGreatDoor
open Go.ChangeShapes Go.WideShapes Go.ChangeAt Go.RowKit Go.Joins Go.Deep
set_option linter.unusedVariables false

/-- what Join tells: all that one of them has; of sets of which one lies in the other, and that have one member together, just that -/
def JoinV (k : Nat) (A B : Nat → Prop) (w : World) (e : Ending) (w' : World) : Prop :=
  ∃ no l h f b, e = .returned (.tuple #[valV k no (l : Nat) (h : Nat) (f : Nat) (b : Nat), .int .i64 0]) ∧ ValOk k no l h f b ∧ mayB k no l h f b = true ∧ (∀ z, A z ∨ B z → MemV k no l h f b z) ∧ (∀ m, ((∀ z, A z → B z) ∨ (∀ z, B z → A z)) → (∀ z, A z ∨ B z ↔ z = m) → ∀ z, MemV k no l h f b z ↔ z = m) ∧ Below w.heap.size w w'
set_option maxRecDepth 100000 in
set_option maxHeartbeats 3200000 in
theorem Join_yes (H : MeetHolds) (HM : MergeHolds) (k : Nat) (no : Bool) (l h f b : Nat) (no2 : Bool) (l2 h2 f2 b2 : Nat) (ok : ValOk k no l h f b) (ok2 : ValOk k no2 l2 h2 f2 b2) (hm : mayB k no l h f b = true) (hm2 : mayB k no2 l2 h2 f2 b2 = true) (w : World) :
    Calls Tryz.prog 116 #[valV k no l h f b, valV k no2 l2 h2 f2 b2] w (JoinV k (MemV k no l h f b) (MemV k no2 l2 h2 f2 b2) w) := by
  obtain ⟨dA0, dB0, hb00⟩ := two_boxes w #[.int .i64 k, .bool no, .int .i64 l, .int .i64 h, .int .i64 f, .int .i64 b] #[.int .i64 k, .bool no2, .int .i64 l2, .int .i64 h2, .int .i64 f2, .int .i64 b2] 30
  have d4 := At.new ((w.alloc (.cells #[.int .i64 k, .bool no, .int .i64 l, .int .i64 h, .int .i64 f, .int .i64 b] 30)).alloc (.cells #[.int .i64 k, .bool no2, .int .i64 l2, .int .i64 h2, .int .i64 f2, .int .i64 b2] 30)) #[.int .i64 0, .bool false, .int .i64 0, .int .i64 0, .int .i64 0, .int .i64 0] 30
  have hb0 := hb00.alloc hb00.size (.cells #[.int .i64 0, .bool false, .int .i64 0, .int .i64 0, .int .i64 0, .int .i64 0] 30)
  have d4' : At (((w.alloc (.cells #[.int .i64 k, .bool no, .int .i64 l, .int .i64 h, .int .i64 f, .int .i64 b] 30)).alloc (.cells #[.int .i64 k, .bool no2, .int .i64 l2, .int .i64 h2, .int .i64 f2, .int .i64 b2] 30)).alloc (.cells #[.int .i64 0, .bool false, .int .i64 0, .int .i64 0, .int .i64 0, .int .i64 0] 30)) (w.heap.size + 1 + 1) #[.int .i64 0, .bool false, .int .i64 0, .int .i64 0, .int .i64 0, .int .i64 0] 30 := by simpa only [World.size_alloc] using d4
  have cT := fun w => takeBoth_yes k no l h f b no2 l2 h2 f2 b2 hm hm2 w
  have HH := Lib.hid H
  clear hm hm2 dA0 dB0 hb00 d4
  go_enter Tryz.func116, Tryz.ntmps116
  go_wp2_with fail
  refine (cT _).mono ?_
  rintro e w1 ⟨sa, sb, rfl, hSA, hSB, hsa, hab, hb1⟩
  have hbE := hb0.trans (hb1.mono hb0.size)
  have hsa2 : w.heap.size ≤ sa := by have := hb0.size; omega
  have hsbl : sb < w1.heap.size := At.lt hSB
  have d5 := At.below' hb1 d4'
  obtain ⟨B4, hB4e⟩ : ∃ B4, B4 = w.heap.size + 1 + 1 := ⟨_, rfl⟩
  have hB4 : w.heap.size ≤ B4 := by omega
  have hB4s : B4 < sa := by
    have h1 := d4'.lt
    omega
  rw [← hB4e] at d5 ⊢
  clear hb0 hb1 cT hB4e d4'
  go_wp2_with fail
  refine (layout_first sa k no l h f b ok _ hSA).mono ?_
  rintro e w2 ⟨ba, rfl, hLA, hKA⟩
  have hSB2 : SetNew w2 sb k no2 l2 h2 f2 b2 := At.keeps hSB hKA (by omega)
  have hbE2 := hbE.trans (hKA.below hsa2 hbE.size)
  have d6 := At.keeps d5 hKA (by omega)
  clear hSA hSB hbE hKA d5
  go_wp2_with fail
  refine (layout_first sb k no2 l2 h2 f2 b2 ok2 _ hSB2).mono ?_
  rintro e w3 ⟨bb, rfl, hLB, hKB⟩
  have hbE3 := hbE2.trans (hKB.below (by omega) hbE2.size)
  have d7 := At.keeps d6 hKB (by omega)
  obtain ⟨FA, BA, LA, ca, sla, iA⟩ := laid_is ok (hLA.2.1.keeps hKB hsbl)
  obtain ⟨FB, BB, LB, cb, slb, iB⟩ := laid_is ok2 hLB.2.1
  have cJ := join_any HH.out HM ba bb k FA BA FB BB LA LB sla slb ca cb _ _ w3 iA iB
  clear hSB2 hbE2 hKB hLA hLB iA iB d6
  go_wp2_with fail
  refine cJ.mono ?_
  rintro e w4 ⟨bl, FJ, XJ, LJ, cj, slj, rfl, jat, jsrc, jgood, jlen, jall, jonly, hb4⟩
  have hbE4 := hbE3.trans (hb4.mono hbE3.size)
  have d8 := At.below' hb4 d7
  have cL := tell_all bl k FJ XJ LJ slj cj w4 jgood (by omega) jat jsrc (fun _ => True) (fun w1 j _ _ => (whatever_any _ _ _ _ _ _ w1).mono (by rintro e w' ⟨rfl, hb⟩; exact ⟨true, by simp, rfl, hb⟩))
  have hex : 0 < LJ.length → ∃ j, j < LJ.length ∧ True := fun h0 => ⟨0, h0, trivial⟩
  have JG := Lib.hid jgood
  have JA := Lib.hid jall
  have JO := Lib.hid jonly
  clear cJ jat jsrc jgood jall jonly hb4 d7 hbE3
  go_wp2_with fail
  refine cL.mono ?_
  rintro e w5 ⟨rno, rl, rh, rf, rb, rfl, htold, hb5⟩
  have hbE5 := hbE4.trans (hb5.mono hbE4.size)
  have d9 := At.below' hb5 d8
  obtain ⟨okR, hmR⟩ := htold.ok JG.out
  have hall : ∀ z, MemV k no l h f b z ∨ MemV k no2 l2 h2 f2 b2 z → MemV k rno rl rh rf rb z := fun z hz => htold.all JG.out hex z (JA.out z hz)
  have hone : ∀ m, ((∀ z, MemV k no l h f b z → MemV k no2 l2 h2 f2 b2 z) ∨ (∀ z, MemV k no2 l2 h2 f2 b2 z → MemV k no l h f b z)) → (∀ z, MemV k no l h f b z ∨ MemV k no2 l2 h2 f2 b2 z ↔ z = m) → ∀ z, MemV k rno rl rh rf rb z ↔ z = m := fun m hs he => htold.one JG.out hex fun z => ⟨fun hz => (he z).1 (JO.out hs z hz), fun hz => JA.out z ((he z).2 hz)⟩
  have HALL := Lib.hid hall
  have HONE := Lib.hid hone
  have OKR := Lib.hid okR
  have HMR := Lib.hid hmR
  clear hall hone okR hmR htold cL hb5 d8 hbE4 hex
  have t0c : w5.cell? ⟨B4, 0, none⟩ = some (.int .i64 0) := d9.cell 0 rfl
  have t0f : w5.frozen? ⟨B4, 0, none⟩ = false := At.free d9 0
  have ts0 := At.set d9 0 (.int .i64 k) (by simp)
  have tc1 : (w5.setCell ⟨B4, 0, none⟩ (.int .i64 k)).cell? ⟨B4, 1, none⟩ = some (.bool false) := ts0.cell 1 rfl
  have tf1 : (w5.setCell ⟨B4, 0, none⟩ (.int .i64 k)).frozen? ⟨B4, 1, none⟩ = false := At.free ts0 1
  have ts1 := At.set ts0 1 (.bool rno) (by simp)
  have tc2 : ((w5.setCell ⟨B4, 0, none⟩ (.int .i64 k)).setCell ⟨B4, 1, none⟩ (.bool rno)).cell? ⟨B4, 2, none⟩ = some (.int .i64 0) := ts1.cell 2 rfl
  have tf2 : ((w5.setCell ⟨B4, 0, none⟩ (.int .i64 k)).setCell ⟨B4, 1, none⟩ (.bool rno)).frozen? ⟨B4, 2, none⟩ = false := At.free ts1 2
  have ts2 := At.set ts1 2 (.int .i64 rl) (by simp)
  have tc3 : (((w5.setCell ⟨B4, 0, none⟩ (.int .i64 k)).setCell ⟨B4, 1, none⟩ (.bool rno)).setCell ⟨B4, 2, none⟩ (.int .i64 rl)).cell? ⟨B4, 3, none⟩ = some (.int .i64 0) := ts2.cell 3 rfl
  have tf3 : (((w5.setCell ⟨B4, 0, none⟩ (.int .i64 k)).setCell ⟨B4, 1, none⟩ (.bool rno)).setCell ⟨B4, 2, none⟩ (.int .i64 rl)).frozen? ⟨B4, 3, none⟩ = false := At.free ts2 3
  have ts3 := At.set ts2 3 (.int .i64 rh) (by simp)
  have tc4 : ((((w5.setCell ⟨B4, 0, none⟩ (.int .i64 k)).setCell ⟨B4, 1, none⟩ (.bool rno)).setCell ⟨B4, 2, none⟩ (.int .i64 rl)).setCell ⟨B4, 3, none⟩ (.int .i64 rh)).cell? ⟨B4, 4, none⟩ = some (.int .i64 0) := ts3.cell 4 rfl
  have tf4 : ((((w5.setCell ⟨B4, 0, none⟩ (.int .i64 k)).setCell ⟨B4, 1, none⟩ (.bool rno)).setCell ⟨B4, 2, none⟩ (.int .i64 rl)).setCell ⟨B4, 3, none⟩ (.int .i64 rh)).frozen? ⟨B4, 4, none⟩ = false := At.free ts3 4
  have ts4 := At.set ts3 4 (.int .i64 rf) (by simp)
  have tc5 : (((((w5.setCell ⟨B4, 0, none⟩ (.int .i64 k)).setCell ⟨B4, 1, none⟩ (.bool rno)).setCell ⟨B4, 2, none⟩ (.int .i64 rl)).setCell ⟨B4, 3, none⟩ (.int .i64 rh)).setCell ⟨B4, 4, none⟩ (.int .i64 rf)).cell? ⟨B4, 5, none⟩ = some (.int .i64 0) := ts4.cell 5 rfl
  have tf5 : (((((w5.setCell ⟨B4, 0, none⟩ (.int .i64 k)).setCell ⟨B4, 1, none⟩ (.bool rno)).setCell ⟨B4, 2, none⟩ (.int .i64 rl)).setCell ⟨B4, 3, none⟩ (.int .i64 rh)).setCell ⟨B4, 4, none⟩ (.int .i64 rf)).frozen? ⟨B4, 5, none⟩ = false := At.free ts4 5
  have ts5 := At.set ts4 5 (.int .i64 rb) (by simp)
  have g0 : ((((((w5.setCell ⟨B4, 0, none⟩ (.int .i64 k)).setCell ⟨B4, 1, none⟩ (.bool rno)).setCell ⟨B4, 2, none⟩ (.int .i64 rl)).setCell ⟨B4, 3, none⟩ (.int .i64 rh)).setCell ⟨B4, 4, none⟩ (.int .i64 rf)).setCell ⟨B4, 5, none⟩ (.int .i64 rb)).cell? ⟨B4, 0, none⟩ = some (.int .i64 k) := ts5.cell 0 rfl
  have g1 : ((((((w5.setCell ⟨B4, 0, none⟩ (.int .i64 k)).setCell ⟨B4, 1, none⟩ (.bool rno)).setCell ⟨B4, 2, none⟩ (.int .i64 rl)).setCell ⟨B4, 3, none⟩ (.int .i64 rh)).setCell ⟨B4, 4, none⟩ (.int .i64 rf)).setCell ⟨B4, 5, none⟩ (.int .i64 rb)).cell? ⟨B4, 1, none⟩ = some (.bool rno) := ts5.cell 1 rfl
  have g2 : ((((((w5.setCell ⟨B4, 0, none⟩ (.int .i64 k)).setCell ⟨B4, 1, none⟩ (.bool rno)).setCell ⟨B4, 2, none⟩ (.int .i64 rl)).setCell ⟨B4, 3, none⟩ (.int .i64 rh)).setCell ⟨B4, 4, none⟩ (.int .i64 rf)).setCell ⟨B4, 5, none⟩ (.int .i64 rb)).cell? ⟨B4, 2, none⟩ = some (.int .i64 rl) := ts5.cell 2 rfl
  have g3 : ((((((w5.setCell ⟨B4, 0, none⟩ (.int .i64 k)).setCell ⟨B4, 1, none⟩ (.bool rno)).setCell ⟨B4, 2, none⟩ (.int .i64 rl)).setCell ⟨B4, 3, none⟩ (.int .i64 rh)).setCell ⟨B4, 4, none⟩ (.int .i64 rf)).setCell ⟨B4, 5, none⟩ (.int .i64 rb)).cell? ⟨B4, 3, none⟩ = some (.int .i64 rh) := ts5.cell 3 rfl
  have g4 : ((((((w5.setCell ⟨B4, 0, none⟩ (.int .i64 k)).setCell ⟨B4, 1, none⟩ (.bool rno)).setCell ⟨B4, 2, none⟩ (.int .i64 rl)).setCell ⟨B4, 3, none⟩ (.int .i64 rh)).setCell ⟨B4, 4, none⟩ (.int .i64 rf)).setCell ⟨B4, 5, none⟩ (.int .i64 rb)).cell? ⟨B4, 4, none⟩ = some (.int .i64 rf) := ts5.cell 4 rfl
  have g5 : ((((((w5.setCell ⟨B4, 0, none⟩ (.int .i64 k)).setCell ⟨B4, 1, none⟩ (.bool rno)).setCell ⟨B4, 2, none⟩ (.int .i64 rl)).setCell ⟨B4, 3, none⟩ (.int .i64 rh)).setCell ⟨B4, 4, none⟩ (.int .i64 rf)).setCell ⟨B4, 5, none⟩ (.int .i64 rb)).cell? ⟨B4, 5, none⟩ = some (.int .i64 rb) := ts5.cell 5 rfl
  have bb0 := hbE5.setCell (p := ⟨B4, 0, none⟩) hB4 (.int .i64 k)
  have bb1 := bb0.setCell (p := ⟨B4, 1, none⟩) hB4 (.bool rno)
  have bb2 := bb1.setCell (p := ⟨B4, 2, none⟩) hB4 (.int .i64 rl)
  have bb3 := bb2.setCell (p := ⟨B4, 3, none⟩) hB4 (.int .i64 rh)
  have bb4 := bb3.setCell (p := ⟨B4, 4, none⟩) hB4 (.int .i64 rf)
  have bb5 := bb4.setCell (p := ⟨B4, 5, none⟩) hB4 (.int .i64 rb)
  clear ts0 ts1 ts2 ts3 ts4 ts5 bb0 bb1 bb2 bb3 bb4 d9
  go_wp2_with fail
  exact bodyPost_ret (v := .tuple #[valV k rno rl rh rf rb, .int .i64 0]) (by simp [results, Tryz.results116, go_sem, g0, g1, g2, g3, g4, g5]) rfl ⟨rno, rl, rh, rf, rb, rfl, OKR.out, HMR.out, HALL.out, HONE.out, bb5⟩
end Go.Proofs.YtblahbmhbfcggaaGreatDoor
