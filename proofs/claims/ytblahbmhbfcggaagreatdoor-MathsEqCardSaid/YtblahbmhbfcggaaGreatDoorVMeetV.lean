/- Package val: Meet: what two sets both have. -/
import Derived.Test.YtblahbmhbfcggaaGreatDoorVTellI
import Derived.Test.YtblahbmhbfcggaaGreatDoorVFits
import Derived.Deep.CutRange
namespace Go.Proofs.YtblahbmhbfcggaaGreatDoor
open Go.ChangeShapes Go.WideShapes Go.ChangeAt Go.RowKit Go.Joins Go.Deep
set_option linter.unusedVariables false

theorem laid_sub {w : World} {lo bl k : Nat} {no : Bool} {l h f b : Nat} (ok : ValOk k no l h f b) (hL : LaidSet w lo bl k no l h f b) : ∃ F B L c sl, LayIs w bl k F B L c sl (MemV k no l h f b) ∧ SubL f b (spansOf k no l h) F B L := by
  obtain ⟨L, hl, sl, hA, hs, _, _⟩ := hL
  obtain ⟨hg, hm⟩ := good_of_laid ok.pat hl (hl.rise rising_spansOf)
  exact ⟨_, _, L, _, sl, ⟨hA, hs.src, hg, Nat.le_trans hl.short spansOf_two, fun z => (hm z).trans (memL_memV hl)⟩, sub_of_laid hl (fun s hs => ⟨s, hs, Nat.le_refl _, Nat.le_refl _⟩) (fun z hz => hz)⟩
/-- what Meet tells: all that both have, nothing that the first has not; nothing, if they have nothing together -/
def MeetV (k : Nat) (A B : Nat → Prop) (w : World) (e : Ending) (w' : World) : Prop :=
  ∃ no l h f b, e = .returned (.tuple #[valV k no (l : Nat) (h : Nat) (f : Nat) (b : Nat), .int .i64 0]) ∧ ValOk k no l h f b ∧ mayB k no l h f b = true ∧ (∀ z, A z → B z → MemV k no l h f b z) ∧ (∀ z, MemV k no l h f b z → A z) ∧ ((∀ z, ¬ (A z ∧ B z)) → ∀ z, ¬ MemV k no l h f b z) ∧ Below w.heap.size w w'
set_option maxRecDepth 100000 in
set_option maxHeartbeats 3200000 in
theorem Meet_yes (H : MeetHolds) (k : Nat) (no : Bool) (l h f b : Nat) (no2 : Bool) (l2 h2 f2 b2 : Nat) (ok : ValOk k no l h f b) (ok2 : ValOk k no2 l2 h2 f2 b2) (hm : mayB k no l h f b = true) (hm2 : mayB k no2 l2 h2 f2 b2 = true) (w : World) :
    Calls Tryz.prog 92 #[valV k no l h f b, valV k no2 l2 h2 f2 b2] w (MeetV k (MemV k no l h f b) (MemV k no2 l2 h2 f2 b2) w) := by
  obtain ⟨dA0, dB0, hb00⟩ := two_boxes w #[.int .i64 k, .bool no, .int .i64 l, .int .i64 h, .int .i64 f, .int .i64 b] #[.int .i64 k, .bool no2, .int .i64 l2, .int .i64 h2, .int .i64 f2, .int .i64 b2] 30
  have d4 := At.new ((w.alloc (.cells #[.int .i64 k, .bool no, .int .i64 l, .int .i64 h, .int .i64 f, .int .i64 b] 30)).alloc (.cells #[.int .i64 k, .bool no2, .int .i64 l2, .int .i64 h2, .int .i64 f2, .int .i64 b2] 30)) #[.int .i64 0, .bool false, .int .i64 0, .int .i64 0, .int .i64 0, .int .i64 0] 30
  have hb0 := hb00.alloc hb00.size (.cells #[.int .i64 0, .bool false, .int .i64 0, .int .i64 0, .int .i64 0, .int .i64 0] 30)
  have d4' : At (((w.alloc (.cells #[.int .i64 k, .bool no, .int .i64 l, .int .i64 h, .int .i64 f, .int .i64 b] 30)).alloc (.cells #[.int .i64 k, .bool no2, .int .i64 l2, .int .i64 h2, .int .i64 f2, .int .i64 b2] 30)).alloc (.cells #[.int .i64 0, .bool false, .int .i64 0, .int .i64 0, .int .i64 0, .int .i64 0] 30)) (w.heap.size + 1 + 1) #[.int .i64 0, .bool false, .int .i64 0, .int .i64 0, .int .i64 0, .int .i64 0] 30 := by simpa only [World.size_alloc] using d4
  have cT := fun w => takeBoth_yes k no l h f b no2 l2 h2 f2 b2 hm hm2 w
  have HH := Lib.hid H
  clear hm hm2 dA0 dB0 hb00 d4
  go_enter Tryz.func92, Tryz.ntmps92
  go_wp2_with fail
  refine (cT _).mono ?_
  rintro e w1 ⟨sa, sb, rfl, hSA, hSB, hsa, hab, hb1⟩
  have hbE := hb0.trans (hb1.mono hb0.size)
  have hsa2 : w.heap.size ≤ sa := by have := hb0.size; omega
  have hsbl : sb < w1.heap.size := At.lt hSB
  have d5 := At.below' hb1 d4'
  obtain ⟨B4, hB4e⟩ : ∃ B4, B4 = w.heap.size + 1 + 1 := ⟨_, rfl⟩
  have hB4 : w.heap.size ≤ B4 := by omega
  have hB4s : B4 < sa := by
    have h1 := d4'.lt
    omega
  rw [← hB4e] at d5 ⊢
  clear hb0 hb1 cT hB4e d4'
  have dc := At.new w1 #[.pointer (some ⟨sa, 0, none⟩)] 126
  have hb1c : Below w1.heap.size w1 (w1.alloc (.cells #[.pointer (some ⟨sa, 0, none⟩)] 126)) := (Below.refl _ _).alloc (Nat.le_refl _) _
  replace hSA := At.below' hb1c hSA
  replace hSB := At.below' hb1c hSB
  replace d5 := At.below' hb1c d5
  replace hbE := hbE.trans (hb1c.mono hbE.size)
  have hsbl2 : sb < (w1.alloc (.cells #[.pointer (some ⟨sa, 0, none⟩)] 126)).heap.size := by simp; omega
  have hmf : ∀ (fn : Fn) (first cap : Array Value) (w : World), (Instr.makeFunc fn first cap).run Tryz.prog w = .ok (.func fn first cap) w := fun _ _ _ _ => rfl
  obtain ⟨Bc, hBc⟩ : ∃ Bc, Bc = w1.heap.size := ⟨_, rfl⟩
  have cc : (w1.alloc (.cells #[.pointer (some ⟨sa, 0, none⟩)] 126)).cell? ⟨w1.heap.size, 0, none⟩ = some (.pointer (some ⟨sa, 0, none⟩)) := dc.cell 0 rfl
  clear hb1c
  go_wp2_with fail
  rw [← hBc] at dc cc hsbl ⊢
  clear hBc
  generalize w1.alloc (.cells #[.pointer (some ⟨sa, 0, none⟩)] 126) = wc1 at *
  refine (layout_first sa k no l h f b ok _ hSA).mono ?_
  rintro e w2 ⟨ba, rfl, hLA, hKA⟩
  have hSB2 : SetNew w2 sb k no2 l2 h2 f2 b2 := At.keeps hSB hKA (by omega)
  have hbE2 := hbE.trans (hKA.below hsa2 hbE.size)
  have d6 := At.keeps d5 hKA (by omega)
  have dc2 := At.keeps dc hKA (by omega)
  clear hSA hSB hbE hKA d5 dc cc
  go_wp2_with fail
  refine (layout_first sb k no2 l2 h2 f2 b2 ok2 _ hSB2).mono ?_
  rintro e w3 ⟨bb, rfl, hLB, hKB⟩
  have hbE3 := hbE2.trans (hKB.below (by omega) hbE2.size)
  have d7 := At.keeps d6 hKB (by omega)
  have dc3 := At.keeps dc2 hKB (by omega)
  have hLA3 : SetLaid w3 sa wc1.heap.size ba k no l h f b := ⟨At.keeps hLA.1 hKB (by omega), hLA.2.1.keeps hKB hsbl2, hLA.2.2⟩
  obtain ⟨FA, BA, LA, ca, sla, iA, sA⟩ := laid_sub ok hLA3.2.1
  obtain ⟨FB, BB, LB, cb, slb, iB⟩ := laid_is ok2 hLB.2.1
  have cJ := HH.out ba bb k FA BA FB BB LA LB sla slb ca cb iA.good iB.good (Nat.le_trans iA.short (by decide)) (Nat.le_trans iB.short (by decide)) w3 iA.at_ iB.at_ iA.src iB.src
  have hmA := Lib.hid iA.mem
  have hmB := Lib.hid iB.mem
  clear hSB2 hbE2 hKB hLA hLB iA iB d6 dc2
  go_wp2_with fail
  refine cJ.mono ?_
  rintro e w4 ⟨FJ, XJ, LJ, cj, bl, rfl, ⟨slj, jat, jsp, jlen, _⟩, jgood, jmem, jsub, _, hb4⟩
  have hbE4 := hbE3.trans (hb4.mono hbE3.size)
  have d8 := At.below' hb4 d7
  have dc4 := At.below' hb4 dc3
  have hLA4 := hLA3.below hb4
  have hsub := sA.trans jsub
  have cL := tell_in bl k FJ XJ LJ slj cj w4 jgood jlen jat jsp.src (fun j => ∀ z, MemV k false (arcL LJ j) (arcH LJ j) FJ XJ z → MemV k no l h f b z) Bc (fun w1 j hj hb => fits_any HH.out Bc sa wc1.heap.size ba k no l h f b (arcL LJ j) (arcH LJ j) FJ XJ ok (arc_all jgood hj).1 w1 (At.below' hb dc4) (hLA4.below hb))
  have hex : 0 < LJ.length → ∃ j, j < LJ.length ∧ ∀ z, MemV k false (arcL LJ j) (arcH LJ j) FJ XJ z → MemV k no l h f b z := fun h0 => arc_in jgood hsub h0
  have JG := Lib.hid jgood
  have JM := Lib.hid jmem
  have HEX := Lib.hid hex
  clear cJ jat jsp jgood jmem jsub hb4 d7 hbE3 sA hsub hLA3 hLA4 dc3 dc4 hex
  go_wp2_with fail
  refine cL.mono ?_
  rintro e w5 ⟨rno, rl, rh, rf, rb, rfl, htold, hb5⟩
  have hbE5 := hbE4.trans (hb5.mono hbE4.size)
  have d9 := At.below' hb5 d8
  obtain ⟨okR, hmR⟩ := htold.ok JG.out
  have hall : ∀ z, MemV k no l h f b z → MemV k no2 l2 h2 f2 b2 z → MemV k rno rl rh rf rb z := fun z h1 h2 => htold.all JG.out HEX.out z ((JM.out z).2 ⟨(hmA.out z).2 h1, (hmB.out z).2 h2⟩)
  have hone : ∀ z, MemV k rno rl rh rf rb z → MemV k no l h f b z := by
    intro z hz
    rcases htold with ⟨rfl, _⟩ | ⟨j, hj, hf, rfl, rfl, rfl, rfl, rfl⟩
    · exact absurd hz.1 (by simp)
    · exact hf z hz
  have hnon : (∀ z, ¬ (MemV k no l h f b z ∧ MemV k no2 l2 h2 f2 b2 z)) → ∀ z, ¬ MemV k rno rl rh rf rb z := fun hn => htold.none JG.out fun z hz => hn z ⟨(hmA.out z).1 ((JM.out z).1 hz).1, (hmB.out z).1 ((JM.out z).1 hz).2⟩
  have HALL := Lib.hid hall
  have HONE := Lib.hid hone
  have HNON := Lib.hid hnon
  have OKR := Lib.hid okR
  have HMR := Lib.hid hmR
  clear hall hone hnon okR hmR htold cL hb5 d8 hbE4 hmA hmB hmf
  have t0c : w5.cell? ⟨B4, 0, none⟩ = some (.int .i64 0) := d9.cell 0 rfl
  have t0f : w5.frozen? ⟨B4, 0, none⟩ = false := At.free d9 0
  have ts0 := At.set d9 0 (.int .i64 k) (by simp)
  have tc1 : (w5.setCell ⟨B4, 0, none⟩ (.int .i64 k)).cell? ⟨B4, 1, none⟩ = some (.bool false) := ts0.cell 1 rfl
  have tf1 : (w5.setCell ⟨B4, 0, none⟩ (.int .i64 k)).frozen? ⟨B4, 1, none⟩ = false := At.free ts0 1
  have ts1 := At.set ts0 1 (.bool rno) (by simp)
  have tc2 : ((w5.setCell ⟨B4, 0, none⟩ (.int .i64 k)).setCell ⟨B4, 1, none⟩ (.bool rno)).cell? ⟨B4, 2, none⟩ = some (.int .i64 0) := ts1.cell 2 rfl
  have tf2 : ((w5.setCell ⟨B4, 0, none⟩ (.int .i64 k)).setCell ⟨B4, 1, none⟩ (.bool rno)).frozen? ⟨B4, 2, none⟩ = false := At.free ts1 2
  have ts2 := At.set ts1 2 (.int .i64 rl) (by simp)
  have tc3 : (((w5.setCell ⟨B4, 0, none⟩ (.int .i64 k)).setCell ⟨B4, 1, none⟩ (.bool rno)).setCell ⟨B4, 2, none⟩ (.int .i64 rl)).cell? ⟨B4, 3, none⟩ = some (.int .i64 0) := ts2.cell 3 rfl
  have tf3 : (((w5.setCell ⟨B4, 0, none⟩ (.int .i64 k)).setCell ⟨B4, 1, none⟩ (.bool rno)).setCell ⟨B4, 2, none⟩ (.int .i64 rl)).frozen? ⟨B4, 3, none⟩ = false := At.free ts2 3
  have ts3 := At.set ts2 3 (.int .i64 rh) (by simp)
  have tc4 : ((((w5.setCell ⟨B4, 0, none⟩ (.int .i64 k)).setCell ⟨B4, 1, none⟩ (.bool rno)).setCell ⟨B4, 2, none⟩ (.int .i64 rl)).setCell ⟨B4, 3, none⟩ (.int .i64 rh)).cell? ⟨B4, 4, none⟩ = some (.int .i64 0) := ts3.cell 4 rfl
  have tf4 : ((((w5.setCell ⟨B4, 0, none⟩ (.int .i64 k)).setCell ⟨B4, 1, none⟩ (.bool rno)).setCell ⟨B4, 2, none⟩ (.int .i64 rl)).setCell ⟨B4, 3, none⟩ (.int .i64 rh)).frozen? ⟨B4, 4, none⟩ = false := At.free ts3 4
  have ts4 := At.set ts3 4 (.int .i64 rf) (by simp)
  have tc5 : (((((w5.setCell ⟨B4, 0, none⟩ (.int .i64 k)).setCell ⟨B4, 1, none⟩ (.bool rno)).setCell ⟨B4, 2, none⟩ (.int .i64 rl)).setCell ⟨B4, 3, none⟩ (.int .i64 rh)).setCell ⟨B4, 4, none⟩ (.int .i64 rf)).cell? ⟨B4, 5, none⟩ = some (.int .i64 0) := ts4.cell 5 rfl
  have tf5 : (((((w5.setCell ⟨B4, 0, none⟩ (.int .i64 k)).setCell ⟨B4, 1, none⟩ (.bool rno)).setCell ⟨B4, 2, none⟩ (.int .i64 rl)).setCell ⟨B4, 3, none⟩ (.int .i64 rh)).setCell ⟨B4, 4, none⟩ (.int .i64 rf)).frozen? ⟨B4, 5, none⟩ = false := At.free ts4 5
  have ts5 := At.set ts4 5 (.int .i64 rb) (by simp)
  have g0 : ((((((w5.setCell ⟨B4, 0, none⟩ (.int .i64 k)).setCell ⟨B4, 1, none⟩ (.bool rno)).setCell ⟨B4, 2, none⟩ (.int .i64 rl)).setCell ⟨B4, 3, none⟩ (.int .i64 rh)).setCell ⟨B4, 4, none⟩ (.int .i64 rf)).setCell ⟨B4, 5, none⟩ (.int .i64 rb)).cell? ⟨B4, 0, none⟩ = some (.int .i64 k) := ts5.cell 0 rfl
  have g1 : ((((((w5.setCell ⟨B4, 0, none⟩ (.int .i64 k)).setCell ⟨B4, 1, none⟩ (.bool rno)).setCell ⟨B4, 2, none⟩ (.int .i64 rl)).setCell ⟨B4, 3, none⟩ (.int .i64 rh)).setCell ⟨B4, 4, none⟩ (.int .i64 rf)).setCell ⟨B4, 5, none⟩ (.int .i64 rb)).cell? ⟨B4, 1, none⟩ = some (.bool rno) := ts5.cell 1 rfl
  have g2 : ((((((w5.setCell ⟨B4, 0, none⟩ (.int .i64 k)).setCell ⟨B4, 1, none⟩ (.bool rno)).setCell ⟨B4, 2, none⟩ (.int .i64 rl)).setCell ⟨B4, 3, none⟩ (.int .i64 rh)).setCell ⟨B4, 4, none⟩ (.int .i64 rf)).setCell ⟨B4, 5, none⟩ (.int .i64 rb)).cell? ⟨B4, 2, none⟩ = some (.int .i64 rl) := ts5.cell 2 rfl
  have g3 : ((((((w5.setCell ⟨B4, 0, none⟩ (.int .i64 k)).setCell ⟨B4, 1, none⟩ (.bool rno)).setCell ⟨B4, 2, none⟩ (.int .i64 rl)).setCell ⟨B4, 3, none⟩ (.int .i64 rh)).setCell ⟨B4, 4, none⟩ (.int .i64 rf)).setCell ⟨B4, 5, none⟩ (.int .i64 rb)).cell? ⟨B4, 3, none⟩ = some (.int .i64 rh) := ts5.cell 3 rfl
  have g4 : ((((((w5.setCell ⟨B4, 0, none⟩ (.int .i64 k)).setCell ⟨B4, 1, none⟩ (.bool rno)).setCell ⟨B4, 2, none⟩ (.int .i64 rl)).setCell ⟨B4, 3, none⟩ (.int .i64 rh)).setCell ⟨B4, 4, none⟩ (.int .i64 rf)).setCell ⟨B4, 5, none⟩ (.int .i64 rb)).cell? ⟨B4, 4, none⟩ = some (.int .i64 rf) := ts5.cell 4 rfl
  have g5 : ((((((w5.setCell ⟨B4, 0, none⟩ (.int .i64 k)).setCell ⟨B4, 1, none⟩ (.bool rno)).setCell ⟨B4, 2, none⟩ (.int .i64 rl)).setCell ⟨B4, 3, none⟩ (.int .i64 rh)).setCell ⟨B4, 4, none⟩ (.int .i64 rf)).setCell ⟨B4, 5, none⟩ (.int .i64 rb)).cell? ⟨B4, 5, none⟩ = some (.int .i64 rb) := ts5.cell 5 rfl
  have bb0 := hbE5.setCell (p := ⟨B4, 0, none⟩) hB4 (.int .i64 k)
  have bb1 := bb0.setCell (p := ⟨B4, 1, none⟩) hB4 (.bool rno)
  have bb2 := bb1.setCell (p := ⟨B4, 2, none⟩) hB4 (.int .i64 rl)
  have bb3 := bb2.setCell (p := ⟨B4, 3, none⟩) hB4 (.int .i64 rh)
  have bb4 := bb3.setCell (p := ⟨B4, 4, none⟩) hB4 (.int .i64 rf)
  have bb5 := bb4.setCell (p := ⟨B4, 5, none⟩) hB4 (.int .i64 rb)
  clear ts0 ts1 ts2 ts3 ts4 ts5 bb0 bb1 bb2 bb3 bb4 d9
  go_wp2_with fail
  exact bodyPost_ret (v := .tuple #[valV k rno rl rh rf rb, .int .i64 0]) (by simp [results, Tryz.results92, go_sem, g0, g1, g2, g3, g4, g5]) rfl ⟨rno, rl, rh, rf, rb, rfl, OKR.out, HMR.out, HALL.out, HONE.out, HNON.out, bb5⟩
end Go.Proofs.YtblahbmhbfcggaaGreatDoor
