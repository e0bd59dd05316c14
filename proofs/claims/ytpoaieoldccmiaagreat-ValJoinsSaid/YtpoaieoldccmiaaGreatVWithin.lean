/- Package val: within, In: whether all members of one are the other one's. Over what meet does. -/
import Derived.Test.YtpoaieoldccmiaaGreatVMeetM
import Derived.Test.YtpoaieoldccmiaaGreatVBoth
namespace Go.Proofs.YtpoaieoldccmiaaGreat
open Go.ChangeShapes Go.WideShapes Go.ChangeAt Go.RowKit Go.Joins Go.Deep
set_option linter.unusedVariables false

def WithinPost (A B : Nat → Prop) (w : World) (e : Ending) (w' : World) : Prop := ∃ is : Bool, (is = true ↔ ∀ z, A z → B z) ∧ e = .returned (.bool is) ∧ Below w.heap.size w w'
set_option maxRecDepth 100000 in
set_option maxHeartbeats 800000 in
theorem within_any (H : MeetHolds) (bla blb k fa ba fb bb : Nat) (La Lb : Spans) (sla slb : Value) (ca cb : Int) (ga : GoodL k fa ba La ca) (gb : GoodL k fb bb Lb cb) (h9a : La.length ≤ 9) (h9b : Lb.length ≤ 9) (w : World)
    (hA : At w bla (layC k fa ba sla ca) 87) (hB : At w blb (layC k fb bb slb cb) 87) (hsa : SrcV w sla La) (hsb : SrcV w slb Lb) :
    Calls Tryz.prog 23 #[.pointer (some ⟨bla, 0, none⟩), .pointer (some ⟨blb, 0, none⟩)] w (WithinPost (MemL k fa ba La) (MemL k fb bb Lb) w) := by
  have cM := H bla blb k fa ba fb bb La Lb sla slb ca cb ga gb h9a h9b w hA hB hsa hsb
  have HG := Lib.hid ga
  clear hB hsa hsb gb h9a h9b ga H
  go_enter Tryz.func23, Tryz.ntmps23
  go_wp2_with fail
  refine cM.mono ?_
  rintro e w1 ⟨F, B, L, c, bl, rfl, ⟨sl, hAt, _⟩, gm, hmem, _, _, hb1⟩
  replace hA := At.below' hb1 hA
  have hi := within_iff HG.out gm hmem
  have fin : WithinPost (MemL k fa ba La) (MemL k fb bb Lb) w (.returned (.bool (c == ca))) w1 := ⟨_, hi, rfl, hb1⟩
  clear hi gm hmem cM hb1
  go_wp2_with fail
  refine (count_any bl _ _ _ _ _ _ hAt).mono ?_
  rintro e w2 ⟨rfl, rfl⟩
  go_wp2_with fail
  refine (count_any bla _ _ _ _ _ _ hA).mono ?_
  rintro e w2 ⟨rfl, rfl⟩
  go_wp2_with fail
  go_ret
  exact fin
/-- a set laid out, as a layout that is whole -/
structure LayIs (w : World) (bl k F B : Nat) (L : Spans) (c : Int) (sl : Value) (M : Nat → Prop) : Prop where
  at_ : At w bl (layC k F B sl c) 87
  src : SrcV w sl L
  good : GoodL k F B L c
  short : L.length ≤ 2
  mem : ∀ z, MemL k F B L z ↔ M z
theorem spansOf_two {k l h : Nat} {no : Bool} : (spansOf k no l h).length ≤ 2 := by
  unfold spansOf
  split
  · simp
  · split <;> simp
theorem laid_is {w : World} {lo bl k : Nat} {no : Bool} {l h f b : Nat} (ok : ValOk k no l h f b) (hL : LaidSet w lo bl k no l h f b) : ∃ F B L c sl, LayIs w bl k F B L c sl (MemV k no l h f b) := by
  obtain ⟨L, hl, sl, hA, hs, _, _⟩ := hL
  obtain ⟨hg, hm⟩ := good_of_laid ok.pat hl (hl.rise rising_spansOf)
  exact ⟨_, _, L, _, sl, hA, hs.src, hg, Nat.le_trans hl.short spansOf_two, fun z => (hm z).trans (memL_memV hl)⟩
theorem LayIs.below {w w' : World} {bl k F B : Nat} {L : Spans} {c : Int} {sl : Value} {M : Nat → Prop} (h : LayIs w bl k F B L c sl M) (hb : Below w.heap.size w w') : LayIs w' bl k F B L c sl M := ⟨At.below' hb h.at_, h.src.below hb, h.good, h.short, h.mem⟩
def InPost (A B : Nat → Prop) (w : World) (e : Ending) (w' : World) : Prop := ∃ is : Bool, (is = true ↔ ∀ z, A z → B z) ∧ e = .returned (.tuple #[.bool is, .int .i64 0]) ∧ Below w.heap.size w w'
set_option maxRecDepth 100000 in
set_option maxHeartbeats 1600000 in
theorem In_yes (H : MeetHolds) (k : Nat) (no : Bool) (l h f b : Nat) (no2 : Bool) (l2 h2 f2 b2 : Nat) (ok : ValOk k no l h f b) (ok2 : ValOk k no2 l2 h2 f2 b2) (hm : mayB k no l h f b = true) (hm2 : mayB k no2 l2 h2 f2 b2 = true) (w : World) :
    Calls Tryz.prog 7 #[valV k no l h f b, valV k no2 l2 h2 f2 b2] w (InPost (MemV k no l h f b) (MemV k no2 l2 h2 f2 b2) w) := by
  obtain ⟨dA, dB, hb0⟩ := two_boxes w #[.int .i64 k, .bool no, .int .i64 l, .int .i64 h, .int .i64 f, .int .i64 b] #[.int .i64 k, .bool no2, .int .i64 l2, .int .i64 h2, .int .i64 f2, .int .i64 b2] 28
  have cT := fun w => takeBoth_yes k no l h f b no2 l2 h2 f2 b2 hm hm2 w
  have HH := Lib.hid H
  clear hm hm2 H
  go_enter Tryz.func7, Tryz.ntmps7
  go_wp2_with fail
  refine (cT _).mono ?_
  rintro e w1 ⟨sa, sb, rfl, hSA, hSB, hsa, hab, hb1⟩
  have hbE := hb0.trans (hb1.mono hb0.size)
  have hsa2 : w.heap.size ≤ sa := by have := hb0.size; omega
  have hsbl : sb < w1.heap.size := At.lt hSB
  clear hb0 hb1 hsa cT dA dB
  go_wp2_with fail
  refine (layout_first sa k no l h f b ok _ hSA).mono ?_
  rintro e w2 ⟨ba, rfl, hLA, hKA⟩
  have hSB2 : SetNew w2 sb k no2 l2 h2 f2 b2 := At.keeps hSB hKA (by omega)
  have hbE2 := hbE.trans (hKA.below hsa2 hbE.size)
  clear hSA hSB hbE hKA
  go_wp2_with fail
  refine (layout_first sb k no2 l2 h2 f2 b2 ok2 _ hSB2).mono ?_
  rintro e w3 ⟨bb, rfl, hLB, hKB⟩
  have hbE3 := hbE2.trans (hKB.below (by omega) hbE2.size)
  obtain ⟨FA, BA, LA, ca, sla, iA⟩ := laid_is ok (hLA.2.1.keeps hKB hsbl)
  obtain ⟨FB, BB, LB, cb, slb, iB⟩ := laid_is ok2 hLB.2.1
  have cW := within_any HH.out ba bb k FA BA FB BB LA LB sla slb ca cb iA.good iB.good (by have := iA.short; omega) (by have := iB.short; omega) w3 iA.at_ iB.at_ iA.src iB.src
  have hmA := Lib.hid iA.mem
  have hmB := Lib.hid iB.mem
  clear hSB2 hbE2 hKB hLA hLB iA iB
  go_wp2_with fail
  refine cW.mono ?_
  rintro e w4 ⟨is, his, rfl, hb4⟩
  have fin : InPost (MemV k no l h f b) (MemV k no2 l2 h2 f2 b2) w (.returned (.tuple #[.bool is, .int .i64 0])) w4 := ⟨is, his.trans ⟨fun hz z hA => (hmB.out z).1 (hz z ((hmA.out z).2 hA)), fun hz z hA => (hmB.out z).2 (hz z ((hmA.out z).1 hA))⟩, rfl, hbE3.trans (hb4.mono hbE3.size)⟩
  clear his cW hb4 hbE3
  go_wp2_with fail
  go_ret2
  exact fin
end Go.Proofs.YtpoaieoldccmiaaGreat
