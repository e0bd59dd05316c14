/- Package val: the two questions that tell is handed: always yes; and whether what is told lies in a set. Over what meet does. -/
import Derived.Test.YtblahbmhbfcggaaGreatDoorVTellM
import Derived.BigRegion
namespace Go.Proofs.YtblahbmhbfcggaaGreatDoor
open Go.ChangeShapes Go.WideShapes Go.ChangeAt Go.RowKit Go.Joins Go.Deep
set_option linter.unusedVariables false

set_option maxRecDepth 100000 in
theorem whatever_any (k l h f b : Int) (no : Bool) (w : World) : Calls Tryz.prog 150 #[valV k no l h f b] w (fun e w' => e = .returned (.bool true) ∧ Below w.heap.size w w') := by
  go_enter Tryz.func150, Tryz.ntmps150
  go_wp2_with fail
  go_ret
  exact ⟨rfl, (Below.refl _ _).alloc (Nat.le_refl _) _⟩
theorem SetLaid.below {w w' : World} {sb lo bl k : Nat} {no : Bool} {l h f b : Nat} (hL : SetLaid w sb lo bl k no l h f b) (hb : Below w.heap.size w w') : SetLaid w' sb lo bl k no l h f b := by
  obtain ⟨h3, ⟨L, hl, hA⟩, h5⟩ := hL
  exact ⟨At.below' hb h3, ⟨L, hl, hA.below hb⟩, h5⟩
set_option maxRecDepth 100000 in
set_option maxHeartbeats 3200000 in
theorem fits_any (H : MeetHolds) (bc sa lo ba k : Nat) (no : Bool) (l h f b al ah F X : Nat) (okA : ValOk k no l h f b) (okV : ValOk k false al ah F X) (w : World)
    (hc : At w bc #[.pointer (some ⟨sa, 0, none⟩)] 126) (hX : SetLaid w sa lo ba k no l h f b) :
    Calls Tryz.prog 129 #[valV k false al ah F X, .pointer (some ⟨bc, 0, none⟩)] w (WithinPost (MemV k false al ah F X) (MemV k no l h f b) w) := by
  obtain ⟨dA, dB, hb0⟩ := two_boxes w #[.int .i64 k, .bool false, .int .i64 al, .int .i64 ah, .int .i64 F, .int .i64 X] #[.int .i64 k, .bool false, .int .i64 al, .int .i64 ah, .int .i64 F, .int .i64 X] 30
  have dV := At.new (w.alloc (.cells #[.int .i64 k, .bool false, .int .i64 al, .int .i64 ah, .int .i64 F, .int .i64 X] 30)) (setC k false al ah F X 0 0 none) 150
  have hbV : Below w.heap.size w ((w.alloc (.cells #[.int .i64 k, .bool false, .int .i64 al, .int .i64 ah, .int .i64 F, .int .i64 X] 30)).alloc (.cells (setC k false al ah F X 0 0 none) 150)) := ((Below.refl _ _).alloc (Nat.le_refl _) _).alloc (by simp) _
  clear dA dB hb0
  have HH := Lib.hid H
  clear H
  go_enter Tryz.func129, Tryz.ntmps129
  go_wp2_with fail
  have dV2 : At ((w.alloc (.cells #[.int .i64 k, .bool false, .int .i64 al, .int .i64 ah, .int .i64 F, .int .i64 X] 30)).alloc (.cells (setC k false al ah F X 0 0 none) 150)) (w.heap.size + 1) (setC k false al ah F X 0 0 none) 150 := by simpa only [World.size_alloc] using dV
  clear dV
  obtain ⟨Bt, hBt⟩ : ∃ Bt, Bt = w.heap.size + 1 := ⟨_, rfl⟩
  rw [← hBt] at dV2 ⊢
  unfold setC at dV2 hbV
  generalize ((w.alloc (.cells #[.int .i64 k, .bool false, .int .i64 al, .int .i64 ah, .int .i64 F, .int .i64 X] 30)).alloc (.cells #[.int .i64 k, .bool false, .int .i64 al, .int .i64 ah, .int .i64 F, .int .i64 X, .int .u32 0, .int .i32 0, .int .u32 0, .pointer none] 150)) = wB at *
  have hbD := hbV.drew
  have hN3 : SetNew wB.drew Bt k false al ah F X := dV2.drew
  have hX3 := hX.below hbD
  have hc3 := At.below' hbD hc
  have hBt2 : w.heap.size ≤ Bt := by omega
  have cT := layout_first Bt k false al ah F X okV wB.drew hN3
  have c3 : wB.drew.cell? ⟨bc, 0, none⟩ = some (.pointer (some ⟨sa, 0, none⟩)) := hc3.cell 0 rfl
  have c2 : wB.cell? ⟨bc, 0, none⟩ = some (.pointer (some ⟨sa, 0, none⟩)) := c3
  clear dV2 hbV hN3 hBt hc3
  go_region_with (first
    | (go_at_call 90; (with_reducible refine cT.mono ?_); rintro e w5 ⟨bt, rfl, hLT, hKT⟩; have hb5 := hbD.trans (hKT.below hBt2 hbD.size); have hX5 := hX.below hb5; have c5 : w5.cell? ⟨bc, 0, none⟩ = some (.pointer (some ⟨sa, 0, none⟩)) := (At.below' hb5 hc).cell 0 rfl; obtain ⟨FT, XT, LT, cT2, slT, iT⟩ := laid_is okV hLT.2.1; obtain ⟨FA, XA, LA, cA2, slA, iA⟩ := laid_is okA hX5.2.1; have cW := within_any HH.out bt ba k FT XT FA XA LT LA slT slA cT2 cA2 iT.good iA.good (Nat.le_trans iT.short (by decide)) (Nat.le_trans iA.short (by decide)) w5 iT.at_ iA.at_ iT.src iA.src)
    | (go_at_call 90; (with_reducible refine (layout_again sa lo ba k no l h f b _ hX3).mono ?_); rintro e w' ⟨rfl, rfl⟩)
    | (go_at_call 90; (with_reducible refine (layout_again sa lo ba k no l h f b _ hX5).mono ?_); rintro e w' ⟨rfl, rfl⟩)
    | (go_at_call 130; refine cW.mono ?_; rintro e w6 ⟨is, his, rfl, hb6⟩))
  all_goals
    have fin : WithinPost (MemV k false al ah F X) (MemV k no l h f b) w (.returned (.bool is)) w6 := ⟨is, his.trans ⟨fun hz z hA => (iA.mem z).1 (hz z ((iT.mem z).2 hA)), fun hz z hA => (iA.mem z).2 (hz z ((iT.mem z).1 hA))⟩, rfl, hb5.trans (hb6.mono hb5.size)⟩
    clear his cW cT hX hX3 hX5 iT iA hLT hKT
    go_wp2_with fail
    go_ret
    exact fin
end Go.Proofs.YtblahbmhbfcggaaGreatDoor
