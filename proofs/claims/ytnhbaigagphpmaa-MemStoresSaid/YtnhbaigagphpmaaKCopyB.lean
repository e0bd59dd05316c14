/- Memories copied: the document's own. -/
import Derived.Test.YtnhbaigagphpmaaKEqB
namespace Go.Proofs.Ytnhbaigagphpmaa
open Go.ChangeShapes Go.WideShapes Go.ChangeAt Go.RowKit Go.Joins Go.Deep
set_option linter.unusedVariables false

def OwnCPost (ys : List BY) (len : Nat) (w : World) (e : Ending) (w' : World) : Prop :=
  ∃ q c, e = .returned (.slice q len c) ∧ OwnB w' w.heap.size q c ys ∧ Below w.heap.size w w'
set_option maxHeartbeats 1600000 in
theorem CopyBytes_own (p : Option Addr) (len cap : Nat) (xs : List BY) (w : World) (h : IsBys w p len xs) :
    Calls Try.prog 8 #[.slice p len cap] w (OwnCPost xs len w) := by
  rcases Nat.eq_zero_or_pos len with h0 | h0
  · subst h0
    have hx0 := h.2.1
    exact (CopyBytes_0 cap p w).mono fun e w' ⟨he, hw⟩ => ⟨none, 0, he, ⟨by omega, fun _ => rfl, fun h => by omega⟩, by rw [← hw]; exact Below.refl _ _⟩
  obtain ⟨hl, hlen, hc⟩ := h
  obtain ⟨b, off, rfl, hbb, hcells⟩ := hc h0
  clear hc
  go_enter Try.func8, Try.ntmps8
  go_wp2
  go_loopw [3, 4] (fun v3 v4 wr => RelCopy xs len w v3 v4 wr) (fun _ v4 _ => len - (intOf v4).toNat)
  case atStart => exact ⟨0, by omega, rfl, World.ownsRow_nil _ _ _ _, Below.refl _ _⟩
  case round =>
    obtain ⟨j, hj, rfl, hown, hbr⟩ := hrel
    by_cases hlt : j < len
    · have hcj := (hcells j hlt).below hbr
      have hsn := take_snocD xs j (by omega)
      obtain ⟨x, hx⟩ : ∃ x, x = xs.getD j default := ⟨_, rfl⟩
      rw [← hx] at hcj hsn
      have hj3 : (j : Int) < (len : Int) := by omega
      obtain ⟨s, n, bb, o, i⟩ := x
      obtain ⟨p0, p1, p2, p3, p4⟩ := hcj
      dsimp only at *
      have HS := Lib.hid hsn
      have HL := Lib.hid hlen
      have hown0 := hown.alloc (.cells #[.int .i64 s, .int .i64 n, .int .i64 bb, .int .i64 o, .int .i64 i] 67)
      have hbA := hbr.alloc hbr.size (.cells #[.int .i64 s, .int .i64 n, .int .i64 bb, .int .i64 o, .int .i64 i] 67)
      obtain ⟨i0, hi0, hz0, hz1, hz2⟩ := info_parts Try.infoByte
      clear hsn hx hlen hown
      go_wp2_with ((at_builtin; go_must (refine wpList_append_own _ rfl _ _ 24 rfl w.heap.size 67 i0 _ 5 40 Try.underlying24 hi0 hz0 hz1 hz2 rfl (by decide) _ j (flatY (xs.take j)) rfl hown0 ⟨wr.heap.size, 0, none⟩ 1 1 [.int .i64 s, .int .i64 n, .int .i64 bb, .int .i64 o, .int .i64 i] rfl rfl (World.news_of_block (cs := #[.int .i64 s, .int .i64 n, .int .i64 bb, .int .i64 o, .int .i64 i]) (t := 67) (fr := (0, 0)) (heap_alloc_new wr _)) (by simp [Value.oneCell']) (by unfold maxLen; omega) (by omega) hbA.size ?_)))
      intro v3 w4 hown3 hgrow _
      have hbF := hbA.grown hgrow hbA.size (fun i hi => ownY_ge hown0 hi)
      have hown4 : w4.ownsRow w.heap.size 67 5 v3 (j + 1) (flatY (xs.take (j + 1))) := by rw [HS.out, flatY_snoc]; exact hown3
      clear hown0 hbA hgrow hown3 hi0 hz0 hz1 hz2 p0 p1 p2 p3 p4
      go_wp2_with fail
      go_roundw
      case rel => exact ⟨j + 1, by omega, by go_num, hown4, hbF⟩
      case measure => simp [intOf]; omega
    · obtain rfl : j = len := by omega
      have e : xs.take j = xs := List.take_of_length_le (by omega)
      rw [e] at hown
      have hown2 : wr.ownsRow w.heap.size 67 5 u3 xs.length (flatY xs) := by rw [hlen]; exact hown
      have hv : ¬ u3 = .slice none 0 0 := fun hh => by
        subst hh
        obtain ⟨_, ⟨_, h1⟩ | ⟨g, cap, cur, he, _⟩⟩ := hown2
        · omega
        · cases he
      obtain ⟨g, cap2, rfl, hge, hrow, hcp⟩ := ownY_own hown2 hv
      have HL := Lib.hid hlen
      have fin : OwnCPost xs j w (.returned (.slice (some ⟨g, 0, none⟩) xs.length cap2)) wr := ⟨_, cap2, by rw [hlen], ⟨hcp, (fun h => by cases h), fun _ => ⟨g, rfl, hge, hrow⟩⟩, hbr⟩
      clear hown hown2 e hrow hlen hcells hv hcp
      go_wp2
      go_ret
      exact fin
def CopyKPost (x : BK) (w : World) (e : Ending) (w' : World) : Prop :=
  ∃ q c, e = .returned (.agg #[.int .i64 x.st, .slice q x.ys.length c]) ∧ OwnB w' w.heap.size q c x.ys ∧ Below w.heap.size w w'
set_option maxRecDepth 100000 in
set_option maxHeartbeats 1600000 in
theorem copyBlock_any (x : BK) (w : World) (h : IsBys w x.q x.ys.length x.ys) :
    Calls Try.prog 41 #[bkV x] w (CopyKPost x w) := by
  obtain ⟨s, q, c, ys⟩ := x
  unfold bkV CopyKPost
  dsimp only at *
  have hb := below_box3 w (.cells #[.int .i64 s, .slice q ys.length c] 97) (.cells #[.int .i64 0, .slice none 0 0] 97) (.cells #[.int .i64 s, .slice q ys.length c] 97)
  have dR := At.alloc (At.new2 w (.cells #[.int .i64 s, .slice q ys.length c] 97) #[.int .i64 0, .slice none 0 0] 97) (.cells #[.int .i64 s, .slice q ys.length c] 97)
  have dX := At.new3 w (.cells #[.int .i64 s, .slice q ys.length c] 97) (.cells #[.int .i64 0, .slice none 0 0] 97) #[.int .i64 s, .slice q ys.length c] 97
  have cC := CopyBytes_own q ys.length c ys _ (h.below hb)
  clear h
  generalize ys.length = L at *
  go_enter Try.func41, Try.ntmps41
  go_wp2_with fail
  refine cC.mono ?_
  rintro e w4 ⟨q2, c2, rfl, hown, hb4⟩
  have dR4 := At.below' hb4 dR
  have dX4 := At.below' hb4 dX
  have hbF := hb.trans (hb4.mono hb.size)
  have x0 : w4.cell? ⟨w.heap.size + 2, 0, none⟩ = some (.int .i64 s) := dX4.cell 0 rfl
  have x1 : w4.cell? ⟨w.heap.size + 2, 1, none⟩ = some (.slice q L c) := dX4.cell 1 rfl
  have f1 := At.free dX4 1
  have dX5 := At.set dX4 1 (.slice q2 L c2) (by simp)
  have dR5 : At (w4.setCell ⟨w.heap.size + 2, 1, none⟩ (.slice q2 L c2)) (w.heap.size + 1) #[.int .i64 0, .slice none 0 0] 97 := (Below.heap_setCell w4 ⟨w.heap.size + 2, 1, none⟩ _ (w.heap.size + 1) (by simp)).trans dR4
  have hbG := hbF.setCell (p := ⟨w.heap.size + 2, 1, none⟩) (show w.heap.size ≤ w.heap.size + 2 by omega) (.slice q2 L c2)
  have hownG := hown.setOther (B := w.heap.size + 2) (i := 1) (x := .slice q2 L c2) (by simp)
  clear dX dR cC hb hb4 dR4 dX4 hbF hown
  go_upto_region 3 with (fail)
  generalize w4.setCell ⟨w.heap.size + 2, 1, none⟩ (.slice q2 L c2) = w5 at *
  clear x0 x1 f1
  have y0 : w5.cell? ⟨w.heap.size + 2, 0, none⟩ = some (.int .i64 s) := dX5.cell 0 rfl
  have y1 : w5.cell? ⟨w.heap.size + 2, 1, none⟩ = some (.slice q2 L c2) := dX5.cell 1 rfl
  have r0 : w5.cell? ⟨w.heap.size + 1, 0, none⟩ = some (.int .i64 0) := dR5.cell 0 rfl
  have g0 := At.free dR5 0
  have dR6 := At.set dR5 0 (.int .i64 s) (by simp)
  have r1 : (w5.setCell ⟨w.heap.size + 1, 0, none⟩ (.int .i64 s)).cell? ⟨w.heap.size + 1, 1, none⟩ = some (.slice none 0 0) := dR6.cell 1 rfl
  have g1 := At.free dR6 1
  have dR7 := At.set dR6 1 (.slice q2 L c2) (by simp)
  have hbH := (hbG.setCell (p := ⟨w.heap.size + 1, 0, none⟩) (show w.heap.size ≤ w.heap.size + 1 by omega) (.int .i64 s)).setCell (p := ⟨w.heap.size + 1, 1, none⟩) (show w.heap.size ≤ w.heap.size + 1 by omega) (.slice q2 L c2)
  have hownH := (hownG.setOther (B := w.heap.size + 1) (i := 0) (x := .int .i64 s) (by simp)).setOther (B := w.heap.size + 1) (i := 1) (x := .slice q2 L c2) (by simp)
  have z0 : ((w5.setCell ⟨w.heap.size + 1, 0, none⟩ (.int .i64 s)).setCell ⟨w.heap.size + 1, 1, none⟩ (.slice q2 L c2)).cell? ⟨w.heap.size + 1, 0, none⟩ = some (.int .i64 s) := dR7.cell 0 rfl
  have z1 : ((w5.setCell ⟨w.heap.size + 1, 0, none⟩ (.int .i64 s)).setCell ⟨w.heap.size + 1, 1, none⟩ (.slice q2 L c2)).cell? ⟨w.heap.size + 1, 1, none⟩ = some (.slice q2 L c2) := dR7.cell 1 rfl
  have fin : ∃ q c, Ending.returned (.agg #[.int .i64 s, .slice q2 L c2]) = .returned (.agg #[.int .i64 s, .slice q L c]) ∧ OwnB ((w5.setCell ⟨w.heap.size + 1, 0, none⟩ (.int .i64 s)).setCell ⟨w.heap.size + 1, 1, none⟩ (.slice q2 L c2)) w.heap.size q c ys ∧ Below w.heap.size w ((w5.setCell ⟨w.heap.size + 1, 0, none⟩ (.int .i64 s)).setCell ⟨w.heap.size + 1, 1, none⟩ (.slice q2 L c2)) := ⟨q2, c2, rfl, ⟨hownH.1, hownH.2.1, fun h0 => by
    obtain ⟨g, hg, hge, hr⟩ := hownH.2.2 h0
    exact ⟨g, hg, by simp at hge; omega, hr⟩⟩, hbH⟩
  clear dX5 dR5 dR6 dR7 hbG hownG hbH hownH
  go_wp2_with fail
  exact bodyPost_ret (v := .agg #[.int .i64 s, .slice q2 L c2]) (by simp [results, Try.results41, go_sem, z0, z1]) rfl fin
theorem OwnB.grown {w w' : World} {base b2 : Nat} {q : Option Addr} {c : Nat} {ys : List BY} {v : Value} {n : Nat} {xs : List Value} (h : OwnB w base q c ys) (hown : w.ownsRow b2 97 2 v n xs) (hg : w.grownBy w' v.ownBlock) : OwnB w' base q c ys := by
  obtain ⟨a, b, d⟩ := h
  refine ⟨a, b, fun h0 => ?_⟩
  obtain ⟨g, hq, hge, cs, hA, hrest⟩ := d h0
  refine ⟨g, hq, hge, cs, ?_, hrest⟩
  have hne : some g ≠ v.ownBlock := by
    intro hh
    obtain ⟨_, ⟨rfl, _⟩ | ⟨g', cap, cur, rfl, _, hg', _⟩⟩ := hown
    · simp [Value.ownBlock] at hh
    · simp [Value.ownBlock] at hh
      subst hh
      have := hA.symm.trans hg'
      simp at this
  exact (hg.block g hA.lt hne).trans hA
def CopyBsPost (m : List BK) (len : Nat) (w : World) (e : Ending) (w' : World) : Prop :=
  ∃ q cap x, e = .returned (.slice q len cap) ∧ IsMem w' q len x ∧ datM x = datM m ∧ len ≤ cap ∧ Below w.heap.size w w'
def RelCbs (m : List BK) (len : Nat) (w0 : World) (v3 v4 : Value) (wr : World) : Prop :=
  ∃ (j : Nat) (x : List BK), j ≤ len ∧ v4 = .int .i64 (j : Nat) ∧ x.length = j ∧ (∀ i, i < j → datK (x.getD i default) = datK (m.getD i default)) ∧ (∀ i, i < j → OwnB wr w0.heap.size (x.getD i default).q (x.getD i default).c (x.getD i default).ys) ∧ wr.ownsRow w0.heap.size 97 2 v3 j (flatK x) ∧ Below w0.heap.size w0 wr
theorem flatK_snoc (m : List BK) (x : BK) : flatK (m ++ [x]) = flatK m ++ bkL x := by simp [flatK]
theorem getD_snoc_lt {l : List BK} {x : BK} {i : Nat} (h : i < l.length) : (l ++ [x]).getD i default = l.getD i default := by simp only [List.getD_eq_getElem?_getD]; rw [List.getElem?_append_left h]
theorem getD_snoc_eq {l : List BK} {x : BK} {i : Nat} (h : l.length = i) : (l ++ [x]).getD i default = x := by subst h; simp [List.getD]
theorem ownK_ge {w : World} {base b : Nat} {e : TypeId} {size : Nat} {v : Value} {n : Nat} {xs : List Value} (h : w.ownsRow base e size v n xs) (hb : v.ownBlock = some b) : base ≤ b := ownY_ge h hb
set_option maxRecDepth 100000 in
set_option maxHeartbeats 3200000 in
theorem copyBlocks_any (q : Option Addr) (len cap : Nat) (m : List BK) (w : World) (hx : IsMem w q len m) :
    Calls Try.prog 19 #[.slice q len cap] w (CopyBsPost m len w) := by
  obtain ⟨hl, hlen, hc⟩ := hx
  have cC := fun (x : BK) w h => copyBlock_any x w h
  have HLEN := Lib.hid hlen
  clear hlen
  go_enter Try.func19, Try.ntmps19
  go_wp2
  go_loopw [3, 4] (fun v3 v4 wr => RelCbs m len w v3 v4 wr) (fun _ v4 _ => len - (intOf v4).toNat)
  case atStart => exact ⟨0, [], by omega, rfl, rfl, fun i hi => absurd hi (Nat.not_lt_zero _), fun i hi => absurd hi (Nat.not_lt_zero _), World.ownsRow_nil _ _ _ _, Below.refl _ _⟩
  case round =>
    obtain ⟨j, x, hj, rfl, hxl, hdat, hob, hown, hbr⟩ := hrel
    by_cases hlt : j < len
    · obtain ⟨b, off, rfl, hbb, hcells⟩ := hc (by omega)
      have h1 := (hcells j hlt).below hbr
      have hj3 : (j : Int) < (len : Int) := by omega
      have HD := Lib.hid hdat
      have HXL := Lib.hid hxl
      generalize hMJ : m.getD j default = mj at *
      have HMJ := Lib.hid hMJ
      have cX := cC mj
      obtain ⟨s, xq, xc, ys⟩ := mj
      obtain ⟨c0, c1, hi1, hcp, hqn⟩ := h1
      have hyl : ys.length ≤ 1000 := hi1.1
      unfold bkV CopyKPost at cX
      dsimp only at c0 c1 hi1 cX
      have HI1 := Lib.hid hi1
      clear hcells hdat hxl hMJ hi1 cC hcp hqn
      generalize hLL : ys.length = L at *
      have HLL := Lib.hid hLL
      clear hLL
      go_wp2_with fail
      refine (cX _ HI1.out).mono ?_
      rintro e w2 ⟨q2, c2, rfl, hob2, hb2⟩
      have hbs := hbr.size
      have hown2 : w2.ownsRow w.heap.size 97 2 u3 j (flatK x) := hown.kept ⟨hb2.os, hb2.tape, hb2.output, hb2.size, fun k hk _ => hb2.block k hk⟩ (row := none) (by
        rcases hh : u3.ownBlock with _ | k
        · exact Or.inl rfl
        · exact Or.inr (by simp))
      have hobA := fun i hi => ((hob i hi).below hb2 fun h0 => ((hob i hi).lt h0).1)
      have hown0 := hown2.alloc (.cells #[.int .i64 s, .slice q2 L c2] 97)
      have hbA := (hbr.trans (hb2.mono hbr.size)).alloc (hbr.trans (hb2.mono hbr.size)).size (.cells #[.int .i64 s, .slice q2 L c2] 97)
      have hobB := fun i hi => (hobA i hi).below (below_box1 w2 (.cells #[.int .i64 s, .slice q2 L c2] 97)) fun h0 => ((hobA i hi).lt h0).1
      have hob3 : OwnB w2 w.heap.size q2 c2 ys := ⟨hob2.1, hob2.2.1, fun h0 => by
        obtain ⟨g, hg, hge, hr⟩ := hob2.2.2 h0
        exact ⟨g, hg, by omega, hr⟩⟩
      have hob4 := hob3.below (below_box1 w2 (.cells #[.int .i64 s, .slice q2 L c2] 97)) fun h0 => (hob3.lt h0).1
      obtain ⟨i0, hi0, hz0, hz1, hz2⟩ := info_parts Try.infoBlock
      have HOB := Lib.hid hobB
      have HOB4 := Lib.hid hob4
      clear hob hobA hobB hob2 hob3 hob4 hown hown2 c0 c1 hb2 hbs
      go_wp2_with ((at_builtin; go_must (refine wpList_append_own _ rfl _ _ 53 rfl w.heap.size 97 i0 _ 2 32 Try.underlying53 hi0 hz0 hz1 hz2 rfl (by decide) _ j (flatK x) rfl hown0 ⟨w2.heap.size, 0, none⟩ 1 1 [.int .i64 s, .slice q2 L c2] rfl rfl (World.news_of_block (cs := #[.int .i64 s, .slice q2 L c2]) (t := 97) (fr := (0, 0)) (heap_alloc_new w2 _)) (by simp [Value.oneCell']) (by unfold maxLen; omega) (by omega) hbA.size ?_)))
      intro v3 w4 hown3 hgrow _
      have hbF := hbA.grown hgrow hbA.size (fun i hi => ownK_ge hown0 hi)
      have hown4 : w4.ownsRow w.heap.size 97 2 v3 (j + 1) (flatK (x ++ [⟨s, q2, c2, ys⟩])) := by rw [flatK_snoc]; unfold bkL; dsimp only; rw [HLL.out]; exact hown3
      have hobF := fun i hi => (HOB.out i hi).grown hown0 hgrow
      have hobN := HOB4.out.grown hown0 hgrow
      have HF := Lib.hid hobF
      have HN := Lib.hid hobN
      clear hown0 hbA hgrow hown3 hi0 hz0 hz1 hz2 hobF hobN
      go_wp2_with fail
      go_roundw
      case rel =>
        refine ⟨j + 1, x ++ [⟨s, q2, c2, ys⟩], by omega, by go_num, by simp [HXL.out], fun i hi => ?_, fun i hi => ?_, hown4, hbF⟩
        · by_cases e : i = j
          · subst e; rw [getD_snoc_eq HXL.out, HMJ.out]; rfl
          · rw [getD_snoc_lt (by rw [HXL.out]; omega)]; exact HD.out i (by omega)
        · by_cases e : i = j
          · subst e; rw [getD_snoc_eq HXL.out]; exact HN.out
          · rw [getD_snoc_lt (by rw [HXL.out]; omega)]; exact HF.out i (by omega)
      case measure => simp [intOf]; omega
    · obtain rfl : j = len := by omega
      have fin : ∃ q cap, u3 = .slice q j cap ∧ IsMem wr q j x ∧ j ≤ cap := by
        by_cases hv : u3 = .slice none 0 0
        · subst hv
          obtain ⟨_, ⟨_, h1⟩ | ⟨g, cap, cur, he, _⟩⟩ := hown
          · exact ⟨none, 0, by rw [h1], ⟨hl, hxl, fun h => by omega⟩, by omega⟩
          · cases he
        · have hown2 : wr.ownsRow w.heap.size 97 2 u3 x.length (flatK x) := by rw [hxl]; exact hown
          obtain ⟨g, cap, hv2, hge, hrow, hcp⟩ := ownK_own hown2 hv
          refine ⟨some ⟨g, 0, none⟩, cap, by rw [hv2, hxl], ⟨hl, hxl, fun _ => ⟨g, 0, rfl, hrow.lt, fun i hi => ?_⟩⟩, by omega⟩
          have hcc := hrow.cells i (by omega)
          have ho := hob i hi
          rw [Nat.zero_add]
          refine ⟨hcc.1, hcc.2, ?_, ho.1, ho.2.1⟩
          have hys : (x.getD i default).ys.length ≤ 1000 := by
            obtain ⟨b, off, rfl, hbb, hcells⟩ := hc (by omega)
            have h1 := (hcells i hi).2.2.1.1
            rw [show (x.getD i default).ys = (m.getD i default).ys from congrArg Prod.snd (hdat i hi)]
            exact h1
          rcases Nat.eq_zero_or_pos (x.getD i default).ys.length with h0 | h0
          · exact ⟨hys, rfl, fun h => by omega⟩
          · obtain ⟨g2, hq2, _, hr2⟩ := ho.2.2 h0
            rw [hq2]
            exact hr2.isBys rfl hys
      obtain ⟨q3, cap3, rfl, hm3, hcp3⟩ := fin
      have fin2 : CopyBsPost m j w (.returned (.slice q3 j cap3)) wr := ⟨q3, cap3, x, rfl, hm3, datM_ext (by rw [hxl, HLEN.out]) (fun i hi => hdat i (by rw [← HLEN.out]; exact hi)), hcp3, hbr⟩
      clear hm3 hown hob hdat hbr hc cC
      go_wp2
      go_ret
      exact fin2
end Go.Proofs.Ytnhbaigagphpmaa
