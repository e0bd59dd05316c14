/- The document's CopyBlocks: what it makes is the call's own, each block's bytes a block of memory of their own. -/
import Derived.Test.YtnhbaigagphpmaaKCopyB
import Derived.Test.YtnhbaigagphpmaaKStore
namespace Go.Proofs.Ytnhbaigagphpmaa
open Go.ChangeShapes Go.WideShapes Go.ChangeAt Go.RowKit Go.Joins Go.Deep
set_option linter.unusedVariables false

def CopyOPost (m : List BK) (len : Nat) (w : World) (e : Ending) (w' : World) : Prop :=
  ∃ q cap x, e = .returned (.slice q len cap) ∧ IsMem w' q len x ∧ datM x = datM m ∧ len ≤ cap ∧ Owned w' w.heap.size len x ∧ (len = 0 ∨ ∃ B, q = some ⟨B, 0, none⟩ ∧ w.heap.size ≤ B ∧ KRow w' B x) ∧ Below w.heap.size w w'
def RelCbo (m : List BK) (len : Nat) (w0 : World) (v3 v4 : Value) (wr : World) : Prop :=
  ∃ (j : Nat) (x : List BK), j ≤ len ∧ v4 = .int .i64 (j : Nat) ∧ x.length = j ∧ (∀ i, i < j → datK (x.getD i default) = datK (m.getD i default)) ∧ (∀ i, i < j → OwnB wr w0.heap.size (x.getD i default).q (x.getD i default).c (x.getD i default).ys) ∧ (∀ i k, i < k → k < j → 0 < (x.getD i default).ys.length → 0 < (x.getD k default).ys.length → blkQ (x.getD i default).q < blkQ (x.getD k default).q) ∧ wr.ownsRow w0.heap.size 97 2 v3 j (flatK x) ∧ Below w0.heap.size w0 wr
set_option maxRecDepth 100000 in
set_option maxHeartbeats 3200000 in
theorem copyBlocks_own (q : Option Addr) (len cap : Nat) (m : List BK) (w : World) (hx : IsMem w q len m) :
    Calls Try.prog 19 #[.slice q len cap] w (CopyOPost m len w) := by
  obtain ⟨hl, hlen, hc⟩ := hx
  have cC := fun (x : BK) w h => copyBlock_any x w h
  have HLEN := Lib.hid hlen
  clear hlen
  go_enter Try.func19, Try.ntmps19
  go_wp2
  go_loopw [3, 4] (fun v3 v4 wr => RelCbo m len w v3 v4 wr) (fun _ v4 _ => len - (intOf v4).toNat)
  case atStart => exact ⟨0, [], by omega, rfl, rfl, fun i hi => absurd hi (Nat.not_lt_zero _), fun i hi => absurd hi (Nat.not_lt_zero _), (fun i k hik hk => absurd hk (Nat.not_lt_zero _)), World.ownsRow_nil _ _ _ _, Below.refl _ _⟩
  case round =>
    obtain ⟨j, x, hj, rfl, hxl, hdat, hob, hdis, hown, hbr⟩ := hrel
    by_cases hlt : j < len
    · obtain ⟨b, off, rfl, hbb, hcells⟩ := hc (by omega)
      have h1 := (hcells j hlt).below hbr
      have hj3 : (j : Int) < (len : Int) := by omega
      have HD := Lib.hid hdat
      have HXL := Lib.hid hxl
      generalize hMJ : m.getD j default = mj at *
      have HMJ := Lib.hid hMJ
      have cX := cC mj
      obtain ⟨s, xq, xc, ys⟩ := mj
      obtain ⟨c0, c1, hi1, hcp, hqn⟩ := h1
      have hyl : ys.length ≤ 1000 := hi1.1
      unfold bkV CopyKPost at cX
      dsimp only at c0 c1 hi1 cX
      have HI1 := Lib.hid hi1
      clear hcells hdat hxl hMJ hi1 cC hcp hqn
      generalize hLL : ys.length = L at *
      have HLL := Lib.hid hLL
      clear hLL
      go_wp2_with fail
      refine (cX _ HI1.out).mono ?_
      rintro e w2 ⟨q2, c2, rfl, hob2, hb2⟩
      have hbs := hbr.size
      have HDI := Lib.hid (show ∀ i k, i < k → k < j + 1 → 0 < ((x ++ ([⟨s, q2, c2, ys⟩] : List BK)).getD i default).ys.length → 0 < ((x ++ ([⟨s, q2, c2, ys⟩] : List BK)).getD k default).ys.length → blkQ ((x ++ ([⟨s, q2, c2, ys⟩] : List BK)).getD i default).q < blkQ ((x ++ ([⟨s, q2, c2, ys⟩] : List BK)).getD k default).q from fun i k hik hk h1 h2 => by
        rw [getD_snoc_lt (by rw [HXL.out]; omega)] at h1 ⊢
        by_cases e : k = j
        · subst e
          rw [getD_snoc_eq HXL.out] at h2 ⊢
          obtain ⟨g, hg, hge, hr⟩ := hob2.2.2 h2
          have h3 := ((hob i (by omega)).lt h1).1
          dsimp only
          rw [hg]
          show blkQ _ < g
          omega
        · rw [getD_snoc_lt (by rw [HXL.out]; omega)] at h2 ⊢
          exact hdis i k hik (by omega) h1 h2)
      clear hdis
      have hown2 : w2.ownsRow w.heap.size 97 2 u3 j (flatK x) := hown.kept ⟨hb2.os, hb2.tape, hb2.output, hb2.size, fun k hk _ => hb2.block k hk⟩ (row := none) (by
        rcases hh : u3.ownBlock with _ | k
        · exact Or.inl rfl
        · exact Or.inr (by simp))
      have hobA := fun i hi => ((hob i hi).below hb2 fun h0 => ((hob i hi).lt h0).1)
      have hown0 := hown2.alloc (.cells #[.int .i64 s, .slice q2 L c2] 97)
      have hbA := (hbr.trans (hb2.mono hbr.size)).alloc (hbr.trans (hb2.mono hbr.size)).size (.cells #[.int .i64 s, .slice q2 L c2] 97)
      have hobB := fun i hi => (hobA i hi).below (below_box1 w2 (.cells #[.int .i64 s, .slice q2 L c2] 97)) fun h0 => ((hobA i hi).lt h0).1
      have hob3 : OwnB w2 w.heap.size q2 c2 ys := ⟨hob2.1, hob2.2.1, fun h0 => by
        obtain ⟨g, hg, hge, hr⟩ := hob2.2.2 h0
        exact ⟨g, hg, by omega, hr⟩⟩
      have hob4 := hob3.below (below_box1 w2 (.cells #[.int .i64 s, .slice q2 L c2] 97)) fun h0 => (hob3.lt h0).1
      obtain ⟨i0, hi0, hz0, hz1, hz2⟩ := info_parts Try.infoBlock
      have HOB := Lib.hid hobB
      have HOB4 := Lib.hid hob4
      clear hob hobA hobB hob2 hob3 hob4 hown hown2 c0 c1 hb2 hbs
      go_wp2_with ((at_builtin; go_must (refine wpList_append_own _ rfl _ _ 53 rfl w.heap.size 97 i0 _ 2 32 Try.underlying53 hi0 hz0 hz1 hz2 rfl (by decide) _ j (flatK x) rfl hown0 ⟨w2.heap.size, 0, none⟩ 1 1 [.int .i64 s, .slice q2 L c2] rfl rfl (World.news_of_block (cs := #[.int .i64 s, .slice q2 L c2]) (t := 97) (fr := (0, 0)) (heap_alloc_new w2 _)) (by simp [Value.oneCell']) (by unfold maxLen; omega) (by omega) hbA.size ?_)))
      intro v3 w4 hown3 hgrow _
      have hbF := hbA.grown hgrow hbA.size (fun i hi => ownK_ge hown0 hi)
      have hown4 : w4.ownsRow w.heap.size 97 2 v3 (j + 1) (flatK (x ++ [⟨s, q2, c2, ys⟩])) := by rw [flatK_snoc]; unfold bkL; dsimp only; rw [HLL.out]; exact hown3
      have hobF := fun i hi => (HOB.out i hi).grown hown0 hgrow
      have hobN := HOB4.out.grown hown0 hgrow
      have HF := Lib.hid hobF
      have HN := Lib.hid hobN
      clear hown0 hbA hgrow hown3 hi0 hz0 hz1 hz2 hobF hobN
      go_wp2_with fail
      go_roundw
      case rel =>
        refine ⟨j + 1, x ++ [⟨s, q2, c2, ys⟩], by omega, by go_num, by simp [HXL.out], fun i hi => ?_, fun i hi => ?_, HDI.out, hown4, hbF⟩
        · by_cases e : i = j
          · subst e; rw [getD_snoc_eq HXL.out, HMJ.out]; rfl
          · rw [getD_snoc_lt (by rw [HXL.out]; omega)]; exact HD.out i (by omega)
        · by_cases e : i = j
          · subst e; rw [getD_snoc_eq HXL.out]; exact HN.out
          · rw [getD_snoc_lt (by rw [HXL.out]; omega)]; exact HF.out i (by omega)
      case measure => simp [intOf]; omega
    · obtain rfl : j = len := by omega
      have fin : ∃ q cap, u3 = .slice q j cap ∧ IsMem wr q j x ∧ j ≤ cap ∧ (j = 0 ∨ ∃ B, q = some ⟨B, 0, none⟩ ∧ w.heap.size ≤ B ∧ KRow wr B x) := by
        by_cases hv : u3 = .slice none 0 0
        · subst hv
          obtain ⟨_, ⟨_, h1⟩ | ⟨g, cap, cur, he, _⟩⟩ := hown
          · exact ⟨none, 0, by rw [h1], ⟨hl, hxl, fun h => by omega⟩, by omega, Or.inl h1⟩
          · cases he
        · have hown2 : wr.ownsRow w.heap.size 97 2 u3 x.length (flatK x) := by rw [hxl]; exact hown
          obtain ⟨g, cap, hv2, hge, hrow, hcp⟩ := ownK_own hown2 hv
          refine ⟨some ⟨g, 0, none⟩, cap, by rw [hv2, hxl], ⟨hl, hxl, fun _ => ⟨g, 0, rfl, hrow.lt, fun i hi => ?_⟩⟩, by omega, Or.inr ⟨g, rfl, hge, hrow⟩⟩
          have hcc := hrow.cells i (by omega)
          have ho := hob i hi
          rw [Nat.zero_add]
          refine ⟨hcc.1, hcc.2, ?_, ho.1, ho.2.1⟩
          have hys : (x.getD i default).ys.length ≤ 1000 := by
            obtain ⟨b, off, rfl, hbb, hcells⟩ := hc (by omega)
            have h1 := (hcells i hi).2.2.1.1
            rw [show (x.getD i default).ys = (m.getD i default).ys from congrArg Prod.snd (hdat i hi)]
            exact h1
          rcases Nat.eq_zero_or_pos (x.getD i default).ys.length with h0 | h0
          · exact ⟨hys, rfl, fun h => by omega⟩
          · obtain ⟨g2, hq2, _, hr2⟩ := ho.2.2 h0
            rw [hq2]
            exact hr2.isBys rfl hys
      obtain ⟨q3, cap3, rfl, hm3, hcp3, hk3⟩ := fin
      have fin2 : CopyOPost m j w (.returned (.slice q3 j cap3)) wr := ⟨q3, cap3, x, rfl, hm3, datM_ext (by rw [hxl, HLEN.out]) (fun i hi => hdat i (by rw [← HLEN.out]; exact hi)), hcp3, ⟨hob, hdis⟩, hk3, hbr⟩
      clear hm3 hown hob hdis hk3 hdat hbr hc cC
      go_wp2
      go_ret
      exact fin2
end Go.Proofs.Ytnhbaigagphpmaa

/- What spoils bytes, and memory, that are the call's own. -/
namespace Go.Proofs.Ytnhbaigagphpmaa
open Go.ChangeShapes Go.WideShapes Go.ChangeAt Go.RowKit Go.Joins Go.Deep
set_option linter.unusedVariables false

def RelSo (len B : Nat) (w0 : World) (v : Value) (wr : World) : Prop := ∃ (j : Nat) (L : List BY), j ≤ len ∧ v = .int .i64 (j : Nat) ∧ L.length = len ∧ BRow wr B L ∧ Only B w0 wr
set_option maxHeartbeats 1600000 in
theorem spoil_only (B len cap : Nat) (xs : List BY) (w : World) (h : BRow w B xs) (hl : xs.length = len) (hm : len ≤ 1000) :
    Calls Try.prog 50 #[.slice (some ⟨B, 0, none⟩) len cap] w fun e w' => e = .returned (.tuple #[]) ∧ Only B w w' := by
  have HH := Lib.hid h
  have HL := Lib.hid hl
  clear h hl
  go_enter Try.func50, Try.ntmps50
  go_wp2
  go_loopw [2] (fun v wr => RelSo len B w v wr) (fun v _ => len - (intOf v).toNat)
  case atStart => exact ⟨0, xs, by omega, rfl, HL.out, HH.out, Only.refl _ _⟩
  case round =>
    obtain ⟨j, L, hj, rfl, hLl, hrow, hbr⟩ := hrel
    by_cases hlt : j < len
    · have hj3 : (j : Int) < (len : Int) := by omega
      obtain ⟨v0, v1, v2, v3, v4, st, hr2⟩ := hrow.store j (by omega) ⟨-9, 0, 0, 0, 0⟩
      have hb2 := ((((hbr.set (j * 5) (.int .i64 (-9))).set (j * 5 + 1) (.int .i64 0)).set (j * 5 + 2) (.int .i64 0)).set (j * 5 + 3) (.int .i64 0)).set (j * 5 + 4) (.int .i64 0)
      have HR := Lib.hid hr2
      have HL2 := Lib.hid hLl
      dsimp only at *
      clear hr2 hLl hrow hbr
      go_wp2
      go_roundw
      case rel => exact ⟨j + 1, _, by omega, by go_num, by rw [List.length_set]; exact HL2.out, HR.out, hb2⟩
      case measure => simp [intOf]; omega
    · clear hLl
      go_wp2
      go_end0
      exact ⟨rfl, hbr⟩
/-- memory whose blocks from one on are the call's own -/
def RelSm (len B base : Nat) (x : List BK) (w0 : World) (v : Value) (wr : World) : Prop :=
  ∃ j : Nat, j ≤ len ∧ v = .int .i64 (j : Nat) ∧ (∃ cs, At wr B cs 97 ∧ len * 2 ≤ cs.size ∧ ∀ i, j ≤ i → i < len → cs[i * 2 + 1]? = some (.slice (x.getD i default).q (x.getD i default).ys.length (x.getD i default).c) ∧ ∃ u, cs[i * 2]? = some (.int .i64 u)) ∧ (∀ i, j ≤ i → i < len → OwnB wr (B + 1) (x.getD i default).q (x.getD i default).c (x.getD i default).ys) ∧ Below base w0 wr
theorem OwnB.only {w w' : World} {base g : Nat} {q : Option Addr} {c : Nat} {ys : List BY} (h : OwnB w base q c ys) (hb : Only g w w') (hg : 0 < ys.length → blkQ q ≠ g) : OwnB w' base q c ys := by
  obtain ⟨a, b, d⟩ := h
  refine ⟨a, b, fun h0 => ?_⟩
  obtain ⟨g2, rfl, hg2, cs, hA, hr⟩ := d h0
  exact ⟨g2, rfl, hg2, cs, hb.at hA (hg h0), hr⟩
theorem RelSm.step {len B base j : Nat} {x : List BK} {w0 w2 : World} {cs : Array Value} (hA : At w2 B cs 97) (hsz : len * 2 ≤ cs.size) (hcs : ∀ i, j ≤ i → i < len → cs[i * 2 + 1]? = some (.slice (x.getD i default).q (x.getD i default).ys.length (x.getD i default).c) ∧ ∃ u, cs[i * 2]? = some (.int .i64 u))
    (hown : ∀ i, j + 1 ≤ i → i < len → OwnB w2 (B + 1) (x.getD i default).q (x.getD i default).c (x.getD i default).ys) (hb : Below base w0 w2) (hB : base ≤ B) (hlt : j < len) (u v : Value) :
    RelSm len B base x w0 (.int .i64 ((j + 1 : Nat) : Int)) ((w2.setCell ⟨B, j * 2, none⟩ u).setCell ⟨B, j * 2 + 1, none⟩ v) := by
  refine ⟨j + 1, by omega, rfl, ⟨_, At.set (At.set hA (j * 2) u (by omega)) (j * 2 + 1) v (by simp; omega), by simpa using hsz, fun i h1 h2 => ?_⟩, fun i h1 h2 => ?_, ?_⟩
  · rw [Array.set!_eq_setIfInBounds, Array.set!_eq_setIfInBounds]
    simp only [Array.getElem?_setIfInBounds]
    rw [if_neg (by omega), if_neg (by omega), if_neg (by omega), if_neg (by omega)]
    exact hcs i (by omega) h2
  · exact ((hown i h1 h2).setOther (by omega)).setOther (by omega)
  · exact (hb.setCell (p := ⟨B, j * 2, none⟩) hB u).setCell (p := ⟨B, j * 2 + 1, none⟩) hB v
set_option maxRecDepth 100000 in
set_option maxHeartbeats 3200000 in
theorem spoilM_any (B len cap base : Nat) (x : List BK) (w : World) (h : OwnMem w base B x) (hl : x.length = len) (hm : len ≤ 1000) :
    Calls Try.prog 28 #[.slice (some ⟨B, 0, none⟩) len cap] w fun e w' => e = .returned (.tuple #[]) ∧ Below base w w' := by
  obtain ⟨hB, ⟨cs0, hA0, hsz0, hcs0⟩, ⟨hown0, hdis⟩, hle⟩ := h
  have cS := fun g L c ys w h1 h2 h3 => spoil_only g L c ys w h1 h2 h3
  have HD := Lib.hid hdis
  have HLE := Lib.hid hle
  have st : RelSm len B base x w (.int .i64 0) w := ⟨0, by omega, rfl, ⟨cs0, hA0, by omega, fun i _ hi => ⟨(hcs0 i (by omega)).2, _, (hcs0 i (by omega)).1⟩⟩, fun i _ hi => hown0 i (by omega), Below.refl _ _⟩
  have ST := Lib.hid st
  clear hdis hle st hA0 hcs0 hown0 hsz0
  go_enter Try.func28, Try.ntmps28
  go_wp2
  go_loopw [2] (fun v wr => RelSm len B base x w v wr) (fun v _ => len - (intOf v).toNat)
  case atStart => exact ST.out
  case round =>
    obtain ⟨j, hj, rfl, ⟨cs, hA, hsz, hcs⟩, hown, hbr⟩ := hrel
    by_cases hlt : j < len
    · have hj3 : (j : Int) < (len : Int) := by omega
      obtain ⟨k1, u, k0⟩ := hcs j (Nat.le_refl _) hlt
      have hoj := hown j (Nat.le_refl _) hlt
      have hlj := HLE.out j (by omega)
      have c1 : wr.cell? ⟨B, j * 2 + 1, none⟩ = some (.slice (x.getD j default).q (x.getD j default).ys.length (x.getD j default).c) := hA.cell _ k1
      have c0 : wr.cell? ⟨B, j * 2, none⟩ = some (.int .i64 u) := hA.cell _ k0
      rcases Nat.eq_zero_or_pos (x.getD j default).ys.length with h0 | h0
      · rw [h0] at c1
        have hst := RelSm.step hA hsz hcs (fun i h1 h2 => hown i (by omega) h2) hbr hB hlt (.int .i64 (-9)) (.slice none 0 0)
        have f0 := hA.free (j * 2)
        have f1 := hA.free (j * 2 + 1)
        have HST := Lib.hid hst
        have e0 : (wr.setCell ⟨B, j * 2, none⟩ (.int .i64 (-9))).cell? ⟨B, j * 2 + 1, none⟩ = some (.slice (x.getD j default).q 0 (x.getD j default).c) := (At.set hA (j * 2) _ (by omega)).cell _ (by rw [Array.set!_eq_setIfInBounds, Array.getElem?_setIfInBounds, if_neg (by omega), k1, h0])
        have e1 := (At.set hA (j * 2) (.int .i64 (-9)) (by omega)).free (j * 2 + 1)
        generalize (x.getD j default).q = xq at *
        generalize (x.getD j default).c = xc at *
        clear hst hown hcs hA hbr hoj k0 k1 h0
        go_wp2_with fail
        refine (spoil_0 _ _ _).mono ?_
        rintro e w2 ⟨rfl, rfl⟩
        go_wp2_with fail
        go_roundw
        case rel => exact (by have := HST.out; first | exact this | simpa using this)
        case measure => simp [intOf]; omega
      · obtain ⟨g, hq, hgB, hr⟩ := hoj.2.2 h0
        rw [hq] at c1
        have hgg : ∀ i, j + 1 ≤ i → i < len → 0 < (x.getD i default).ys.length → blkQ (x.getD i default).q ≠ g := fun i h1 h2 h3 => by
          have := HD.out j i (by omega) (by omega) h0 h3
          rw [hq] at this
          have h4 : blkQ (some (⟨g, 0, none⟩ : Addr)) = g := rfl
          omega
        have cSj := cS g (x.getD j default).ys.length (x.getD j default).c (x.getD j default).ys wr hr rfl hlj
        generalize (x.getD j default).c = xc at *
        generalize (x.getD j default).ys.length = Ly at *
        have HOWN := Lib.hid hown
        have HCS := Lib.hid hcs
        have HA := Lib.hid hA
        have HBR := Lib.hid hbr
        clear hown hcs hA hbr hoj k0 k1 hr
        go_wp2_with fail
        refine cSj.mono ?_
        rintro e w2 ⟨rfl, hO⟩
        have hA2 := hO.at HA.out (show B ≠ g by omega)
        have hst := RelSm.step hA2 hsz HCS.out (fun i h1 h2 => (HOWN.out i (by omega) h2).only hO (hgg i h1 h2)) (HBR.out.trans (hO.1.mono (by omega))) hB hlt (.int .i64 (-9)) (.slice none 0 0)
        obtain ⟨k1, u2, k0⟩ := HCS.out j (Nat.le_refl _) hlt
        have d0 : w2.cell? ⟨B, j * 2, none⟩ = some (.int .i64 u2) := hA2.cell _ k0
        have d1 := hA2.cell _ k1
        have f0 := hA2.free (j * 2)
        have e1 := (At.set hA2 (j * 2) (.int .i64 (-9)) (by omega)).free (j * 2 + 1)
        have e0 := (At.set hA2 (j * 2) (.int .i64 (-9)) (by omega)).cell (j * 2 + 1) (by rw [Array.set!_eq_setIfInBounds, Array.getElem?_setIfInBounds, if_neg (by omega), k1])
        have HST := Lib.hid hst
        clear hst k0 k1 hgg cSj c0 c1
        go_wp2_with fail
        go_roundw
        case rel => exact (by have := HST.out; first | exact this | simpa using this)
        case measure => simp [intOf]; omega
    · clear hcs hown hA
      go_wp2
      go_end0
      exact ⟨rfl, hbr⟩
end Go.Proofs.Ytnhbaigagphpmaa
