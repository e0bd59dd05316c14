/- The document's parser: a statement's inside. -/
import Derived.Test.YtkhklndmbfbnoaaGreatDoorQBoxR
import Derived.Test.YtkhklndmbfbnoaaGreatDoorTGram2
namespace Go.Proofs.YtkhklndmbfbnoaaGreatDoor
open Go.ChangeShapes Go.WideShapes Go.ChangeAt Go.RowKit Go.Joins Go.Deep
set_option linter.unusedVariables false

set_option maxRecDepth 100000 in
set_option maxHeartbeats 3200000 in
theorem step_read {c : Ctx} {fd : Value} {W : List (Tx × Nat)} {en rb : Nat} {g : Option Nat} {s : RS} {n Bx : Nat} (hBx : Bx ≤ 900) (ex st : RS → Int × RS) (hF : Fng W n ex) (hexb : ∀ s, Inv W s → s.bad ≠ none → ∃ v, ex s = (v, s)) (HQ : ∀ (c : Ctx) s g w, s.bad = none → s.ar ≤ 20 → Dp n s → PdAt c fd W en w rb g Bx s → Calls Tryz.prog 90 #[.pointer (some ⟨rb, 0, none⟩)] w (RQ c fd W en rb g Bx (ex s) w)) (hg : s.bad = none) (hd : Dp n s) (w : World) (h : PdAt c fd W en w rb g Bx s) (hr : wdR W s = [114, 101, 97, 100]) : Calls Tryz.prog 63 #[.pointer (some ⟨rb, 0, none⟩)] w (RQ c fd W en rb g (Bx + 8) (stI W en ex st s) w) := by
  have hne : wdR W s ≠ [] := by rw [hr]; decide
  have q0 : (wdR W s == [114, 101, 97, 100]) = true := by rw [hr]; decide
  have EQ := Lib.hid (show stI W en ex st s = nodeR W ⟨18, [], 0, [(placeR W en ex (passR s)).1]⟩ (needWR W en [59] (placeR W en ex (passR s)).2) from by unfold stI plainStR; rw [if_neg (by rw [hr]; decide), if_neg (by rw [hr]; decide), if_pos hr])
  clear hr
  have X1 : PdX c fd W en rb Bx g w w.heap.size (.int .i64 0) (.string ⟨#[]⟩) (.int .i64 0) (.slice none 0 0) g s (w.alloc (.cells #[.int .i64 0, .string ⟨#[]⟩, .int .i64 0, .slice none 0 0] 83)) := PdX.fresh h (Trn.refl rb g w) h.lt _ _ _ _
  have K1 := Ok.refl h.inv hd
  clear h
  go_enter Tryz.func63, Tryz.ntmps63
  go_wp2_with fail
  refine (rsee_any _ X1.pd).mono ?_
  rintro e w2x ⟨l2, rfl, hl2, _, _, hb⟩
  obtain rfl := hl2 hg
  have X2 := X1.grow hb
  have K2 := K1
  clear hb X1 hl2
  obtain ⟨k, nv, hA, hk, _⟩ := X2.pd.cells
  obtain rfl := hk hg
  have hWl : W.length ≤ 1000000 := by obtain ⟨_, _, _, hl, _⟩ := X2.pd.toks; exact hl
  have hlt0 := wdR_lt hne
  have hk10 : s.k ≤ 1000000 := by omega
  have pc0 : w2x.cell? ⟨rb, 2, none⟩ = some (.int .i64 (s.k : Nat)) := hA.cell 2 rfl
  have pg0 := At.free hA 2
  have X3 : PdX c fd W en rb Bx g w w.heap.size (.int .i64 0) (.string ⟨#[]⟩) (.int .i64 0) (.slice none 0 0) g (passR s) (w2x.setCell ⟨rb, 2, none⟩ (.int .i64 ((s.k : Int) + 1))) := X2.callO (X2.pd.bumpG hg hlt0) ((Onl.refl rb w2x).set 2 _)
  have K3 := K2.pass hne
  clear hA hk hWl
  have pa1 := X3.box.cell 0 rfl
  have pf1 := At.free X3.box 0
  have X4 : PdX c fd W en rb Bx g w w.heap.size (.int .i64 18) (.string ⟨#[]⟩) (.int .i64 0) (.slice none 0 0) g (passR s) ((w2x.setCell ⟨rb, 2, none⟩ (.int .i64 ((s.k : Int) + 1))).setCell ⟨w.heap.size, 0, none⟩ (.int .i64 18)) := X3.put 0 (.int .i64 18) rfl (by decide)
  have K4 := K3
  go_wp2_with fail
  clear pc0 pg0 hk10 hlt0 pa1 pf1
  have hq5 : (passR s).bad = none := hg
  refine (where_first (B := 0) hBx ex hF hexb HQ hq5 K4.2.2.2 _ (X4.pd.anyB (B' := Bx) hq5 (by omega))).mono ?_
  rintro e w5x ⟨g5, v5, rfl, hv5, h, O⟩
  have X5 : PdX c fd W en rb (Bx + 4) g w w.heap.size (.int .i64 18) (.string ⟨#[]⟩) (.int .i64 0) (.slice none 0 0) g5 (placeR W en ex (passR s)).2 w5x := X4.callT h O
  have K5 := place_ok (en := en) hF K4
  clear h O X4
  have hps := ps1_ok (op := 18) (name := ([] : Tx)) (n := 0) v5 X5.pd.lt X5.pd.held
  have X6 : PdX c fd W en rb (Bx + 4) g w w.heap.size (.int .i64 18) (.string ⟨#[]⟩) (.int .i64 0) (.slice none 0 0) g5 (placeR W en ex (passR s)).2 (w5x.alloc (.cells #[.int .i64 v5] 3)) := X5.grow (boxT w5x (.cells #[.int .i64 v5] 3))
  have K6 := K5
  have pa2 := X6.box.cell 3 rfl
  have pf2 := At.free X6.box 3
  have X7 : PdX c fd W en rb (Bx + 4) g w w.heap.size (.int .i64 18) (.string ⟨#[]⟩) (.int .i64 0) (.slice (some ⟨w5x.heap.size, 0, none⟩) 1 1) g5 (placeR W en ex (passR s)).2 ((w5x.alloc (.cells #[.int .i64 v5] 3)).setCell ⟨w.heap.size, 3, none⟩ (.slice (some ⟨w5x.heap.size, 0, none⟩) 1 1)) := X6.put 3 (.slice (some ⟨w5x.heap.size, 0, none⟩) 1 1) rfl (by decide)
  have K7 := K6
  replace hps := hps.keep fun b cs hb => ((Onl.refl (w.heap.size) (w5x.alloc (.cells #[.int .i64 v5] 3))).set 3 (.slice (some ⟨w5x.heap.size, 0, none⟩) 1 1)).at hb (at_other hb X6.box (by decide))
  go_wp2_with fail
  clear pa2 pf2
  refine (rtakes_any ⟨#[59]⟩ (by decide) _ X7.pd).mono ?_
  rintro e w8x ⟨rfl, h, O⟩
  replace hps := hps.keep fun b cs hb => O.at hb (X7.pd.off hb).1
  have X8 : PdX c fd W en rb (Bx + 4) g w w.heap.size (.int .i64 18) (.string ⟨#[]⟩) (.int .i64 0) (.slice (some ⟨w5x.heap.size, 0, none⟩) 1 1) g5 (needWR W en [59] (placeR W en ex (passR s)).2) w8x := X7.callO h O
  have K8 := K7.needW (en := en) (x := [59]) (by decide)
  clear h O X7
  by_cases hb : (needWR W en [59] (placeR W en ex (passR s)).2).bad = none
  · have hy0 := needR_good (p := fun y => y == [59]) hb
    obtain rfl := hv5 hy0
    have e0 := X8.box.cell 0 rfl
    have e1 := X8.box.cell 1 rfl
    have e2 := X8.box.cell 2 rfl
    have e3 := X8.box.cell 3 rfl
    have c6 : w8x.cell? ⟨rb, 6, none⟩ = some (.int .i64 0) := by have := X8.pd.err; rw [hb] at this; exact this
    go_wp2_with fail
    clear c6 e0 e1 e2 e3
    refine (radd_any ⟨⟨18, [], 0, [(placeR W en ex (passR s)).1]⟩, _, _⟩ _ X8.pd hps hb (K8.room hb)).mono ?_
    rintro e w9 ⟨g9, v9, rfl, hv9, h9, T9⟩
    go_wp2_with fail
    go_ret
    rw [EQ.out]
    exact ⟨g9, v9, rfl, hv9, h9.more (by omega) (by omega), X8.trn.trans T9⟩
  · have c6 := X8.pd.err
    have q6 := bad_err2 X8.pd.inv hb
    have q7 := bad_err X8.pd.inv hb
    generalize ((needWR W en [59] (placeR W en ex (passR s)).2).bad.getD (0, 0)).2 = er at c6 q6 q7
    go_wp2_with fail
    clear c6 q6 q7
    go_ret
    rw [show stI W en ex st s = (0, (needWR W en [59] (placeR W en ex (passR s)).2)) from EQ.out.trans (nodeR_bad _ hb)]
    exact ⟨g5, 0, rfl, fun h => absurd h hb, X8.pd.more (by omega) (by omega), X8.trn⟩
set_option maxRecDepth 100000 in
set_option maxHeartbeats 3200000 in
theorem step_free {c : Ctx} {fd : Value} {W : List (Tx × Nat)} {en rb : Nat} {g : Option Nat} {s : RS} {n Bx : Nat} (hBx : Bx ≤ 900) (ex st : RS → Int × RS) (hF : Fng W n ex) (hexb : ∀ s, Inv W s → s.bad ≠ none → ∃ v, ex s = (v, s)) (HQ : ∀ (c : Ctx) s g w, s.bad = none → s.ar ≤ 20 → Dp n s → PdAt c fd W en w rb g Bx s → Calls Tryz.prog 90 #[.pointer (some ⟨rb, 0, none⟩)] w (RQ c fd W en rb g Bx (ex s) w)) (hg : s.bad = none) (hd : Dp n s) (w : World) (h : PdAt c fd W en w rb g Bx s) (hr : wdR W s = [102, 114, 101, 101]) : Calls Tryz.prog 63 #[.pointer (some ⟨rb, 0, none⟩)] w (RQ c fd W en rb g (Bx + 8) (stI W en ex st s) w) := by
  have hne : wdR W s ≠ [] := by rw [hr]; decide
  have q0 : (wdR W s == [114, 101, 97, 100]) = false := by rw [hr]; decide
  have q1 : (wdR W s == [110, 101, 119]) = false := by rw [hr]; decide
  have q2 : (wdR W s == [102, 114, 101, 101]) = true := by rw [hr]; decide
  have EQ := Lib.hid (show stI W en ex st s = nodeR W ⟨20, [], 0, [(ex (passR s)).1]⟩ (needWR W en [59] (ex (passR s)).2) from by unfold stI plainStR; rw [if_neg (by rw [hr]; decide), if_neg (by rw [hr]; decide), if_neg (by rw [hr]; decide), if_neg (by rw [hr]; decide), if_pos hr])
  clear hr
  have X1 : PdX c fd W en rb Bx g w w.heap.size (.int .i64 0) (.string ⟨#[]⟩) (.int .i64 0) (.slice none 0 0) g s (w.alloc (.cells #[.int .i64 0, .string ⟨#[]⟩, .int .i64 0, .slice none 0 0] 83)) := PdX.fresh h (Trn.refl rb g w) h.lt _ _ _ _
  have K1 := Ok.refl h.inv hd
  clear h
  go_enter Tryz.func63, Tryz.ntmps63
  go_wp2_with fail
  refine (rsee_any _ X1.pd).mono ?_
  rintro e w2x ⟨l2, rfl, hl2, _, _, hb⟩
  obtain rfl := hl2 hg
  have X2 := X1.grow hb
  have K2 := K1
  clear hb X1 hl2
  obtain ⟨k, nv, hA, hk, _⟩ := X2.pd.cells
  obtain rfl := hk hg
  have hWl : W.length ≤ 1000000 := by obtain ⟨_, _, _, hl, _⟩ := X2.pd.toks; exact hl
  have hlt0 := wdR_lt hne
  have hk10 : s.k ≤ 1000000 := by omega
  have pc0 : w2x.cell? ⟨rb, 2, none⟩ = some (.int .i64 (s.k : Nat)) := hA.cell 2 rfl
  have pg0 := At.free hA 2
  have X3 : PdX c fd W en rb Bx g w w.heap.size (.int .i64 0) (.string ⟨#[]⟩) (.int .i64 0) (.slice none 0 0) g (passR s) (w2x.setCell ⟨rb, 2, none⟩ (.int .i64 ((s.k : Int) + 1))) := X2.callO (X2.pd.bumpG hg hlt0) ((Onl.refl rb w2x).set 2 _)
  have K3 := K2.pass hne
  clear hA hk hWl
  have pa1 := X3.box.cell 0 rfl
  have pf1 := At.free X3.box 0
  have X4 : PdX c fd W en rb Bx g w w.heap.size (.int .i64 20) (.string ⟨#[]⟩) (.int .i64 0) (.slice none 0 0) g (passR s) ((w2x.setCell ⟨rb, 2, none⟩ (.int .i64 ((s.k : Int) + 1))).setCell ⟨w.heap.size, 0, none⟩ (.int .i64 20)) := X3.put 0 (.int .i64 20) rfl (by decide)
  have K4 := K3
  go_wp2_with fail
  clear pc0 pg0 hk10 hlt0 pa1 pf1
  have hq5 : (passR s).bad = none := hg
  refine (HQ c (passR s) g _ hq5 (K4.2.2.2 hq5).2 K4.2.2.2 (X4.pd.anyB (B' := Bx) hq5 (by omega))).mono ?_
  rintro e w5x ⟨g5, v5, rfl, hv5, h, O⟩
  have X5 : PdX c fd W en rb Bx g w w.heap.size (.int .i64 20) (.string ⟨#[]⟩) (.int .i64 0) (.slice none 0 0) g5 (ex (passR s)).2 w5x := X4.callT h O
  have K5 := K4.fn hF
  clear h O X4
  have hps := ps1_ok (op := 20) (name := ([] : Tx)) (n := 0) v5 X5.pd.lt X5.pd.held
  have X6 : PdX c fd W en rb Bx g w w.heap.size (.int .i64 20) (.string ⟨#[]⟩) (.int .i64 0) (.slice none 0 0) g5 (ex (passR s)).2 (w5x.alloc (.cells #[.int .i64 v5] 3)) := X5.grow (boxT w5x (.cells #[.int .i64 v5] 3))
  have K6 := K5
  have pa2 := X6.box.cell 3 rfl
  have pf2 := At.free X6.box 3
  have X7 : PdX c fd W en rb Bx g w w.heap.size (.int .i64 20) (.string ⟨#[]⟩) (.int .i64 0) (.slice (some ⟨w5x.heap.size, 0, none⟩) 1 1) g5 (ex (passR s)).2 ((w5x.alloc (.cells #[.int .i64 v5] 3)).setCell ⟨w.heap.size, 3, none⟩ (.slice (some ⟨w5x.heap.size, 0, none⟩) 1 1)) := X6.put 3 (.slice (some ⟨w5x.heap.size, 0, none⟩) 1 1) rfl (by decide)
  have K7 := K6
  replace hps := hps.keep fun b cs hb => ((Onl.refl (w.heap.size) (w5x.alloc (.cells #[.int .i64 v5] 3))).set 3 (.slice (some ⟨w5x.heap.size, 0, none⟩) 1 1)).at hb (at_other hb X6.box (by decide))
  go_wp2_with fail
  clear pa2 pf2
  refine (rtakes_any ⟨#[59]⟩ (by decide) _ X7.pd).mono ?_
  rintro e w8x ⟨rfl, h, O⟩
  replace hps := hps.keep fun b cs hb => O.at hb (X7.pd.off hb).1
  have X8 : PdX c fd W en rb Bx g w w.heap.size (.int .i64 20) (.string ⟨#[]⟩) (.int .i64 0) (.slice (some ⟨w5x.heap.size, 0, none⟩) 1 1) g5 (needWR W en [59] (ex (passR s)).2) w8x := X7.callO h O
  have K8 := K7.needW (en := en) (x := [59]) (by decide)
  clear h O X7
  by_cases hb : (needWR W en [59] (ex (passR s)).2).bad = none
  · have hy0 := needR_good (p := fun y => y == [59]) hb
    obtain rfl := hv5 hy0
    have e0 := X8.box.cell 0 rfl
    have e1 := X8.box.cell 1 rfl
    have e2 := X8.box.cell 2 rfl
    have e3 := X8.box.cell 3 rfl
    have c6 : w8x.cell? ⟨rb, 6, none⟩ = some (.int .i64 0) := by have := X8.pd.err; rw [hb] at this; exact this
    go_wp2_with fail
    clear c6 e0 e1 e2 e3
    refine (radd_any ⟨⟨20, [], 0, [(ex (passR s)).1]⟩, _, _⟩ _ X8.pd hps hb (K8.room hb)).mono ?_
    rintro e w9 ⟨g9, v9, rfl, hv9, h9, T9⟩
    go_wp2_with fail
    go_ret
    rw [EQ.out]
    exact ⟨g9, v9, rfl, hv9, h9.more (by omega) (by omega), X8.trn.trans T9⟩
  · have c6 := X8.pd.err
    have q6 := bad_err2 X8.pd.inv hb
    have q7 := bad_err X8.pd.inv hb
    generalize ((needWR W en [59] (ex (passR s)).2).bad.getD (0, 0)).2 = er at c6 q6 q7
    go_wp2_with fail
    clear c6 q6 q7
    go_ret
    rw [show stI W en ex st s = (0, (needWR W en [59] (ex (passR s)).2)) from EQ.out.trans (nodeR_bad _ hb)]
    exact ⟨g5, 0, rfl, fun h => absurd h hb, X8.pd.more (by omega) (by omega), X8.trn⟩
set_option maxRecDepth 100000 in
set_option maxHeartbeats 3200000 in
theorem step_stop {c : Ctx} {fd : Value} {W : List (Tx × Nat)} {en rb : Nat} {g : Option Nat} {s : RS} {n Bx : Nat} (hBx : Bx ≤ 900) (ex st : RS → Int × RS) (hF : Fng W n ex) (hexb : ∀ s, Inv W s → s.bad ≠ none → ∃ v, ex s = (v, s)) (HQ : ∀ (c : Ctx) s g w, s.bad = none → s.ar ≤ 20 → Dp n s → PdAt c fd W en w rb g Bx s → Calls Tryz.prog 90 #[.pointer (some ⟨rb, 0, none⟩)] w (RQ c fd W en rb g Bx (ex s) w)) (hg : s.bad = none) (hd : Dp n s) (w : World) (h : PdAt c fd W en w rb g Bx s) (hr : wdR W s = [115, 116, 111, 112]) : Calls Tryz.prog 63 #[.pointer (some ⟨rb, 0, none⟩)] w (RQ c fd W en rb g (Bx + 8) (stI W en ex st s) w) := by
  have hne : wdR W s ≠ [] := by rw [hr]; decide
  have q0 : (wdR W s == [114, 101, 97, 100]) = false := by rw [hr]; decide
  have q1 : (wdR W s == [110, 101, 119]) = false := by rw [hr]; decide
  have q2 : (wdR W s == [102, 114, 101, 101]) = false := by rw [hr]; decide
  have q3 : (wdR W s == [115, 116, 111, 112]) = true := by rw [hr]; decide
  have EQ := Lib.hid (show stI W en ex st s = nodeR W ⟨23, [], 0, []⟩ (needWR W en [59] (passR s)) from by unfold stI plainStR; rw [if_neg (by rw [hr]; decide), if_neg (by rw [hr]; decide), if_neg (by rw [hr]; decide), if_neg (by rw [hr]; decide), if_neg (by rw [hr]; decide), if_pos hr])
  clear hr
  have X1 : PdX c fd W en rb Bx g w w.heap.size (.int .i64 0) (.string ⟨#[]⟩) (.int .i64 0) (.slice none 0 0) g s (w.alloc (.cells #[.int .i64 0, .string ⟨#[]⟩, .int .i64 0, .slice none 0 0] 83)) := PdX.fresh h (Trn.refl rb g w) h.lt _ _ _ _
  have K1 := Ok.refl h.inv hd
  clear h
  go_enter Tryz.func63, Tryz.ntmps63
  go_wp2_with fail
  refine (rsee_any _ X1.pd).mono ?_
  rintro e w2x ⟨l2, rfl, hl2, _, _, hb⟩
  obtain rfl := hl2 hg
  have X2 := X1.grow hb
  have K2 := K1
  clear hb X1 hl2
  obtain ⟨k, nv, hA, hk, _⟩ := X2.pd.cells
  obtain rfl := hk hg
  have hWl : W.length ≤ 1000000 := by obtain ⟨_, _, _, hl, _⟩ := X2.pd.toks; exact hl
  have hlt0 := wdR_lt hne
  have hk10 : s.k ≤ 1000000 := by omega
  have pc0 : w2x.cell? ⟨rb, 2, none⟩ = some (.int .i64 (s.k : Nat)) := hA.cell 2 rfl
  have pg0 := At.free hA 2
  have X3 : PdX c fd W en rb Bx g w w.heap.size (.int .i64 0) (.string ⟨#[]⟩) (.int .i64 0) (.slice none 0 0) g (passR s) (w2x.setCell ⟨rb, 2, none⟩ (.int .i64 ((s.k : Int) + 1))) := X2.callO (X2.pd.bumpG hg hlt0) ((Onl.refl rb w2x).set 2 _)
  have K3 := K2.pass hne
  clear hA hk hWl
  have pa1 := X3.box.cell 0 rfl
  have pf1 := At.free X3.box 0
  have X4 : PdX c fd W en rb Bx g w w.heap.size (.int .i64 23) (.string ⟨#[]⟩) (.int .i64 0) (.slice none 0 0) g (passR s) ((w2x.setCell ⟨rb, 2, none⟩ (.int .i64 ((s.k : Int) + 1))).setCell ⟨w.heap.size, 0, none⟩ (.int .i64 23)) := X3.put 0 (.int .i64 23) rfl (by decide)
  have K4 := K3
  go_wp2_with fail
  clear pc0 pg0 hk10 hlt0 pa1 pf1
  refine (rtakes_any ⟨#[59]⟩ (by decide) _ X4.pd).mono ?_
  rintro e w5x ⟨rfl, h, O⟩
  have X5 : PdX c fd W en rb Bx g w w.heap.size (.int .i64 23) (.string ⟨#[]⟩) (.int .i64 0) (.slice none 0 0) g (needWR W en [59] (passR s)) w5x := X4.callO h O
  have K5 := K4.needW (en := en) (x := [59]) (by decide)
  clear h O X4
  by_cases hb : (needWR W en [59] (passR s)).bad = none
  · have e0 := X5.box.cell 0 rfl
    have e1 := X5.box.cell 1 rfl
    have e2 := X5.box.cell 2 rfl
    have e3 := X5.box.cell 3 rfl
    have hps : PsOK c.F w5x (rb + 1) ⟨⟨23, [], 0, []⟩, none, 0⟩ := Or.inl ⟨rfl, rfl, rfl⟩
    have c6 : w5x.cell? ⟨rb, 6, none⟩ = some (.int .i64 0) := by have := X5.pd.err; rw [hb] at this; exact this
    go_wp2_with fail
    clear c6 e0 e1 e2 e3
    refine (radd_any ⟨⟨23, [], 0, []⟩, _, _⟩ _ X5.pd hps hb (K5.room hb)).mono ?_
    rintro e w9 ⟨g9, v9, rfl, hv9, h9, T9⟩
    go_wp2_with fail
    go_ret
    rw [EQ.out]
    exact ⟨g9, v9, rfl, hv9, h9.more (by omega) (by omega), X5.trn.trans T9⟩
  · have c6 := X5.pd.err
    have q6 := bad_err2 X5.pd.inv hb
    have q7 := bad_err X5.pd.inv hb
    generalize ((needWR W en [59] (passR s)).bad.getD (0, 0)).2 = er at c6 q6 q7
    go_wp2_with fail
    clear c6 q6 q7
    go_ret
    rw [show stI W en ex st s = (0, (needWR W en [59] (passR s))) from EQ.out.trans (nodeR_bad _ hb)]
    exact ⟨g, 0, rfl, fun h => absurd h hb, X5.pd.more (by omega) (by omega), X5.trn⟩
end Go.Proofs.YtkhklndmbfbnoaaGreatDoor

/- The document's parser: new, an assignment. -/
namespace Go.Proofs.YtkhklndmbfbnoaaGreatDoor
open Go.ChangeShapes Go.WideShapes Go.ChangeAt Go.RowKit Go.Joins Go.Deep
set_option linter.unusedVariables false

set_option maxRecDepth 100000 in
set_option maxHeartbeats 3200000 in
theorem step_set {c : Ctx} {fd : Value} {W : List (Tx × Nat)} {en rb : Nat} {g : Option Nat} {s : RS} {n Bx : Nat} (hBx : Bx ≤ 900) (ex st : RS → Int × RS) (hF : Fng W n ex) (hexb : ∀ s, Inv W s → s.bad ≠ none → ∃ v, ex s = (v, s)) (HQ : ∀ (c : Ctx) s g w, s.bad = none → s.ar ≤ 20 → Dp n s → PdAt c fd W en w rb g Bx s → Calls Tryz.prog 90 #[.pointer (some ⟨rb, 0, none⟩)] w (RQ c fd W en rb g Bx (ex s) w)) (hg : s.bad = none) (hd : Dp n s) (w : World) (h : PdAt c fd W en w rb g Bx s) (n0 : ¬ wdR W s = [114, 101, 97, 100]) (n1 : ¬ wdR W s = [110, 101, 119]) (n2 : ¬ wdR W s = [102, 114, 101, 101]) (n3 : ¬ wdR W s = [115, 116, 111, 112]) (n4 : ¬ wdR W s = [105, 102]) (n5 : ¬ wdR W s = [119, 104, 105, 108, 101]) : Calls Tryz.prog 63 #[.pointer (some ⟨rb, 0, none⟩)] w (RQ c fd W en rb g (Bx + 8) (stI W en ex st s) w) := by
  have q0 := wq_no n0
  have q1 := wq_no n1
  have q2 := wq_no n2
  have q3 := wq_no n3
  have q4 := wq_no n4
  have q5 := wq_no n5
  have EQ := Lib.hid (show stI W en ex st s = nodeR W ⟨17, [], 0, [(placeR W en ex s).1, (ex (needWR W en [61] (placeR W en ex s).2)).1]⟩ (needWR W en [59] (ex (needWR W en [61] (placeR W en ex s).2)).2) from by unfold stI plainStR; rw [if_neg n4, if_neg n5, if_neg n0, if_neg n1, if_neg n2, if_neg n3])
  clear n0 n1 n2 n3 n4 n5
  have X1 : PdX c fd W en rb Bx g w w.heap.size (.int .i64 0) (.string ⟨#[]⟩) (.int .i64 0) (.slice none 0 0) g s (w.alloc (.cells #[.int .i64 0, .string ⟨#[]⟩, .int .i64 0, .slice none 0 0] 83)) := PdX.fresh h (Trn.refl rb g w) h.lt _ _ _ _
  have K1 := Ok.refl h.inv hd
  clear h
  go_enter Tryz.func63, Tryz.ntmps63
  go_wp2_with fail
  refine (rsee_any _ X1.pd).mono ?_
  rintro e w2x ⟨l2, rfl, hl2, _, _, hb⟩
  obtain rfl := hl2 hg
  have X2 := X1.grow hb
  have K2 := K1
  clear hb X1 hl2
  have pa0 := X2.box.cell 0 rfl
  have pf0 := At.free X2.box 0
  have X3 : PdX c fd W en rb Bx g w w.heap.size (.int .i64 17) (.string ⟨#[]⟩) (.int .i64 0) (.slice none 0 0) g s (w2x.setCell ⟨w.heap.size, 0, none⟩ (.int .i64 17)) := X2.put 0 (.int .i64 17) rfl (by decide)
  have K3 := K2
  go_wp2_with fail
  clear pa0 pf0
  have hq4 : s.bad = none := hg
  refine (where_first (B := 0) hBx ex hF hexb HQ hq4 K3.2.2.2 _ (X3.pd.anyB (B' := Bx) hq4 (by omega))).mono ?_
  rintro e w4x ⟨g4, v4, rfl, hv4, h, O⟩
  have X4 : PdX c fd W en rb (Bx + 4) g w w.heap.size (.int .i64 17) (.string ⟨#[]⟩) (.int .i64 0) (.slice none 0 0) g4 (placeR W en ex s).2 w4x := X3.callT h O
  have K4 := place_ok (en := en) hF K3
  clear h O X3
  go_wp2_with fail
  refine (rtakes_any ⟨#[61]⟩ (by decide) _ X4.pd).mono ?_
  rintro e w5x ⟨rfl, h, O⟩
  have X5 : PdX c fd W en rb (Bx + 4) g w w.heap.size (.int .i64 17) (.string ⟨#[]⟩) (.int .i64 0) (.slice none 0 0) g4 (needWR W en [61] (placeR W en ex s).2) w5x := X4.callO h O
  have K5 := K4.needW (en := en) (x := [61]) (by decide)
  clear h O X4
  by_cases hb : (needWR W en [61] (placeR W en ex s).2).bad = none
  · have c6 : w5x.cell? ⟨rb, 6, none⟩ = some (.int .i64 0) := by have := X5.pd.err; rw [hb] at this; exact this
    go_wp2_with fail
    clear c6
    have hq6 : (needWR W en [61] (placeR W en ex s).2).bad = none := hb
    refine (HQ c (needWR W en [61] (placeR W en ex s).2) g4 _ hq6 (K5.2.2.2 hq6).2 K5.2.2.2 (X5.pd.anyB (B' := Bx) hq6 (by omega))).mono ?_
    rintro e w6x ⟨g6, v6, rfl, hv6, h, O⟩
    have X6 : PdX c fd W en rb Bx g w w.heap.size (.int .i64 17) (.string ⟨#[]⟩) (.int .i64 0) (.slice none 0 0) g6 (ex (needWR W en [61] (placeR W en ex s).2)).2 w6x := X5.callT h O
    have K6 := K5.fn hF
    clear h O X5
    go_wp2_with fail
    refine (rtakes_any ⟨#[59]⟩ (by decide) _ X6.pd).mono ?_
    rintro e w7x ⟨rfl, h, O⟩
    have X7 : PdX c fd W en rb Bx g w w.heap.size (.int .i64 17) (.string ⟨#[]⟩) (.int .i64 0) (.slice none 0 0) g6 (needWR W en [59] (ex (needWR W en [61] (placeR W en ex s).2)).2) w7x := X6.callO h O
    have K7 := K6.needW (en := en) (x := [59]) (by decide)
    clear h O X6
    have hps := ps2_ok (op := 17) (name := ([] : Tx)) (n := 0) v4 v6 X7.pd.lt X7.pd.held
    have X8 : PdX c fd W en rb Bx g w w.heap.size (.int .i64 17) (.string ⟨#[]⟩) (.int .i64 0) (.slice none 0 0) g6 (needWR W en [59] (ex (needWR W en [61] (placeR W en ex s).2)).2) (w7x.alloc (.cells #[.int .i64 v4, .int .i64 v6] 3)) := X7.grow (boxT w7x (.cells #[.int .i64 v4, .int .i64 v6] 3))
    have K8 := K7
    have pa1 := X8.box.cell 3 rfl
    have pf1 := At.free X8.box 3
    have X9 : PdX c fd W en rb Bx g w w.heap.size (.int .i64 17) (.string ⟨#[]⟩) (.int .i64 0) (.slice (some ⟨w7x.heap.size, 0, none⟩) 2 2) g6 (needWR W en [59] (ex (needWR W en [61] (placeR W en ex s).2)).2) ((w7x.alloc (.cells #[.int .i64 v4, .int .i64 v6] 3)).setCell ⟨w.heap.size, 3, none⟩ (.slice (some ⟨w7x.heap.size, 0, none⟩) 2 2)) := X8.put 3 (.slice (some ⟨w7x.heap.size, 0, none⟩) 2 2) rfl (by decide)
    have K9 := K8
    replace hps := hps.keep fun b cs hb => ((Onl.refl (w.heap.size) (w7x.alloc (.cells #[.int .i64 v4, .int .i64 v6] 3))).set 3 (.slice (some ⟨w7x.heap.size, 0, none⟩) 2 2)).at hb (at_other hb X8.box (by decide))
    by_cases hb2 : (needWR W en [59] (ex (needWR W en [61] (placeR W en ex s).2)).2).bad = none
    · have hy1 := needR_good (p := fun y => y == [59]) hb2
      have hy0 := needR_good (p := fun y => y == [61]) hb
      obtain rfl := hv4 hy0
      obtain rfl := hv6 hy1
      have e0 := X9.box.cell 0 rfl
      have e1 := X9.box.cell 1 rfl
      have e2 := X9.box.cell 2 rfl
      have e3 := X9.box.cell 3 rfl
      have c6 : ((w7x.alloc (.cells #[.int .i64 (placeR W en ex s).1, .int .i64 (ex (needWR W en [61] (placeR W en ex s).2)).1] 3)).setCell ⟨w.heap.size, 3, none⟩ (.slice (some ⟨w7x.heap.size, 0, none⟩) 2 2)).cell? ⟨rb, 6, none⟩ = some (.int .i64 0) := by have := X9.pd.err; rw [hb2] at this; exact this
      go_wp2_with fail
      clear pa1 pf1 c6 e0 e1 e2 e3
      refine (radd_any ⟨⟨17, [], 0, [(placeR W en ex s).1, (ex (needWR W en [61] (placeR W en ex s).2)).1]⟩, _, _⟩ _ X9.pd hps hb2 (K9.room hb2)).mono ?_
      rintro e w9 ⟨g9, v9, rfl, hv9, h9, T9⟩
      go_wp2_with fail
      go_ret
      rw [EQ.out]
      exact ⟨g9, v9, rfl, hv9, h9.more (by omega) (by omega), X9.trn.trans T9⟩
    · have c6 := X9.pd.err
      have q6 := bad_err2 X9.pd.inv hb2
      have q7 := bad_err X9.pd.inv hb2
      generalize ((needWR W en [59] (ex (needWR W en [61] (placeR W en ex s).2)).2).bad.getD (0, 0)).2 = er at c6 q6 q7
      go_wp2_with fail
      clear pa1 pf1 c6 q6 q7
      go_ret
      rw [show stI W en ex st s = (0, (needWR W en [59] (ex (needWR W en [61] (placeR W en ex s).2)).2)) from EQ.out.trans (nodeR_bad _ hb2)]
      exact ⟨g6, 0, rfl, fun h => absurd h hb2, X9.pd.more (by omega) (by omega), X9.trn⟩
  · have hiv := X5.pd.inv
    obtain ⟨vx, hvx⟩ := hexb _ hiv hb
    have e9 := EQ.out
    rw [hvx] at e9
    dsimp only at e9
    rw [needW_bad (by decide) hiv hb, nodeR_bad _ hb] at e9
    have c6 := X5.pd.err
    have q6 := bad_err2 X5.pd.inv hb
    have q7 := bad_err X5.pd.inv hb
    generalize ((needWR W en [61] (placeR W en ex s).2).bad.getD (0, 0)).2 = er at c6 q6 q7
    go_wp2_with fail
    clear c6 q6 q7
    refine (rtakes_any ⟨#[59]⟩ (by decide) _ X5.pd).mono ?_
    rintro e w6x ⟨rfl, h, O⟩
    have X6 : PdX c fd W en rb (Bx + 4) g w w.heap.size (.int .i64 17) (.string ⟨#[]⟩) (.int .i64 0) (.slice none 0 0) g4 (needWR W en [59] (needWR W en [61] (placeR W en ex s).2)) w6x := X5.callO h O
    have K6 := K5.needW (en := en) (x := [59]) (by decide)
    clear h O X5
    rw [show needWR W en [59] (needWR W en [61] (placeR W en ex s).2) = (needWR W en [61] (placeR W en ex s).2) from needW_bad (by decide) hiv hb] at X6
    have hps := ps2_ok (op := 17) (name := ([] : Tx)) (n := 0) v4 0 X6.pd.lt X6.pd.held
    have X7 : PdX c fd W en rb (Bx + 4) g w w.heap.size (.int .i64 17) (.string ⟨#[]⟩) (.int .i64 0) (.slice none 0 0) g4 (needWR W en [61] (placeR W en ex s).2) (w6x.alloc (.cells #[.int .i64 v4, .int .i64 0] 3)) := X6.grow (boxT w6x (.cells #[.int .i64 v4, .int .i64 0] 3))
    have K7 := K6
    have pa1 := X7.box.cell 3 rfl
    have pf1 := At.free X7.box 3
    have X8 : PdX c fd W en rb (Bx + 4) g w w.heap.size (.int .i64 17) (.string ⟨#[]⟩) (.int .i64 0) (.slice (some ⟨w6x.heap.size, 0, none⟩) 2 2) g4 (needWR W en [61] (placeR W en ex s).2) ((w6x.alloc (.cells #[.int .i64 v4, .int .i64 0] 3)).setCell ⟨w.heap.size, 3, none⟩ (.slice (some ⟨w6x.heap.size, 0, none⟩) 2 2)) := X7.put 3 (.slice (some ⟨w6x.heap.size, 0, none⟩) 2 2) rfl (by decide)
    have K8 := K7
    replace hps := hps.keep fun b cs hb => ((Onl.refl (w.heap.size) (w6x.alloc (.cells #[.int .i64 v4, .int .i64 0] 3))).set 3 (.slice (some ⟨w6x.heap.size, 0, none⟩) 2 2)).at hb (at_other hb X7.box (by decide))
    have c6 := X8.pd.err
    have q6 := bad_err2 X8.pd.inv hb
    have q7 := bad_err X8.pd.inv hb
    generalize ((needWR W en [61] (placeR W en ex s).2).bad.getD (0, 0)).2 = er at c6 q6 q7
    go_wp2_with fail
    clear pa1 pf1 c6 q6 q7
    go_ret
    rw [show stI W en ex st s = (0, (needWR W en [61] (placeR W en ex s).2)) from e9]
    exact ⟨g4, 0, rfl, fun h => absurd h hb, X8.pd.more (by omega) (by omega), X8.trn⟩
set_option maxRecDepth 100000 in
set_option maxHeartbeats 3200000 in
theorem step_new {c : Ctx} {fd : Value} {W : List (Tx × Nat)} {en rb : Nat} {g : Option Nat} {s : RS} {n Bx : Nat} (hBx : Bx ≤ 900) (ex st : RS → Int × RS) (hF : Fng W n ex) (hexb : ∀ s, Inv W s → s.bad ≠ none → ∃ v, ex s = (v, s)) (HQ : ∀ (c : Ctx) s g w, s.bad = none → s.ar ≤ 20 → Dp n s → PdAt c fd W en w rb g Bx s → Calls Tryz.prog 90 #[.pointer (some ⟨rb, 0, none⟩)] w (RQ c fd W en rb g Bx (ex s) w)) (hg : s.bad = none) (hd : Dp n s) (w : World) (h : PdAt c fd W en w rb g Bx s) (hr : wdR W s = [110, 101, 119]) : Calls Tryz.prog 63 #[.pointer (some ⟨rb, 0, none⟩)] w (RQ c fd W en rb g (Bx + 8) (stI W en ex st s) w) := by
  have hne : wdR W s ≠ [] := by rw [hr]; decide
  have q0 : (wdR W s == [114, 101, 97, 100]) = false := by rw [hr]; decide
  have q1 : (wdR W s == [110, 101, 119]) = true := by rw [hr]; decide
  have EQ := Lib.hid (show stI W en ex st s = nodeR W ⟨19, [], (needNR W en (needWR W en [44] (placeR W en ex (passR s)).2)).1, [(placeR W en ex (passR s)).1]⟩ (needWR W en [59] (needNR W en (needWR W en [44] (placeR W en ex (passR s)).2)).2) from by unfold stI plainStR; rw [if_neg (by rw [hr]; decide), if_neg (by rw [hr]; decide), if_neg (by rw [hr]; decide), if_pos hr])
  clear hr
  have X1 : PdX c fd W en rb Bx g w w.heap.size (.int .i64 0) (.string ⟨#[]⟩) (.int .i64 0) (.slice none 0 0) g s (w.alloc (.cells #[.int .i64 0, .string ⟨#[]⟩, .int .i64 0, .slice none 0 0] 83)) := PdX.fresh h (Trn.refl rb g w) h.lt _ _ _ _
  have K1 := Ok.refl h.inv hd
  clear h
  go_enter Tryz.func63, Tryz.ntmps63
  go_wp2_with fail
  refine (rsee_any _ X1.pd).mono ?_
  rintro e w2x ⟨l2, rfl, hl2, _, _, hb⟩
  obtain rfl := hl2 hg
  have X2 := X1.grow hb
  have K2 := K1
  clear hb X1 hl2
  obtain ⟨k, nv, hA, hk, _⟩ := X2.pd.cells
  obtain rfl := hk hg
  have hWl : W.length ≤ 1000000 := by obtain ⟨_, _, _, hl, _⟩ := X2.pd.toks; exact hl
  have hlt0 := wdR_lt hne
  have hk10 : s.k ≤ 1000000 := by omega
  have pc0 : w2x.cell? ⟨rb, 2, none⟩ = some (.int .i64 (s.k : Nat)) := hA.cell 2 rfl
  have pg0 := At.free hA 2
  have X3 : PdX c fd W en rb Bx g w w.heap.size (.int .i64 0) (.string ⟨#[]⟩) (.int .i64 0) (.slice none 0 0) g (passR s) (w2x.setCell ⟨rb, 2, none⟩ (.int .i64 ((s.k : Int) + 1))) := X2.callO (X2.pd.bumpG hg hlt0) ((Onl.refl rb w2x).set 2 _)
  have K3 := K2.pass hne
  clear hA hk hWl
  have pa1 := X3.box.cell 0 rfl
  have pf1 := At.free X3.box 0
  have X4 : PdX c fd W en rb Bx g w w.heap.size (.int .i64 19) (.string ⟨#[]⟩) (.int .i64 0) (.slice none 0 0) g (passR s) ((w2x.setCell ⟨rb, 2, none⟩ (.int .i64 ((s.k : Int) + 1))).setCell ⟨w.heap.size, 0, none⟩ (.int .i64 19)) := X3.put 0 (.int .i64 19) rfl (by decide)
  have K4 := K3
  go_wp2_with fail
  clear pc0 pg0 hk10 hlt0 pa1 pf1
  have hq5 : (passR s).bad = none := hg
  refine (where_first (B := 0) hBx ex hF hexb HQ hq5 K4.2.2.2 _ (X4.pd.anyB (B' := Bx) hq5 (by omega))).mono ?_
  rintro e w5x ⟨g5, v5, rfl, hv5, h, O⟩
  have X5 : PdX c fd W en rb (Bx + 4) g w w.heap.size (.int .i64 19) (.string ⟨#[]⟩) (.int .i64 0) (.slice none 0 0) g5 (placeR W en ex (passR s)).2 w5x := X4.callT h O
  have K5 := place_ok (en := en) hF K4
  clear h O X4
  have hps := ps1_ok (op := 19) (name := ([] : Tx)) (n := 0) v5 X5.pd.lt X5.pd.held
  have X6 : PdX c fd W en rb (Bx + 4) g w w.heap.size (.int .i64 19) (.string ⟨#[]⟩) (.int .i64 0) (.slice none 0 0) g5 (placeR W en ex (passR s)).2 (w5x.alloc (.cells #[.int .i64 v5] 3)) := X5.grow (boxT w5x (.cells #[.int .i64 v5] 3))
  have K6 := K5
  have pa2 := X6.box.cell 3 rfl
  have pf2 := At.free X6.box 3
  have X7 : PdX c fd W en rb (Bx + 4) g w w.heap.size (.int .i64 19) (.string ⟨#[]⟩) (.int .i64 0) (.slice (some ⟨w5x.heap.size, 0, none⟩) 1 1) g5 (placeR W en ex (passR s)).2 ((w5x.alloc (.cells #[.int .i64 v5] 3)).setCell ⟨w.heap.size, 3, none⟩ (.slice (some ⟨w5x.heap.size, 0, none⟩) 1 1)) := X6.put 3 (.slice (some ⟨w5x.heap.size, 0, none⟩) 1 1) rfl (by decide)
  have K7 := K6
  replace hps := hps.keep fun b cs hb => ((Onl.refl (w.heap.size) (w5x.alloc (.cells #[.int .i64 v5] 3))).set 3 (.slice (some ⟨w5x.heap.size, 0, none⟩) 1 1)).at hb (at_other hb X6.box (by decide))
  go_wp2_with fail
  clear pa2 pf2
  refine (rtakes_any ⟨#[44]⟩ (by decide) _ X7.pd).mono ?_
  rintro e w8x ⟨rfl, h, O⟩
  replace hps := hps.keep fun b cs hb => O.at hb (X7.pd.off hb).1
  have X8 : PdX c fd W en rb (Bx + 4) g w w.heap.size (.int .i64 19) (.string ⟨#[]⟩) (.int .i64 0) (.slice (some ⟨w5x.heap.size, 0, none⟩) 1 1) g5 (needWR W en [44] (placeR W en ex (passR s)).2) w8x := X7.callO h O
  have K8 := K7.needW (en := en) (x := [44]) (by decide)
  clear h O X7
  by_cases hb : (needWR W en [44] (placeR W en ex (passR s)).2).bad = none
  · have c6 : w8x.cell? ⟨rb, 6, none⟩ = some (.int .i64 0) := by have := X8.pd.err; rw [hb] at this; exact this
    go_wp2_with fail
    clear c6
    have hps0 := fun w9 (O : Onl rb w8x w9) => hps.keep (w' := w9) fun b cs hb => O.at hb (X8.pd.off hb).1
    refine (rtakesNumber_any (B := (Bx + 4)) (by omega) _ X8.pd).mono ?_
    rintro e w9x ⟨v9, rfl, hv9, h, O⟩
    replace hps := hps0 _ O
    have X9 : PdX c fd W en rb ((Bx + 4) + 1) g w w.heap.size (.int .i64 19) (.string ⟨#[]⟩) (.int .i64 0) (.slice (some ⟨w5x.heap.size, 0, none⟩) 1 1) g5 (needNR W en (needWR W en [44] (placeR W en ex (passR s)).2)).2 w9x := X8.callO h O
    have K9 := K8.need (en := en) (p := numB) (by decide)
    clear h O X8 hps0
    replace hps := hps.keep fun b cs hb => ((Onl.refl (w.heap.size) w9x).set 2 (.int .i64 v9)).at hb (at_other hb X9.box (by decide))
    have pa3 := X9.box.cell 2 rfl
    have pf3 := At.free X9.box 2
    have X10 : PdX c fd W en rb ((Bx + 4) + 1) g w w.heap.size (.int .i64 19) (.string ⟨#[]⟩) (.int .i64 v9) (.slice (some ⟨w5x.heap.size, 0, none⟩) 1 1) g5 (needNR W en (needWR W en [44] (placeR W en ex (passR s)).2)).2 (w9x.setCell ⟨w.heap.size, 2, none⟩ (.int .i64 v9)) := X9.put 2 (.int .i64 v9) rfl (by decide)
    have K10 := K9
    go_wp2_with fail
    clear pa3 pf3
    refine (rtakes_any ⟨#[59]⟩ (by decide) _ X10.pd).mono ?_
    rintro e w11x ⟨rfl, h, O⟩
    replace hps := hps.keep fun b cs hb => O.at hb (X10.pd.off hb).1
    have X11 : PdX c fd W en rb ((Bx + 4) + 1) g w w.heap.size (.int .i64 19) (.string ⟨#[]⟩) (.int .i64 v9) (.slice (some ⟨w5x.heap.size, 0, none⟩) 1 1) g5 (needWR W en [59] (needNR W en (needWR W en [44] (placeR W en ex (passR s)).2)).2) w11x := X10.callO h O
    have K11 := K10.needW (en := en) (x := [59]) (by decide)
    clear h O X10
    by_cases hb2 : (needWR W en [59] (needNR W en (needWR W en [44] (placeR W en ex (passR s)).2)).2).bad = none
    · have hy1 := needR_good (p := fun y => y == [59]) hb2
      have hy0 := needR_good (p := fun y => y == [44]) hb
      obtain rfl := hv5 hy0
      obtain rfl := hv9 hy1
      have hps : PsOK c.F w11x (rb + 1) ⟨⟨19, [], (needNR W en (needWR W en [44] (placeR W en ex (passR s)).2)).1, [(placeR W en ex (passR s)).1]⟩, _, _⟩ := hps
      have e0 := X11.box.cell 0 rfl
      have e1 := X11.box.cell 1 rfl
      have e2 := X11.box.cell 2 rfl
      have e3 := X11.box.cell 3 rfl
      have c6 : w11x.cell? ⟨rb, 6, none⟩ = some (.int .i64 0) := by have := X11.pd.err; rw [hb2] at this; exact this
      go_wp2_with fail
      clear c6 e0 e1 e2 e3
      refine (radd_any ⟨⟨19, [], (needNR W en (needWR W en [44] (placeR W en ex (passR s)).2)).1, [(placeR W en ex (passR s)).1]⟩, _, _⟩ _ X11.pd hps hb2 (K11.room hb2)).mono ?_
      rintro e w9 ⟨g9, v9, rfl, hv9, h9, T9⟩
      go_wp2_with fail
      go_ret
      rw [EQ.out]
      exact ⟨g9, v9, rfl, hv9, h9.more (by omega) (by omega), X11.trn.trans T9⟩
    · have c6 := X11.pd.err
      have q6 := bad_err2 X11.pd.inv hb2
      have q7 := bad_err X11.pd.inv hb2
      generalize ((needWR W en [59] (needNR W en (needWR W en [44] (placeR W en ex (passR s)).2)).2).bad.getD (0, 0)).2 = er at c6 q6 q7
      go_wp2_with fail
      clear c6 q6 q7
      go_ret
      rw [show stI W en ex st s = (0, (needWR W en [59] (needNR W en (needWR W en [44] (placeR W en ex (passR s)).2)).2)) from EQ.out.trans (nodeR_bad _ hb2)]
      exact ⟨g5, 0, rfl, fun h => absurd h hb2, X11.pd.more (by omega) (by omega), X11.trn⟩
  · have hiv := X8.pd.inv
    have e9 := EQ.out
    rw [show (needNR W en (needWR W en [44] (placeR W en ex (passR s)).2)).2 = (needWR W en [44] (placeR W en ex (passR s)).2) from by unfold needNR; rw [needR_bad _ (by decide) hiv hb], needW_bad (by decide) hiv hb, nodeR_bad _ hb] at e9
    have c6 := X8.pd.err
    have q6 := bad_err2 X8.pd.inv hb
    have q7 := bad_err X8.pd.inv hb
    generalize ((needWR W en [44] (placeR W en ex (passR s)).2).bad.getD (0, 0)).2 = er at c6 q6 q7
    go_wp2_with fail
    clear c6 q6 q7
    refine (rtakes_any ⟨#[59]⟩ (by decide) _ X8.pd).mono ?_
    rintro e w9x ⟨rfl, h, O⟩
    have X9 : PdX c fd W en rb (Bx + 4) g w w.heap.size (.int .i64 19) (.string ⟨#[]⟩) (.int .i64 0) (.slice (some ⟨w5x.heap.size, 0, none⟩) 1 1) g5 (needWR W en [59] (needWR W en [44] (placeR W en ex (passR s)).2)) w9x := X8.callO h O
    have K9 := K8.needW (en := en) (x := [59]) (by decide)
    clear h O X8
    rw [show needWR W en [59] (needWR W en [44] (placeR W en ex (passR s)).2) = (needWR W en [44] (placeR W en ex (passR s)).2) from needW_bad (by decide) hiv hb] at X9
    have c6 := X9.pd.err
    have q6 := bad_err2 X9.pd.inv hb
    have q7 := bad_err X9.pd.inv hb
    generalize ((needWR W en [44] (placeR W en ex (passR s)).2).bad.getD (0, 0)).2 = er at c6 q6 q7
    go_wp2_with fail
    clear c6 q6 q7
    go_ret
    rw [show stI W en ex st s = (0, (needWR W en [44] (placeR W en ex (passR s)).2)) from e9]
    exact ⟨g5, 0, rfl, fun h => absurd h hb, X9.pd.more (by omega) (by omega), X9.trn⟩
end Go.Proofs.YtkhklndmbfbnoaaGreatDoor
