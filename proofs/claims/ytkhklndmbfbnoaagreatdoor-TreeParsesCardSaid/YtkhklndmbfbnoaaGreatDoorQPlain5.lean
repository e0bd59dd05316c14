/- The document's parser: a cast. -/
import Derived.Test.YtkhklndmbfbnoaaGreatDoorQPlain
namespace Go.Proofs.YtkhklndmbfbnoaaGreatDoor
open Go.ChangeShapes Go.WideShapes Go.ChangeAt Go.RowKit Go.Joins Go.Deep
set_option linter.unusedVariables false

theorem numK_head {l : Tx} (h : knB l = true) : l ≠ [] ∧ digB (l.headD 0) = false ∧ l ≠ [38] ∧ l ≠ [45] ∧ l ≠ [126] ∧ l ≠ [33] ∧ l ≠ [40] := by
  unfold knB at h
  rw [List.contains_iff_mem] at h
  have : ∀ x ∈ knN, x ≠ [] ∧ digB (x.headD 0) = false ∧ x ≠ [38] ∧ x ≠ [45] ∧ x ≠ [126] ∧ x ≠ [33] ∧ x ≠ [40] := by decide
  exact this l h
set_option maxRecDepth 100000 in
set_option maxHeartbeats 3200000 in
theorem plain_cast {c : Ctx} {fd : Value} {W : List (Tx × Nat)} {en rb : Nat} {g : Option Nat} {s : RS} {n Bx : Nat} (hBx : Bx ≤ 900) (ex : RS → Int × RS) (hF : Fng W n ex) (hexb : ∀ s, Inv W s → s.bad ≠ none → ∃ v, ex s = (v, s)) (HQ : ∀ (c : Ctx) s g w, s.bad = none → s.ar ≤ 20 → Dp n s → PdAt c fd W en w rb g Bx s → Calls Tryz.prog 90 #[.pointer (some ⟨rb, 0, none⟩)] w (RQ c fd W en rb g Bx (ex s) w)) (hg : s.bad = none) (hd : Dp n s) (w : World) (h : PdAt c fd W en w rb g Bx s) (hk : numKB (wdR W s) = true) : Calls Tryz.prog 120 #[.pointer (some ⟨rb, 0, none⟩)] w (RQ c fd W en rb g (Bx + 8) (exprI W en ex s) w) := by
  have cS := rsee_any w h
  unfold SeeP at cS
  have hlt0 := h.lt
  have hls : (wdR W s).length ≤ 100000 := h.short s.k
  obtain ⟨y, hy⟩ : ∃ y : ByteArray, y = ⟨(wdR W s).toArray⟩ := ⟨_, rfl⟩
  have hyl : y.data.toList = wdR W s := by rw [hy]
  have cS1 : Calls Tryz.prog 29 #[.pointer (some ⟨rb, 0, none⟩)] w (fun e w' => e = .returned (.string y) ∧ Below w.heap.size w w') := cS.mono (fun e w' ⟨l, he, hl, _, _, hb⟩ => ⟨by rw [he, hl hg, hy], hb⟩)
  clear cS hy
  have hkn : knB (wdR W s) = true := by unfold numKB at hk; rw [Bool.and_eq_true] at hk; exact hk.1
  have hpt : ¬ (wdR W s) = ptrN := by unfold numKB at hk; rw [Bool.and_eq_true] at hk; simpa using hk.2
  obtain ⟨hne, hd0, n38, n45, n126, n33, n40⟩ := numK_head hkn
  have hp : 0 < y.size := by
    rw [← len_text, hyl]
    cases hw : wdR W s with
    | nil => exact absurd hw hne
    | cons a r => simp
  have hdg : digB y[0] = false := by
    have h1 := head_text hp
    rw [← h1, hyl]
    exact hd0
  have cD := fun w => rDigit_any y[0] w
  rw [hdg] at cD
  have q38 : (y.toList == [38]) = false := by rw [text_eq, hyl, beq_eq_false_iff_ne]; exact n38
  have q45 : (y.toList == [45]) = false := by rw [text_eq, hyl, beq_eq_false_iff_ne]; exact n45
  have q126 : (y.toList == [126]) = false := by rw [text_eq, hyl, beq_eq_false_iff_ne]; exact n126
  have q33 : (y.toList == [33]) = false := by rw [text_eq, hyl, beq_eq_false_iff_ne]; exact n33
  have q40 : (y.toList == [40]) = false := by rw [text_eq, hyl, beq_eq_false_iff_ne]; exact n40
  have hnn : numB (wdR W s) = false := by unfold numB; rw [hd0]; simp
  have EQ := Lib.hid (show exprI W en ex s = calledR W en ex 14 y.data.toList (passR s) from by unfold exprI; rw [hyl, if_neg (by rw [hnn]; decide), if_pos hk])
  have cK : ∀ w, Calls Tryz.prog 86 #[.string y] w (fun e w' => ∃ k : Nat, e = .returned (.int .i64 (k : Nat)) ∧ 0 < k ∧ k ≠ 7 ∧ Below w.heap.size w w') := fun w => (rKindQ_any y w).mono (fun e w' ⟨k, a1, a2, a3, a4, a5, a6⟩ => ⟨k, a2, a3 (by rw [hyl]; exact hkn), fun h => hpt (by rw [← hyl]; exact (a5 (by rw [hyl]; exact hkn)).1 h), a6⟩)
  clear hdg hk hls hyl hkn hpt hd0 n38 n45 n126 n33 n40 hnn
  have HH := Lib.hid (And.intro h (Ok.refl h.inv hd))
  clear h
  go_enter Tryz.func120, Tryz.ntmps120
  go_wp2_with fail
  refine cS1.mono ?_
  rintro e w1 ⟨rfl, hb1⟩
  have K2 := HH.out.2
  have X2 : PdX c fd W en rb Bx g w w1.heap.size (.int .i64 0) (.string ⟨#[]⟩) (.int .i64 0) (.slice none 0 0) g s (w1.alloc (.cells #[.int .i64 0, .string ⟨#[]⟩, .int .i64 0, .slice none 0 0] 83)) := PdX.fresh (HH.out.1.grow hb1) (Trn.of (HH.out.1.onl hb1)) hlt0 _ _ _ _
  clear HH hb1 cS1 hlt0
  go_wp2_with fail
  refine (cD _).mono ?_
  rintro e w3 ⟨rfl, hw3⟩
  subst hw3
  clear cD
  go_wp2_with fail
  refine (cK _).mono ?_
  rintro e w3 ⟨k0, rfl, hk0, _, hb3⟩
  have u0 : (0 : Int) < (k0 : Int) := by omega
  replace X2 := X2.grow hb3
  go_wp2_with fail
  refine (cK _).mono ?_
  rintro e w4 ⟨k7, rfl, _, hk7, hb4⟩
  have u7 : ((k7 : Int) == 7) = false := by rw [beq_eq_false_iff_ne]; omega
  have u8 : ((k7 : Int) != 7) = true := by rw [bne_iff_ne]; omega
  replace X2 := X2.grow hb4
  clear cK hb3 hb4
  obtain ⟨k, nv, hA, hk, _⟩ := X2.pd.cells
  obtain rfl := hk hg
  have hWl : W.length ≤ 1000000 := by obtain ⟨_, _, _, hl, _⟩ := X2.pd.toks; exact hl
  have hlt0 := wdR_lt hne
  have hk10 : s.k ≤ 1000000 := by omega
  have pc0 : w4.cell? ⟨rb, 2, none⟩ = some (.int .i64 (s.k : Nat)) := hA.cell 2 rfl
  have pg0 := At.free hA 2
  have X3 : PdX c fd W en rb Bx g w w1.heap.size (.int .i64 0) (.string ⟨#[]⟩) (.int .i64 0) (.slice none 0 0) g (passR s) (w4.setCell ⟨rb, 2, none⟩ (.int .i64 ((s.k : Int) + 1))) := X2.callO (X2.pd.bumpG hg hlt0) ((Onl.refl rb w4).set 2 _)
  have K3 := K2.pass hne
  clear hA hk hWl
  go_wp2_with fail
  clear pc0 pg0 hk10 hlt0
  refine (rtakes_any ⟨#[40]⟩ (by decide) _ X3.pd).mono ?_
  rintro e w4x ⟨rfl, h, O⟩
  have X4 : PdX c fd W en rb Bx g w w1.heap.size (.int .i64 0) (.string ⟨#[]⟩) (.int .i64 0) (.slice none 0 0) g (needWR W en [40] (passR s)) w4x := X3.callO h O
  have K4 := K3.needW (en := en) (x := [40]) (by decide)
  clear h O X3
  have pa1 := X4.box.cell 0 rfl
  have pf1 := At.free X4.box 0
  have X5 : PdX c fd W en rb Bx g w w1.heap.size (.int .i64 14) (.string ⟨#[]⟩) (.int .i64 0) (.slice none 0 0) g (needWR W en [40] (passR s)) (w4x.setCell ⟨w1.heap.size, 0, none⟩ (.int .i64 14)) := X4.put 0 (.int .i64 14) rfl (by decide)
  have K5 := K4
  have pa2 := X5.box.cell 1 rfl
  have pf2 := At.free X5.box 1
  have X6 : PdX c fd W en rb Bx g w w1.heap.size (.int .i64 14) (.string y) (.int .i64 0) (.slice none 0 0) g (needWR W en [40] (passR s)) ((w4x.setCell ⟨w1.heap.size, 0, none⟩ (.int .i64 14)).setCell ⟨w1.heap.size, 1, none⟩ (.string y)) := X5.put 1 (.string y) rfl (by decide)
  have K6 := K5
  by_cases hb : (needWR W en [40] (passR s)).bad = none
  · have c6 : ((w4x.setCell ⟨w1.heap.size, 0, none⟩ (.int .i64 14)).setCell ⟨w1.heap.size, 1, none⟩ (.string y)).cell? ⟨rb, 6, none⟩ = some (.int .i64 0) := by have := X6.pd.err; rw [hb] at this; exact this
    go_wp2_with fail
    clear pa1 pf1 pa2 pf2 c6
    have hq7 : (needWR W en [40] (passR s)).bad = none := hb
    refine (HQ c (needWR W en [40] (passR s)) g _ hq7 (K6.2.2.2 hq7).2 K6.2.2.2 (X6.pd.anyB (B' := Bx) hq7 (by omega))).mono ?_
    rintro e w7x ⟨g7, v7, rfl, hv7, h, O⟩
    have X7 : PdX c fd W en rb Bx g w w1.heap.size (.int .i64 14) (.string y) (.int .i64 0) (.slice none 0 0) g7 (ex (needWR W en [40] (passR s))).2 w7x := X6.callT h O
    have K7 := K6.fn hF
    clear h O X6
    go_wp2_with fail
    refine (rtakes_any ⟨#[41]⟩ (by decide) _ X7.pd).mono ?_
    rintro e w8x ⟨rfl, h, O⟩
    have X8 : PdX c fd W en rb Bx g w w1.heap.size (.int .i64 14) (.string y) (.int .i64 0) (.slice none 0 0) g7 (needWR W en [41] (ex (needWR W en [40] (passR s))).2) w8x := X7.callO h O
    have K8 := K7.needW (en := en) (x := [41]) (by decide)
    clear h O X7
    have hps := ps1_ok (op := 14) (name := y.data.toList) (n := 0) v7 X8.pd.lt X8.pd.held
    have X9 : PdX c fd W en rb Bx g w w1.heap.size (.int .i64 14) (.string y) (.int .i64 0) (.slice none 0 0) g7 (needWR W en [41] (ex (needWR W en [40] (passR s))).2) (w8x.alloc (.cells #[.int .i64 v7] 3)) := X8.grow (boxT w8x (.cells #[.int .i64 v7] 3))
    have K9 := K8
    have pa3 := X9.box.cell 3 rfl
    have pf3 := At.free X9.box 3
    have X10 : PdX c fd W en rb Bx g w w1.heap.size (.int .i64 14) (.string y) (.int .i64 0) (.slice (some ⟨w8x.heap.size, 0, none⟩) 1 1) g7 (needWR W en [41] (ex (needWR W en [40] (passR s))).2) ((w8x.alloc (.cells #[.int .i64 v7] 3)).setCell ⟨w1.heap.size, 3, none⟩ (.slice (some ⟨w8x.heap.size, 0, none⟩) 1 1)) := X9.put 3 (.slice (some ⟨w8x.heap.size, 0, none⟩) 1 1) rfl (by decide)
    have K10 := K9
    have hps := hps.keep fun b cs hb => ((Onl.refl (w1.heap.size) (w8x.alloc (.cells #[.int .i64 v7] 3))).set 3 (.slice (some ⟨w8x.heap.size, 0, none⟩) 1 1)).at hb (at_other hb X9.box (by decide))
    by_cases hb2 : (needWR W en [41] (ex (needWR W en [40] (passR s))).2).bad = none
    · have hy0 := needR_good (p := fun y => y == [41]) hb2
      obtain rfl := hv7 hy0
      have e0 := X10.box.cell 0 rfl
      have e1 := X10.box.cell 1 rfl
      have e2 := X10.box.cell 2 rfl
      have e3 := X10.box.cell 3 rfl
      have c6 : ((w8x.alloc (.cells #[.int .i64 (ex (needWR W en [40] (passR s))).1] 3)).setCell ⟨w1.heap.size, 3, none⟩ (.slice (some ⟨w8x.heap.size, 0, none⟩) 1 1)).cell? ⟨rb, 6, none⟩ = some (.int .i64 0) := by have := X10.pd.err; rw [hb2] at this; exact this
      go_wp2_with fail
      clear pa3 pf3 c6 e0 e1 e2 e3
      refine (radd_any ⟨⟨14, y.data.toList, 0, [(ex (needWR W en [40] (passR s))).1]⟩, _, _⟩ _ X10.pd hps hb2 (K10.room hb2)).mono ?_
      rintro e w9 ⟨g9, v9, rfl, hv9, h9, T9⟩
      go_wp2_with fail
      go_ret
      rw [EQ.out]
      exact ⟨g9, v9, rfl, hv9, h9.more (by omega) (by omega), X10.trn.trans T9⟩
    · have c6 := X10.pd.err
      have q6 := bad_err2 X10.pd.inv hb2
      have q7 := bad_err X10.pd.inv hb2
      generalize ((needWR W en [41] (ex (needWR W en [40] (passR s))).2).bad.getD (0, 0)).2 = er at c6 q6 q7
      go_wp2_with fail
      clear pa3 pf3 c6 q6 q7
      go_ret
      rw [show exprI W en ex s = (0, (needWR W en [41] (ex (needWR W en [40] (passR s))).2)) from EQ.out.trans (nodeR_bad _ hb2)]
      exact ⟨g7, 0, rfl, fun h => absurd h hb2, X10.pd.more (by omega) (by omega), X10.trn⟩
  · have e9 := EQ.out.trans (called_bad hexb 14 y.data.toList X6.pd.inv hb)
    have hbn : (needR W en (fun y => y == [41]) (needWR W en [40] (passR s))).2 = (needWR W en [40] (passR s)) := by rw [needR_bad _ (by decide) X6.pd.inv hb]
    have c6 := X6.pd.err
    have q6 := bad_err2 X6.pd.inv hb
    have q7 := bad_err X6.pd.inv hb
    generalize ((needWR W en [40] (passR s)).bad.getD (0, 0)).2 = er at c6 q6 q7
    go_wp2_with fail
    clear pa1 pf1 pa2 pf2 c6 q6 q7
    refine (rtakes_any ⟨#[41]⟩ (by decide) _ X6.pd).mono ?_
    rintro e w7x ⟨rfl, h, O⟩
    have X7 : PdX c fd W en rb Bx g w w1.heap.size (.int .i64 14) (.string y) (.int .i64 0) (.slice none 0 0) g (needWR W en [41] (needWR W en [40] (passR s))) w7x := X6.callO h O
    have K7 := K6.needW (en := en) (x := [41]) (by decide)
    clear h O X6
    rw [show needWR W en [41] (needWR W en [40] (passR s)) = (needWR W en [40] (passR s)) from hbn] at X7
    have hps := ps1_ok (op := 14) (name := y.data.toList) (n := 0) 0 X7.pd.lt X7.pd.held
    have X8 : PdX c fd W en rb Bx g w w1.heap.size (.int .i64 14) (.string y) (.int .i64 0) (.slice none 0 0) g (needWR W en [40] (passR s)) (w7x.alloc (.cells #[.int .i64 0] 3)) := X7.grow (boxT w7x (.cells #[.int .i64 0] 3))
    have K8 := K7
    have pa3 := X8.box.cell 3 rfl
    have pf3 := At.free X8.box 3
    have X9 : PdX c fd W en rb Bx g w w1.heap.size (.int .i64 14) (.string y) (.int .i64 0) (.slice (some ⟨w7x.heap.size, 0, none⟩) 1 1) g (needWR W en [40] (passR s)) ((w7x.alloc (.cells #[.int .i64 0] 3)).setCell ⟨w1.heap.size, 3, none⟩ (.slice (some ⟨w7x.heap.size, 0, none⟩) 1 1)) := X8.put 3 (.slice (some ⟨w7x.heap.size, 0, none⟩) 1 1) rfl (by decide)
    have K9 := K8
    have hps := hps.keep fun b cs hb => ((Onl.refl (w1.heap.size) (w7x.alloc (.cells #[.int .i64 0] 3))).set 3 (.slice (some ⟨w7x.heap.size, 0, none⟩) 1 1)).at hb (at_other hb X8.box (by decide))
    have c6 := X9.pd.err
    have q6 := bad_err2 X9.pd.inv hb
    have q7 := bad_err X9.pd.inv hb
    generalize ((needWR W en [40] (passR s)).bad.getD (0, 0)).2 = er at c6 q6 q7
    go_wp2_with fail
    clear pa3 pf3 c6 q6 q7
    go_ret
    rw [show exprI W en ex s = (0, (needWR W en [40] (passR s))) from e9]
    exact ⟨g, 0, rfl, fun h => absurd h hb, X9.pd.more (by omega) (by omega), X9.trn⟩
end Go.Proofs.YtkhklndmbfbnoaaGreatDoor

/- The document's parser: a place as an expression. -/
namespace Go.Proofs.YtkhklndmbfbnoaaGreatDoor
open Go.ChangeShapes Go.WideShapes Go.ChangeAt Go.RowKit Go.Joins Go.Deep
set_option linter.unusedVariables false

set_option maxRecDepth 100000 in
set_option maxHeartbeats 3200000 in
theorem plain_place {c : Ctx} {fd : Value} {W : List (Tx × Nat)} {en rb : Nat} {g : Option Nat} {s : RS} {n Bx : Nat} (hBx : Bx ≤ 900) (ex : RS → Int × RS) (hF : Fng W n ex) (hexb : ∀ s, Inv W s → s.bad ≠ none → ∃ v, ex s = (v, s)) (HQ : ∀ (c : Ctx) s g w, s.bad = none → s.ar ≤ 20 → Dp n s → PdAt c fd W en w rb g Bx s → Calls Tryz.prog 90 #[.pointer (some ⟨rb, 0, none⟩)] w (RQ c fd W en rb g Bx (ex s) w)) (hg : s.bad = none) (hd : Dp n s) (w : World) (h : PdAt c fd W en w rb g Bx s) (hn : numB (wdR W s) = false) (hk : numKB (wdR W s) = false) (ht : turnB (wdR W s) = false) (n38 : wdR W s ≠ [38]) (n40 : wdR W s ≠ [40]) : Calls Tryz.prog 120 #[.pointer (some ⟨rb, 0, none⟩)] w (RQ c fd W en rb g (Bx + 8) (exprI W en ex s) w) := by
  by_cases h0 : wdR W s = []
  · skip
    have cS := rsee_any w h
    unfold SeeP at cS
    have hlt0 := h.lt
    have hls : (wdR W s).length ≤ 100000 := h.short s.k
    obtain ⟨y, hy⟩ : ∃ y : ByteArray, y = ⟨(wdR W s).toArray⟩ := ⟨_, rfl⟩
    have hyl : y.data.toList = wdR W s := by rw [hy]
    have cS1 : Calls Tryz.prog 29 #[.pointer (some ⟨rb, 0, none⟩)] w (fun e w' => e = .returned (.string y) ∧ Below w.heap.size w w') := cS.mono (fun e w' ⟨l, he, hl, _, _, hb⟩ => ⟨by rw [he, hl hg, hy], hb⟩)
    clear cS hy
    have EQ := Lib.hid (show exprI W en ex s = placeR W en ex s from by unfold exprI; rw [if_neg (by rw [hn]; decide), if_neg (by rw [hk]; decide), if_neg (by rw [ht]; decide), if_neg n38, if_neg n40])
    have hy0 : y.size = 0 := by rw [← len_text, hyl, h0]; rfl
    obtain rfl : y = ⟨#[]⟩ := ByteArray.ext (Array.eq_empty_of_size_eq_zero hy0)
    have cK : ∀ w, Calls Tryz.prog 86 #[.string ⟨#[]⟩] w (fun e w' => e = .returned (.int .i64 0) ∧ Below w.heap.size w w') := fun w => (rKindQ_any ⟨#[]⟩ w).mono (fun e w' ⟨k, a1, a2, a3, a4, a5, a6⟩ => ⟨by rw [a2, a4 (by decide)]; rfl, a6⟩)
    clear hn hk ht n38 n40 hls hyl hy0 h0
    have HH := Lib.hid (And.intro h (Ok.refl h.inv hd))
    clear h
    go_enter Tryz.func120, Tryz.ntmps120
    go_wp2_with fail
    refine cS1.mono ?_
    rintro e w1 ⟨rfl, hb1⟩
    have K2 := HH.out.2
    have X2 : PdX c fd W en rb Bx g w w1.heap.size (.int .i64 0) (.string ⟨#[]⟩) (.int .i64 0) (.slice none 0 0) g s (w1.alloc (.cells #[.int .i64 0, .string ⟨#[]⟩, .int .i64 0, .slice none 0 0] 83)) := PdX.fresh (HH.out.1.grow hb1) (Trn.of (HH.out.1.onl hb1)) hlt0 _ _ _ _
    clear HH hb1 cS1 hlt0
    go_wp2_with fail
    refine (cK _).mono ?_
    rintro e w3 ⟨rfl, hb3⟩
    replace X2 := X2.grow hb3
    clear cK hb3
    go_wp2_with fail
    refine (where_first (B := 0) hBx ex hF hexb HQ hg K2.2.2.2 _ X2.pd).mono ?_
    rintro e w9 ⟨g9, v9, rfl, hv9, h9, T9⟩
    go_wp2_with fail
    go_ret
    rw [EQ.out]
    exact ⟨g9, v9, rfl, hv9, h9.more (by omega) (by omega), X2.trn.trans T9⟩
  · have hwb : wordB (wdR W s) = true := by
      by_cases hk : s.k < W.length
      · exact h.word _ hk
      · exact absurd (wdR_end (by omega)) h0
    cases hkn : knB (wdR W s)
    · skip
      have cS := rsee_any w h
      unfold SeeP at cS
      have hlt0 := h.lt
      have hls : (wdR W s).length ≤ 100000 := h.short s.k
      obtain ⟨y, hy⟩ : ∃ y : ByteArray, y = ⟨(wdR W s).toArray⟩ := ⟨_, rfl⟩
      have hyl : y.data.toList = wdR W s := by rw [hy]
      have cS1 : Calls Tryz.prog 29 #[.pointer (some ⟨rb, 0, none⟩)] w (fun e w' => e = .returned (.string y) ∧ Below w.heap.size w w') := cS.mono (fun e w' ⟨l, he, hl, _, _, hb⟩ => ⟨by rw [he, hl hg, hy], hb⟩)
      clear cS hy
      have EQ := Lib.hid (show exprI W en ex s = placeR W en ex s from by unfold exprI; rw [if_neg (by rw [hn]; decide), if_neg (by rw [hk]; decide), if_neg (by rw [ht]; decide), if_neg n38, if_neg n40])
      have hp : 0 < y.size := by
        rw [← len_text, hyl]
        cases hw : wdR W s with
        | nil => exact absurd hw h0
        | cons a r => simp
      have hdg : digB y[0] = false := by
        have h1 := head_text hp
        rw [← h1, hyl]
        unfold numB at hn
        rw [hwb, Bool.true_and] at hn
        exact hn
      have cD := fun w => rDigit_any y[0] w
      rw [hdg] at cD
      have htt : wdR W s ≠ [45] ∧ wdR W s ≠ [126] ∧ wdR W s ≠ [33] := by
        unfold turnB at ht
        simpa [and_assoc] using ht
      obtain ⟨n45, n126, n33⟩ := htt
      have q38 : (y.toList == [38]) = false := by rw [text_eq, hyl, beq_eq_false_iff_ne]; exact n38
      have q45 : (y.toList == [45]) = false := by rw [text_eq, hyl, beq_eq_false_iff_ne]; exact n45
      have q126 : (y.toList == [126]) = false := by rw [text_eq, hyl, beq_eq_false_iff_ne]; exact n126
      have q33 : (y.toList == [33]) = false := by rw [text_eq, hyl, beq_eq_false_iff_ne]; exact n33
      have q40 : (y.toList == [40]) = false := by rw [text_eq, hyl, beq_eq_false_iff_ne]; exact n40
      have cK : ∀ w, Calls Tryz.prog 86 #[.string y] w (fun e w' => e = .returned (.int .i64 0) ∧ Below w.heap.size w w') := fun w => (rKindQ_any y w).mono (fun e w' ⟨k, a1, a2, a3, a4, a5, a6⟩ => ⟨by rw [a2, a4 (by rw [hyl]; exact hkn)]; rfl, a6⟩)
      clear hdg hn hk ht n38 n40 n45 n126 n33 hls hyl h0 hwb hkn
      have HH := Lib.hid (And.intro h (Ok.refl h.inv hd))
      clear h
      go_enter Tryz.func120, Tryz.ntmps120
      go_wp2_with fail
      refine cS1.mono ?_
      rintro e w1 ⟨rfl, hb1⟩
      have K2 := HH.out.2
      have X2 : PdX c fd W en rb Bx g w w1.heap.size (.int .i64 0) (.string ⟨#[]⟩) (.int .i64 0) (.slice none 0 0) g s (w1.alloc (.cells #[.int .i64 0, .string ⟨#[]⟩, .int .i64 0, .slice none 0 0] 83)) := PdX.fresh (HH.out.1.grow hb1) (Trn.of (HH.out.1.onl hb1)) hlt0 _ _ _ _
      clear HH hb1 cS1 hlt0
      go_wp2_with fail
      refine (cD _).mono ?_
      rintro e w3 ⟨rfl, hw3⟩
      subst hw3
      clear cD
      go_wp2_with fail
      refine (cK _).mono ?_
      rintro e w3 ⟨rfl, hb3⟩
      replace X2 := X2.grow hb3
      clear cK hb3
      go_wp2_with fail
      refine (where_first (B := 0) hBx ex hF hexb HQ hg K2.2.2.2 _ X2.pd).mono ?_
      rintro e w9 ⟨g9, v9, rfl, hv9, h9, T9⟩
      go_wp2_with fail
      go_ret
      rw [EQ.out]
      exact ⟨g9, v9, rfl, hv9, h9.more (by omega) (by omega), X2.trn.trans T9⟩
    · skip
      have cS := rsee_any w h
      unfold SeeP at cS
      have hlt0 := h.lt
      have hls : (wdR W s).length ≤ 100000 := h.short s.k
      obtain ⟨y, hy⟩ : ∃ y : ByteArray, y = ⟨(wdR W s).toArray⟩ := ⟨_, rfl⟩
      have hyl : y.data.toList = wdR W s := by rw [hy]
      have cS1 : Calls Tryz.prog 29 #[.pointer (some ⟨rb, 0, none⟩)] w (fun e w' => e = .returned (.string y) ∧ Below w.heap.size w w') := cS.mono (fun e w' ⟨l, he, hl, _, _, hb⟩ => ⟨by rw [he, hl hg, hy], hb⟩)
      clear cS hy
      have EQ := Lib.hid (show exprI W en ex s = placeR W en ex s from by unfold exprI; rw [if_neg (by rw [hn]; decide), if_neg (by rw [hk]; decide), if_neg (by rw [ht]; decide), if_neg n38, if_neg n40])
      have hp : 0 < y.size := by
        rw [← len_text, hyl]
        cases hw : wdR W s with
        | nil => exact absurd hw h0
        | cons a r => simp
      have hdg : digB y[0] = false := by
        have h1 := head_text hp
        rw [← h1, hyl]
        unfold numB at hn
        rw [hwb, Bool.true_and] at hn
        exact hn
      have cD := fun w => rDigit_any y[0] w
      rw [hdg] at cD
      have htt : wdR W s ≠ [45] ∧ wdR W s ≠ [126] ∧ wdR W s ≠ [33] := by
        unfold turnB at ht
        simpa [and_assoc] using ht
      obtain ⟨n45, n126, n33⟩ := htt
      have q38 : (y.toList == [38]) = false := by rw [text_eq, hyl, beq_eq_false_iff_ne]; exact n38
      have q45 : (y.toList == [45]) = false := by rw [text_eq, hyl, beq_eq_false_iff_ne]; exact n45
      have q126 : (y.toList == [126]) = false := by rw [text_eq, hyl, beq_eq_false_iff_ne]; exact n126
      have q33 : (y.toList == [33]) = false := by rw [text_eq, hyl, beq_eq_false_iff_ne]; exact n33
      have q40 : (y.toList == [40]) = false := by rw [text_eq, hyl, beq_eq_false_iff_ne]; exact n40
      have hpt : wdR W s = ptrN := by unfold numKB at hk; rw [hkn, Bool.true_and] at hk; simpa using hk
      have cK : ∀ w, Calls Tryz.prog 86 #[.string y] w (fun e w' => e = .returned (.int .i64 7) ∧ Below w.heap.size w w') := fun w => (rKindQ_any y w).mono (fun e w' ⟨k, a1, a2, a3, a4, a5, a6⟩ => ⟨by rw [a2, (a5 (by rw [hyl]; exact hkn)).2 (by rw [hyl]; exact hpt)]; rfl, a6⟩)
      clear hdg hn hk ht n38 n40 n45 n126 n33 hls hyl h0 hwb hkn hpt
      have HH := Lib.hid (And.intro h (Ok.refl h.inv hd))
      clear h
      go_enter Tryz.func120, Tryz.ntmps120
      go_wp2_with fail
      refine cS1.mono ?_
      rintro e w1 ⟨rfl, hb1⟩
      have K2 := HH.out.2
      have X2 : PdX c fd W en rb Bx g w w1.heap.size (.int .i64 0) (.string ⟨#[]⟩) (.int .i64 0) (.slice none 0 0) g s (w1.alloc (.cells #[.int .i64 0, .string ⟨#[]⟩, .int .i64 0, .slice none 0 0] 83)) := PdX.fresh (HH.out.1.grow hb1) (Trn.of (HH.out.1.onl hb1)) hlt0 _ _ _ _
      clear HH hb1 cS1 hlt0
      go_wp2_with fail
      refine (cD _).mono ?_
      rintro e w3 ⟨rfl, hw3⟩
      subst hw3
      clear cD
      go_wp2_with fail
      refine (cK _).mono ?_
      rintro e w3 ⟨rfl, hb3⟩
      replace X2 := X2.grow hb3
      go_wp2_with fail
      refine (cK _).mono ?_
      rintro e w4 ⟨rfl, hb4⟩
      replace X2 := X2.grow hb4
      clear cK hb3 hb4
      go_wp2_with fail
      refine (where_first (B := 0) hBx ex hF hexb HQ hg K2.2.2.2 _ X2.pd).mono ?_
      rintro e w9 ⟨g9, v9, rfl, hv9, h9, T9⟩
      go_wp2_with fail
      go_ret
      rw [EQ.out]
      exact ⟨g9, v9, rfl, hv9, h9.more (by omega) (by omega), X2.trn.trans T9⟩
end Go.Proofs.YtkhklndmbfbnoaaGreatDoor

/- The document's operators. -/
namespace Go.Proofs.YtkhklndmbfbnoaaGreatDoor
open Go.ChangeShapes Go.WideShapes Go.ChangeAt Go.RowKit Go.Joins Go.Deep
set_option linter.unusedVariables false

theorem names12 (w : World) : NamesAt (w.alloc (.cells #[.string ⟨#[43]⟩, .string ⟨#[45]⟩, .string ⟨#[42]⟩, .string ⟨#[47]⟩, .string ⟨#[37]⟩, .string ⟨#[38]⟩, .string ⟨#[124]⟩, .string ⟨#[94]⟩, .string ⟨#[60, 60]⟩, .string ⟨#[62, 62]⟩, .string ⟨#[61, 61]⟩, .string ⟨#[60]⟩] 9)) w.heap.size 12 opN := by
  refine ⟨rfl, fun i hi => ?_⟩
  rw [cell_of_block (At.new w #[.string ⟨#[43]⟩, .string ⟨#[45]⟩, .string ⟨#[42]⟩, .string ⟨#[47]⟩, .string ⟨#[37]⟩, .string ⟨#[38]⟩, .string ⟨#[124]⟩, .string ⟨#[94]⟩, .string ⟨#[60, 60]⟩, .string ⟨#[62, 62]⟩, .string ⟨#[61, 61]⟩, .string ⟨#[60]⟩] 9)]
  match i, hi with
  | 0, _ => rfl
  | 1, _ => rfl
  | 2, _ => rfl
  | 3, _ => rfl
  | 4, _ => rfl
  | 5, _ => rfl
  | 6, _ => rfl
  | 7, _ => rfl
  | 8, _ => rfl
  | 9, _ => rfl
  | 10, _ => rfl
  | 11, _ => rfl
  | n + 12, h => exact absurd h (by omega)
theorem rOper_any (s : ByteArray) (w : World) : Calls Tryz.prog 151 #[.string s] w (BP (operB s.data.toList) w) := by
  have cH := fun w => has_names s w.heap.size 12 12 opN (by omega) _ (names12 w)
  have e : hasN opN s.data.toList = operB s.data.toList := rfl
  rw [e] at cH
  clear e
  generalize operB s.data.toList = kb at *
  go_enter Tryz.func151, Tryz.ntmps151
  go_wp2_with fail
  refine (cH _).mono ?_
  rintro e w2 ⟨rfl, rfl⟩
  go_wp2_with fail
  go_ret
  exact ⟨rfl, (Below.refl _ _).alloc (Nat.le_refl _) _⟩
end Go.Proofs.YtkhklndmbfbnoaaGreatDoor

/- The document's parser: two expressions. -/
namespace Go.Proofs.YtkhklndmbfbnoaaGreatDoor
open Go.ChangeShapes Go.WideShapes Go.ChangeAt Go.RowKit Go.Joins Go.Deep
set_option linter.unusedVariables false

theorem needW_bad {W : List (Tx × Nat)} {en : Nat} {x : Tx} {s : RS} (hx : x ≠ []) (hi : Inv W s) (hb : s.bad ≠ none) : needWR W en x s = s := by
  unfold needWR
  rw [needR_bad _ (by rw [beq_eq_false_iff_ne]; exact fun h => hx h.symm) hi hb]
set_option maxRecDepth 100000 in
set_option maxHeartbeats 3200000 in
theorem plain_two {c : Ctx} {fd : Value} {W : List (Tx × Nat)} {en rb : Nat} {g : Option Nat} {s : RS} {n Bx : Nat} (hBx : Bx ≤ 900) (ex : RS → Int × RS) (hF : Fng W n ex) (hexb : ∀ s, Inv W s → s.bad ≠ none → ∃ v, ex s = (v, s)) (HQ : ∀ (c : Ctx) s g w, s.bad = none → s.ar ≤ 20 → Dp n s → PdAt c fd W en w rb g Bx s → Calls Tryz.prog 90 #[.pointer (some ⟨rb, 0, none⟩)] w (RQ c fd W en rb g Bx (ex s) w)) (hg : s.bad = none) (hd : Dp n s) (w : World) (h : PdAt c fd W en w rb g Bx s) (hr : wdR W s = [40]) : Calls Tryz.prog 120 #[.pointer (some ⟨rb, 0, none⟩)] w (RQ c fd W en rb g (Bx + 8) (exprI W en ex s) w) := by
  have cS := rsee_any w h
  unfold SeeP at cS
  have hlt0 := h.lt
  have hls : (wdR W s).length ≤ 100000 := h.short s.k
  obtain ⟨y, hy⟩ : ∃ y : ByteArray, y = ⟨(wdR W s).toArray⟩ := ⟨_, rfl⟩
  have hyl : y.data.toList = wdR W s := by rw [hy]
  have cS1 : Calls Tryz.prog 29 #[.pointer (some ⟨rb, 0, none⟩)] w (fun e w' => e = .returned (.string y) ∧ Below w.heap.size w w') := cS.mono (fun e w' ⟨l, he, hl, _, _, hb⟩ => ⟨by rw [he, hl hg, hy], hb⟩)
  clear cS hy
  have hp : 0 < y.size := by rw [← len_text, hyl, hr]; decide
  have hdg : digB y[0] = false := by
    have h1 := head_text hp
    rw [hyl, hr] at h1
    rw [← h1]; decide
  have cD := fun w => rDigit_any y[0] w
  rw [hdg] at cD
  have q38 : (y.toList == [38]) = false := by rw [text_eq, hyl, hr]; decide
  have q45 : (y.toList == [45]) = false := by rw [text_eq, hyl, hr]; decide
  have q126 : (y.toList == [126]) = false := by rw [text_eq, hyl, hr]; decide
  have q33 : (y.toList == [33]) = false := by rw [text_eq, hyl, hr]; decide
  have q40 : (y.toList == [40]) = true := by rw [text_eq, hyl, hr]; decide
  have hne : wdR W s ≠ [] := by rw [hr]; decide
  have hE : exprI W en ex s = twoR W en ex s := by unfold exprI; rw [hr, if_neg (by decide), if_neg (by decide), if_neg (by decide), if_neg (by decide), if_pos rfl]
  have hpw : needWR W en [40] s = passR s := by unfold needWR needR; rw [if_pos (by rw [hr]; rfl)]
  have EQ := Lib.hid (show exprI W en ex s = nodeR W ⟨16, (needR W en operB (ex (passR s)).2).1, 0, [(ex (passR s)).1, (ex (needR W en operB (ex (passR s)).2).2).1]⟩ (needWR W en [41] (ex (needR W en operB (ex (passR s)).2).2).2) from by rw [hE, ← hpw]; rfl)
  have hEB : ∀ S, S = (needR W en operB (ex (passR s)).2).2 → Inv W S → S.bad ≠ none → exprI W en ex s = (0, S) := fun S hS hi hb => by
    obtain ⟨v, hv⟩ := hexb S hi hb
    rw [EQ.out, ← hS, hv]
    dsimp only
    rw [show needWR W en [41] S = S from needW_bad (by decide) hi hb, nodeR_bad _ hb]
  have HEB := Lib.hid hEB
  clear hE hdg hr hls hyl hpw hEB
  have HH := Lib.hid (And.intro h (Ok.refl h.inv hd))
  clear h
  go_enter Tryz.func120, Tryz.ntmps120
  go_wp2_with fail
  refine cS1.mono ?_
  rintro e w1 ⟨rfl, hb1⟩
  have K2 := HH.out.2
  have X2 : PdX c fd W en rb Bx g w w1.heap.size (.int .i64 0) (.string ⟨#[]⟩) (.int .i64 0) (.slice none 0 0) g s (w1.alloc (.cells #[.int .i64 0, .string ⟨#[]⟩, .int .i64 0, .slice none 0 0] 83)) := PdX.fresh (HH.out.1.grow hb1) (Trn.of (HH.out.1.onl hb1)) hlt0 _ _ _ _
  clear HH hb1 cS1 hlt0
  go_wp2_with fail
  refine (cD _).mono ?_
  rintro e w3 ⟨rfl, hw3⟩
  subst hw3
  clear cD
  obtain ⟨k, nv, hA, hk, _⟩ := X2.pd.cells
  obtain rfl := hk hg
  have hWl : W.length ≤ 1000000 := by obtain ⟨_, _, _, hl, _⟩ := X2.pd.toks; exact hl
  have hlt0 := wdR_lt hne
  have hk10 : s.k ≤ 1000000 := by omega
  have pc0 : (w1.alloc (.cells #[.int .i64 0, .string ⟨#[]⟩, .int .i64 0, .slice none 0 0] 83)).cell? ⟨rb, 2, none⟩ = some (.int .i64 (s.k : Nat)) := hA.cell 2 rfl
  have pg0 := At.free hA 2
  have X3 : PdX c fd W en rb Bx g w w1.heap.size (.int .i64 0) (.string ⟨#[]⟩) (.int .i64 0) (.slice none 0 0) g (passR s) ((w1.alloc (.cells #[.int .i64 0, .string ⟨#[]⟩, .int .i64 0, .slice none 0 0] 83)).setCell ⟨rb, 2, none⟩ (.int .i64 ((s.k : Int) + 1))) := X2.callO (X2.pd.bumpG hg hlt0) ((Onl.refl rb (w1.alloc (.cells #[.int .i64 0, .string ⟨#[]⟩, .int .i64 0, .slice none 0 0] 83))).set 2 _)
  have K3 := K2.pass hne
  clear hA hk hWl
  go_wp2_with fail
  clear pc0 pg0 hk10 hlt0
  have hq4 : (passR s).bad = none := hg
  refine (HQ c (passR s) g _ hq4 (K3.2.2.2 hq4).2 K3.2.2.2 (X3.pd.anyB (B' := Bx) hq4 (by omega))).mono ?_
  rintro e w4x ⟨g4, v4, rfl, hv4, h, O⟩
  have X4 : PdX c fd W en rb Bx g w w1.heap.size (.int .i64 0) (.string ⟨#[]⟩) (.int .i64 0) (.slice none 0 0) g4 (ex (passR s)).2 w4x := X3.callT h O
  have K4 := K3.fn hF
  clear h O X3
  by_cases hb : (ex (passR s)).2.bad = none
  · obtain rfl := hv4 hb
    have c6 : w4x.cell? ⟨rb, 6, none⟩ = some (.int .i64 0) := by have := X4.pd.err; rw [hb] at this; exact this
    go_wp2_with fail
    clear c6
    refine (rsee_any _ X4.pd).mono ?_
    rintro e w5x ⟨l5, rfl, hl5, _, _, hb⟩
    have X5 : PdX c fd W en rb Bx g w w1.heap.size (.int .i64 0) (.string ⟨#[]⟩) (.int .i64 0) (.slice none 0 0) g4 (ex (passR s)).2 w5x := X4.grow hb
    have K5 := K4
    clear hb X4
    obtain rfl := hl5 hb
    go_wp2_with fail
    refine (rOper_any ⟨(wdR W (ex (passR s)).2).toArray⟩ _).mono ?_
    rintro e wo ⟨rfl, hbo⟩
    have X6 : PdX c fd W en rb Bx g w w1.heap.size (.int .i64 0) (.string ⟨#[]⟩) (.int .i64 0) (.slice none 0 0) g4 (ex (passR s)).2 wo := X5.grow hbo
    have K6 := K5
    clear X5 hbo
    by_cases ho : operB (wdR W (ex (passR s)).2) = true
    · have qo : operB (⟨(wdR W (ex (passR s)).2).toArray⟩ : ByteArray).data.toList = true := ho
      have hneo : wdR W (ex (passR s)).2 ≠ [] := fun h0 => by rw [h0] at ho; revert ho; decide
      have hSO : needR W en operB (ex (passR s)).2 = (wdR W (ex (passR s)).2, passR (ex (passR s)).2) := by unfold needR; rw [if_pos ho]
      go_wp2_with fail
      refine (rsee_any _ X6.pd).mono ?_
      rintro e w7x ⟨l7, rfl, hl7, _, _, hb⟩
      have X7 : PdX c fd W en rb Bx g w w1.heap.size (.int .i64 0) (.string ⟨#[]⟩) (.int .i64 0) (.slice none 0 0) g4 (ex (passR s)).2 w7x := X6.grow hb
      have K7 := K6
      clear hb X6
      obtain rfl := hl7 hb
      have pa1 := X7.box.cell 0 rfl
      have pf1 := At.free X7.box 0
      have X8 : PdX c fd W en rb Bx g w w1.heap.size (.int .i64 16) (.string ⟨#[]⟩) (.int .i64 0) (.slice none 0 0) g4 (ex (passR s)).2 (w7x.setCell ⟨w1.heap.size, 0, none⟩ (.int .i64 16)) := X7.put 0 (.int .i64 16) rfl (by decide)
      have K8 := K7
      have pa2 := X8.box.cell 1 rfl
      have pf2 := At.free X8.box 1
      have X9 : PdX c fd W en rb Bx g w w1.heap.size (.int .i64 16) (txV (wdR W (ex (passR s)).2)) (.int .i64 0) (.slice none 0 0) g4 (ex (passR s)).2 ((w7x.setCell ⟨w1.heap.size, 0, none⟩ (.int .i64 16)).setCell ⟨w1.heap.size, 1, none⟩ (txV (wdR W (ex (passR s)).2))) := X8.put 1 (txV (wdR W (ex (passR s)).2)) rfl (by decide)
      have K9 := K8
      obtain ⟨k, nv, hA, hk, _⟩ := X9.pd.cells
      obtain rfl := hk hb
      have hWl : W.length ≤ 1000000 := by obtain ⟨_, _, _, hl, _⟩ := X9.pd.toks; exact hl
      have hlt3 := wdR_lt hneo
      have hk13 : (ex (passR s)).2.k ≤ 1000000 := by omega
      have pc3 : ((w7x.setCell ⟨w1.heap.size, 0, none⟩ (.int .i64 16)).setCell ⟨w1.heap.size, 1, none⟩ (txV (wdR W (ex (passR s)).2))).cell? ⟨rb, 2, none⟩ = some (.int .i64 ((ex (passR s)).2.k : Nat)) := hA.cell 2 rfl
      have pg3 := At.free hA 2
      have X10 : PdX c fd W en rb Bx g w w1.heap.size (.int .i64 16) (txV (wdR W (ex (passR s)).2)) (.int .i64 0) (.slice none 0 0) g4 (passR (ex (passR s)).2) (((w7x.setCell ⟨w1.heap.size, 0, none⟩ (.int .i64 16)).setCell ⟨w1.heap.size, 1, none⟩ (txV (wdR W (ex (passR s)).2))).setCell ⟨rb, 2, none⟩ (.int .i64 (((ex (passR s)).2.k : Int) + 1))) := X9.callO (X9.pd.bumpG hb hlt3) ((Onl.refl rb ((w7x.setCell ⟨w1.heap.size, 0, none⟩ (.int .i64 16)).setCell ⟨w1.heap.size, 1, none⟩ (txV (wdR W (ex (passR s)).2)))).set 2 _)
      have K10 := K9.pass hneo
      clear hA hk hWl
      have hbo2 : (passR (ex (passR s)).2).bad = none := hb
      have c6 : (((w7x.setCell ⟨w1.heap.size, 0, none⟩ (.int .i64 16)).setCell ⟨w1.heap.size, 1, none⟩ (txV (wdR W (ex (passR s)).2))).setCell ⟨rb, 2, none⟩ (.int .i64 (((ex (passR s)).2.k : Int) + 1))).cell? ⟨rb, 6, none⟩ = some (.int .i64 0) := by have := X10.pd.err; rw [hbo2] at this; exact this
      go_wp2_with fail
      clear pa1 pf1 pa2 pf2 pc3 pg3 hk13 hlt3 c6
      have hq11 : (passR (ex (passR s)).2).bad = none := hbo2
      refine (HQ c (passR (ex (passR s)).2) g4 _ hq11 (K10.2.2.2 hq11).2 K10.2.2.2 (X10.pd.anyB (B' := Bx) hq11 (by omega))).mono ?_
      rintro e w11x ⟨g11, v11, rfl, hv11, h, O⟩
      have X11 : PdX c fd W en rb Bx g w w1.heap.size (.int .i64 16) (txV (wdR W (ex (passR s)).2)) (.int .i64 0) (.slice none 0 0) g11 (ex (passR (ex (passR s)).2)).2 w11x := X10.callT h O
      have K11 := K10.fn hF
      clear h O X10
      go_wp2_with fail
      refine (rtakes_any ⟨#[41]⟩ (by decide) _ X11.pd).mono ?_
      rintro e w12x ⟨rfl, h, O⟩
      have X12 : PdX c fd W en rb Bx g w w1.heap.size (.int .i64 16) (txV (wdR W (ex (passR s)).2)) (.int .i64 0) (.slice none 0 0) g11 (needWR W en [41] (ex (passR (ex (passR s)).2)).2) w12x := X11.callO h O
      have K12 := K11.needW (en := en) (x := [41]) (by decide)
      clear h O X11
      have hps := ps2_ok (op := 16) (name := (wdR W (ex (passR s)).2)) (n := 0) (ex (passR s)).1 v11 X12.pd.lt X12.pd.held
      have X13 : PdX c fd W en rb Bx g w w1.heap.size (.int .i64 16) (txV (wdR W (ex (passR s)).2)) (.int .i64 0) (.slice none 0 0) g11 (needWR W en [41] (ex (passR (ex (passR s)).2)).2) (w12x.alloc (.cells #[.int .i64 (ex (passR s)).1, .int .i64 v11] 3)) := X12.grow (boxT w12x (.cells #[.int .i64 (ex (passR s)).1, .int .i64 v11] 3))
      have K13 := K12
      have pa4 := X13.box.cell 3 rfl
      have pf4 := At.free X13.box 3
      have X14 : PdX c fd W en rb Bx g w w1.heap.size (.int .i64 16) (txV (wdR W (ex (passR s)).2)) (.int .i64 0) (.slice (some ⟨w12x.heap.size, 0, none⟩) 2 2) g11 (needWR W en [41] (ex (passR (ex (passR s)).2)).2) ((w12x.alloc (.cells #[.int .i64 (ex (passR s)).1, .int .i64 v11] 3)).setCell ⟨w1.heap.size, 3, none⟩ (.slice (some ⟨w12x.heap.size, 0, none⟩) 2 2)) := X13.put 3 (.slice (some ⟨w12x.heap.size, 0, none⟩) 2 2) rfl (by decide)
      have K14 := K13
      have hps := hps.keep fun b cs hb => ((Onl.refl (w1.heap.size) (w12x.alloc (.cells #[.int .i64 (ex (passR s)).1, .int .i64 v11] 3))).set 3 (.slice (some ⟨w12x.heap.size, 0, none⟩) 2 2)).at hb (at_other hb X13.box (by decide))
      by_cases hb2 : (needWR W en [41] (ex (passR (ex (passR s)).2)).2).bad = none
      · have hy0 := needR_good (p := fun y => y == [41]) hb2
        obtain rfl := hv11 hy0
        have e8 := EQ.out
        rw [hSO] at e8
        clear EQ
        have EQ := Lib.hid e8
        clear e8
        have e0 := X14.box.cell 0 rfl
        have e1 := X14.box.cell 1 rfl
        have e2 := X14.box.cell 2 rfl
        have e3 := X14.box.cell 3 rfl
        have c6 : ((w12x.alloc (.cells #[.int .i64 (ex (passR s)).1, .int .i64 (ex (passR (ex (passR s)).2)).1] 3)).setCell ⟨w1.heap.size, 3, none⟩ (.slice (some ⟨w12x.heap.size, 0, none⟩) 2 2)).cell? ⟨rb, 6, none⟩ = some (.int .i64 0) := by have := X14.pd.err; rw [hb2] at this; exact this
        go_wp2_with fail
        clear pa4 pf4 c6 e0 e1 e2 e3
        refine (radd_any ⟨⟨16, (wdR W (ex (passR s)).2), 0, [(ex (passR s)).1, (ex (passR (ex (passR s)).2)).1]⟩, _, _⟩ _ X14.pd hps hb2 (K14.room hb2)).mono ?_
        rintro e w9 ⟨g9, v9, rfl, hv9, h9, T9⟩
        go_wp2_with fail
        go_ret
        rw [EQ.out]
        exact ⟨g9, v9, rfl, hv9, h9.more (by omega) (by omega), X14.trn.trans T9⟩
      · have e9 := EQ.out
        rw [hSO] at e9
        have c6 := X14.pd.err
        have q6 := bad_err2 X14.pd.inv hb2
        have q7 := bad_err X14.pd.inv hb2
        generalize ((needWR W en [41] (ex (passR (ex (passR s)).2)).2).bad.getD (0, 0)).2 = er at c6 q6 q7
        go_wp2_with fail
        clear pa4 pf4 c6 q6 q7
        go_ret
        rw [show exprI W en ex s = (0, (needWR W en [41] (ex (passR (ex (passR s)).2)).2)) from e9.trans (nodeR_bad _ hb2)]
        exact ⟨g11, 0, rfl, fun h => absurd h hb2, X14.pd.more (by omega) (by omega), X14.trn⟩
    · have ho := Bool.eq_false_iff.mpr ho
      have qo : operB (⟨(wdR W (ex (passR s)).2).toArray⟩ : ByteArray).data.toList = false := ho
      have hSF : (failR W (hereR W en (ex (passR s)).2) 4 (ex (passR s)).2) = (needR W en operB (ex (passR s)).2).2 := by unfold needR; rw [if_neg (by rw [ho]; decide)]
      go_wp2_with fail
      refine (rplace_any _ X6.pd hb).mono ?_
      rintro e wp ⟨rfl, hbp⟩
      have X7 : PdX c fd W en rb Bx g w w1.heap.size (.int .i64 0) (.string ⟨#[]⟩) (.int .i64 0) (.slice none 0 0) g4 (ex (passR s)).2 wp := X6.grow hbp
      clear X6 hbp
      go_wp2_with fail
      refine (rfails_any (hereR W en (ex (passR s)).2) 4 (by decide) _ X7.pd hb).mono ?_
      rintro e wf ⟨rfl, hpf, hOf⟩
      have X8 : PdX c fd W en rb Bx g w w1.heap.size (.int .i64 0) (.string ⟨#[]⟩) (.int .i64 0) (.slice none 0 0) g4 (failR W (hereR W en (ex (passR s)).2) 4 (ex (passR s)).2) wf := X7.callO hpf hOf
      have K8 := K6.fails (W := W) (hereR W en (ex (passR s)).2) 4 (by decide) 0 0
      clear X7 hpf hOf
      go_wp2_with fail
      have hiv := X8.pd.inv
      have hbf : (failR W (hereR W en (ex (passR s)).2) 4 (ex (passR s)).2).bad ≠ none := fail_bad
      have e9 := HEB.out (failR W (hereR W en (ex (passR s)).2) 4 (ex (passR s)).2) hSF hiv hbf
      refine (rsee_any _ X8.pd).mono ?_
      rintro e w9x ⟨l9, rfl, hl9, _, _, hb⟩
      have X9 : PdX c fd W en rb Bx g w w1.heap.size (.int .i64 0) (.string ⟨#[]⟩) (.int .i64 0) (.slice none 0 0) g4 (failR W (hereR W en (ex (passR s)).2) 4 (ex (passR s)).2) w9x := X8.grow hb
      have K9 := K8
      clear hb X8
      have pa1 := X9.box.cell 0 rfl
      have pf1 := At.free X9.box 0
      have X10 : PdX c fd W en rb Bx g w w1.heap.size (.int .i64 16) (.string ⟨#[]⟩) (.int .i64 0) (.slice none 0 0) g4 (failR W (hereR W en (ex (passR s)).2) 4 (ex (passR s)).2) (w9x.setCell ⟨w1.heap.size, 0, none⟩ (.int .i64 16)) := X9.put 0 (.int .i64 16) rfl (by decide)
      have K10 := K9
      have pa2 := X10.box.cell 1 rfl
      have pf2 := At.free X10.box 1
      have X11 : PdX c fd W en rb Bx g w w1.heap.size (.int .i64 16) (txV l9) (.int .i64 0) (.slice none 0 0) g4 (failR W (hereR W en (ex (passR s)).2) 4 (ex (passR s)).2) ((w9x.setCell ⟨w1.heap.size, 0, none⟩ (.int .i64 16)).setCell ⟨w1.heap.size, 1, none⟩ (txV l9)) := X10.put 1 (txV l9) rfl (by decide)
      have K11 := K10
      obtain ⟨k3, nv, hA, _, hkB⟩ := X11.pd.cells
      have hWl : W.length ≤ 1000000 := by obtain ⟨_, _, _, hl, _⟩ := X11.pd.toks; exact hl
      have hk13 : k3 ≤ 1001000 := by omega
      have pc3 : ((w9x.setCell ⟨w1.heap.size, 0, none⟩ (.int .i64 16)).setCell ⟨w1.heap.size, 1, none⟩ (txV l9)).cell? ⟨rb, 2, none⟩ = some (.int .i64 (k3 : Nat)) := hA.cell 2 rfl
      have pg3 := At.free hA 2
      have X12 : PdX c fd W en rb (Bx + 1) g w w1.heap.size (.int .i64 16) (txV l9) (.int .i64 0) (.slice none 0 0) g4 (failR W (hereR W en (ex (passR s)).2) 4 (ex (passR s)).2) (((w9x.setCell ⟨w1.heap.size, 0, none⟩ (.int .i64 16)).setCell ⟨w1.heap.size, 1, none⟩ (txV l9)).setCell ⟨rb, 2, none⟩ (.int .i64 ((k3 : Int) + 1))) := X11.callO (X11.pd.bumpB hbf (by omega) hA) ((Onl.refl rb ((w9x.setCell ⟨w1.heap.size, 0, none⟩ (.int .i64 16)).setCell ⟨w1.heap.size, 1, none⟩ (txV l9))).set 2 _)
      have K12 := K11
      clear hA hkB hWl nv
      have c6 := X12.pd.err
      have q6 := bad_err2 X12.pd.inv hbf
      have q7 := bad_err X12.pd.inv hbf
      generalize ((failR W (hereR W en (ex (passR s)).2) 4 (ex (passR s)).2).bad.getD (0, 0)).2 = er at c6 q6 q7
      go_wp2_with fail
      clear pa1 pf1 pa2 pf2 pc3 pg3 hk13 c6 q6 q7
      refine (rtakes_any ⟨#[41]⟩ (by decide) _ X12.pd).mono ?_
      rintro e w13x ⟨rfl, h, O⟩
      have X13 : PdX c fd W en rb (Bx + 1) g w w1.heap.size (.int .i64 16) (txV l9) (.int .i64 0) (.slice none 0 0) g4 (needWR W en [41] (failR W (hereR W en (ex (passR s)).2) 4 (ex (passR s)).2)) w13x := X12.callO h O
      have K13 := K12.needW (en := en) (x := [41]) (by decide)
      clear h O X12
      rw [show needWR W en [41] (failR W (hereR W en (ex (passR s)).2) 4 (ex (passR s)).2) = (failR W (hereR W en (ex (passR s)).2) 4 (ex (passR s)).2) from needW_bad (by decide) hiv hbf] at X13
      have hps := ps2_ok (op := 16) (name := l9) (n := 0) (ex (passR s)).1 0 X13.pd.lt X13.pd.held
      have X14 : PdX c fd W en rb (Bx + 1) g w w1.heap.size (.int .i64 16) (txV l9) (.int .i64 0) (.slice none 0 0) g4 (failR W (hereR W en (ex (passR s)).2) 4 (ex (passR s)).2) (w13x.alloc (.cells #[.int .i64 (ex (passR s)).1, .int .i64 0] 3)) := X13.grow (boxT w13x (.cells #[.int .i64 (ex (passR s)).1, .int .i64 0] 3))
      have K14 := K13
      have pa4 := X14.box.cell 3 rfl
      have pf4 := At.free X14.box 3
      have X15 : PdX c fd W en rb (Bx + 1) g w w1.heap.size (.int .i64 16) (txV l9) (.int .i64 0) (.slice (some ⟨w13x.heap.size, 0, none⟩) 2 2) g4 (failR W (hereR W en (ex (passR s)).2) 4 (ex (passR s)).2) ((w13x.alloc (.cells #[.int .i64 (ex (passR s)).1, .int .i64 0] 3)).setCell ⟨w1.heap.size, 3, none⟩ (.slice (some ⟨w13x.heap.size, 0, none⟩) 2 2)) := X14.put 3 (.slice (some ⟨w13x.heap.size, 0, none⟩) 2 2) rfl (by decide)
      have K15 := K14
      have hps := hps.keep fun b cs hb => ((Onl.refl (w1.heap.size) (w13x.alloc (.cells #[.int .i64 (ex (passR s)).1, .int .i64 0] 3))).set 3 (.slice (some ⟨w13x.heap.size, 0, none⟩) 2 2)).at hb (at_other hb X14.box (by decide))
      have c6 := X15.pd.err
      have q6 := bad_err2 X15.pd.inv hbf
      have q7 := bad_err X15.pd.inv hbf
      generalize ((failR W (hereR W en (ex (passR s)).2) 4 (ex (passR s)).2).bad.getD (0, 0)).2 = er at c6 q6 q7
      go_wp2_with fail
      clear pa4 pf4 c6 q6 q7
      go_ret
      rw [show exprI W en ex s = (0, (failR W (hereR W en (ex (passR s)).2) 4 (ex (passR s)).2)) from e9]
      exact ⟨g4, 0, rfl, fun h => absurd h hbf, X15.pd.more (by omega) (by omega), X15.trn⟩
  · have hiv := X4.pd.inv
    have e9 := HEB.out (ex (passR s)).2 (by rw [needR_bad _ (by decide) hiv hb]) hiv hb
    have c6 := X4.pd.err
    have q6 := bad_err2 X4.pd.inv hb
    have q7 := bad_err X4.pd.inv hb
    generalize ((ex (passR s)).2.bad.getD (0, 0)).2 = er at c6 q6 q7
    go_wp2_with fail
    clear c6 q6 q7
    refine (rsee_any _ X4.pd).mono ?_
    rintro e w5x ⟨l5, rfl, hl5, _, _, hb⟩
    have X5 : PdX c fd W en rb Bx g w w1.heap.size (.int .i64 0) (.string ⟨#[]⟩) (.int .i64 0) (.slice none 0 0) g4 (ex (passR s)).2 w5x := X4.grow hb
    have K5 := K4
    clear hb X4
    have pa1 := X5.box.cell 0 rfl
    have pf1 := At.free X5.box 0
    have X6 : PdX c fd W en rb Bx g w w1.heap.size (.int .i64 16) (.string ⟨#[]⟩) (.int .i64 0) (.slice none 0 0) g4 (ex (passR s)).2 (w5x.setCell ⟨w1.heap.size, 0, none⟩ (.int .i64 16)) := X5.put 0 (.int .i64 16) rfl (by decide)
    have K6 := K5
    have pa2 := X6.box.cell 1 rfl
    have pf2 := At.free X6.box 1
    have X7 : PdX c fd W en rb Bx g w w1.heap.size (.int .i64 16) (txV l5) (.int .i64 0) (.slice none 0 0) g4 (ex (passR s)).2 ((w5x.setCell ⟨w1.heap.size, 0, none⟩ (.int .i64 16)).setCell ⟨w1.heap.size, 1, none⟩ (txV l5)) := X6.put 1 (txV l5) rfl (by decide)
    have K7 := K6
    obtain ⟨k3, nv, hA, _, hkB⟩ := X7.pd.cells
    have hWl : W.length ≤ 1000000 := by obtain ⟨_, _, _, hl, _⟩ := X7.pd.toks; exact hl
    have hk13 : k3 ≤ 1001000 := by omega
    have pc3 : ((w5x.setCell ⟨w1.heap.size, 0, none⟩ (.int .i64 16)).setCell ⟨w1.heap.size, 1, none⟩ (txV l5)).cell? ⟨rb, 2, none⟩ = some (.int .i64 (k3 : Nat)) := hA.cell 2 rfl
    have pg3 := At.free hA 2
    have X8 : PdX c fd W en rb (Bx + 1) g w w1.heap.size (.int .i64 16) (txV l5) (.int .i64 0) (.slice none 0 0) g4 (ex (passR s)).2 (((w5x.setCell ⟨w1.heap.size, 0, none⟩ (.int .i64 16)).setCell ⟨w1.heap.size, 1, none⟩ (txV l5)).setCell ⟨rb, 2, none⟩ (.int .i64 ((k3 : Int) + 1))) := X7.callO (X7.pd.bumpB hb (by omega) hA) ((Onl.refl rb ((w5x.setCell ⟨w1.heap.size, 0, none⟩ (.int .i64 16)).setCell ⟨w1.heap.size, 1, none⟩ (txV l5))).set 2 _)
    have K8 := K7
    clear hA hkB hWl nv
    have c6 := X8.pd.err
    have q6 := bad_err2 X8.pd.inv hb
    have q7 := bad_err X8.pd.inv hb
    generalize ((ex (passR s)).2.bad.getD (0, 0)).2 = er at c6 q6 q7
    go_wp2_with fail
    clear pa1 pf1 pa2 pf2 pc3 pg3 hk13 c6 q6 q7
    refine (rtakes_any ⟨#[41]⟩ (by decide) _ X8.pd).mono ?_
    rintro e w9x ⟨rfl, h, O⟩
    have X9 : PdX c fd W en rb (Bx + 1) g w w1.heap.size (.int .i64 16) (txV l5) (.int .i64 0) (.slice none 0 0) g4 (needWR W en [41] (ex (passR s)).2) w9x := X8.callO h O
    have K9 := K8.needW (en := en) (x := [41]) (by decide)
    clear h O X8
    rw [show needWR W en [41] (ex (passR s)).2 = (ex (passR s)).2 from needW_bad (by decide) hiv hb] at X9
    have hps := ps2_ok (op := 16) (name := l5) (n := 0) v4 0 X9.pd.lt X9.pd.held
    have X10 : PdX c fd W en rb (Bx + 1) g w w1.heap.size (.int .i64 16) (txV l5) (.int .i64 0) (.slice none 0 0) g4 (ex (passR s)).2 (w9x.alloc (.cells #[.int .i64 v4, .int .i64 0] 3)) := X9.grow (boxT w9x (.cells #[.int .i64 v4, .int .i64 0] 3))
    have K10 := K9
    have pa4 := X10.box.cell 3 rfl
    have pf4 := At.free X10.box 3
    have X11 : PdX c fd W en rb (Bx + 1) g w w1.heap.size (.int .i64 16) (txV l5) (.int .i64 0) (.slice (some ⟨w9x.heap.size, 0, none⟩) 2 2) g4 (ex (passR s)).2 ((w9x.alloc (.cells #[.int .i64 v4, .int .i64 0] 3)).setCell ⟨w1.heap.size, 3, none⟩ (.slice (some ⟨w9x.heap.size, 0, none⟩) 2 2)) := X10.put 3 (.slice (some ⟨w9x.heap.size, 0, none⟩) 2 2) rfl (by decide)
    have K11 := K10
    have hps := hps.keep fun b cs hb => ((Onl.refl (w1.heap.size) (w9x.alloc (.cells #[.int .i64 v4, .int .i64 0] 3))).set 3 (.slice (some ⟨w9x.heap.size, 0, none⟩) 2 2)).at hb (at_other hb X10.box (by decide))
    have c6 := X11.pd.err
    have q6 := bad_err2 X11.pd.inv hb
    have q7 := bad_err X11.pd.inv hb
    generalize ((ex (passR s)).2.bad.getD (0, 0)).2 = er at c6 q6 q7
    go_wp2_with fail
    clear pa4 pf4 c6 q6 q7
    go_ret
    rw [show exprI W en ex s = (0, (ex (passR s)).2) from e9]
    exact ⟨g4, 0, rfl, fun h => absurd h hb, X11.pd.more (by omega) (by omega), X11.trn⟩
end Go.Proofs.YtkhklndmbfbnoaaGreatDoor
