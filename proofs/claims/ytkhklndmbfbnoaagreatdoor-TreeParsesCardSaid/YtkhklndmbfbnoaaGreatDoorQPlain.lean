/- The document's parser with a node's box. -/
import Derived.Test.YtkhklndmbfbnoaaGreatDoorQWhere
import Derived.Test.YtkhklndmbfbnoaaGreatDoorTGram8
namespace Go.Proofs.YtkhklndmbfbnoaaGreatDoor
open Go.ChangeShapes Go.WideShapes Go.ChangeAt Go.RowKit Go.Joins Go.Deep
set_option linter.unusedVariables false

theorem PdAt.gLt {w : World} {b : Nat} {c : Ctx} {fd : Value} {W : List (Tx × Nat)} {en rb B : Nat} {g : Option Nat} {s : RS} (h : PdAt c fd W en w rb g B s) (hg : g = some b) : b < w.heap.size := by
  obtain ⟨k, nv, X, h1, h2, h3, _⟩ := h.mem
  obtain ⟨cs', hc⟩ := row_typed h3 (h2.trans hg)
  exact hc.lt
/-- a block alone is another, none of the parser's -/
theorem PdAt.other {w w' : World} {D : Nat} {cs : Array Value} {c : Ctx} {fd : Value} {W : List (Tx × Nat)} {en rb B : Nat} {g : Option Nat} {s : RS} (h : PdAt c fd W en w rb g B s) (hO : Onl D w w') (hA : At w D cs 83) (hB : rb < D) (hg : g ≠ some D) : PdAt c fd W en w' rb g B s := by
  obtain ⟨⟨k, nv, X, h1, h2, h3, h4⟩, hi, hbl, hba, ht, hr, hsh, hhe, hm, hw⟩ := h
  refine ⟨⟨k, nv, X, hO.at h1 (by omega), h2, ⟨?_, fun x hx => (h3.2 x hx).keep fun b cs' hb => hO.at hb (at_other hb hA (by decide))⟩, h4⟩, hi, hbl.trans (hO.1.mono (by have := hba; omega)), hba, ht, hr, hsh, fun b hF => Nat.lt_of_lt_of_le (hhe b hF) hO.1.size, hm, hw⟩
  obtain ⟨hl, ⟨rfl, h0⟩ | ⟨k, cap, cur, rfl, hbb, hG, hn, hm, hc, hx⟩⟩ := h3.1
  · exact ⟨hl, Or.inl ⟨rfl, h0⟩⟩
  · exact ⟨hl, Or.inr ⟨k, cap, cur, rfl, hbb, hO.at (t := 83) hG (fun e => hg (by rw [← h2, ← e]; rfl)), hn, hm, hc, hx⟩⟩
/-- the parser, and a node's box besides -/
structure PdX (c : Ctx) (fd : Value) (W : List (Tx × Nat)) (en rb B : Nat) (g0 : Option Nat) (w0 : World) (D : Nat) (a0 a1 a2 a3 : Value) (g : Option Nat) (s : RS) (w : World) : Prop where
  pd : PdAt c fd W en w rb g B s
  trn : Trn rb g0 g w0 w
  box : At w D #[a0, a1, a2, a3] 83
  far : g ≠ some D
  old : rb < w0.heap.size
  late : w0.heap.size ≤ D
section
variable {c : Ctx} {fd : Value} {W : List (Tx × Nat)} {en rb B B' D : Nat} {g0 g g' : Option Nat} {s s' : RS} {w0 w w' : World} {a0 a1 a2 a3 : Value}
theorem PdX.callT (h : PdX c fd W en rb B g0 w0 D a0 a1 a2 a3 g s w) (h' : PdAt c fd W en w' rb g' B' s') (t : Trn rb g g' w w') : PdX c fd W en rb B' g0 w0 D a0 a1 a2 a3 g' s' w' :=
  ⟨h', h.trn.trans t, t.at h.box (by have := h.old; have := h.late; omega) h.far, t.far h.box.lt h.far, h.old, h.late⟩
theorem PdX.callO (h : PdX c fd W en rb B g0 w0 D a0 a1 a2 a3 g s w) (h' : PdAt c fd W en w' rb g B' s') (t : Onl rb w w') : PdX c fd W en rb B' g0 w0 D a0 a1 a2 a3 g s' w' := h.callT h' (Trn.of t)
theorem PdX.grow (h : PdX c fd W en rb B g0 w0 D a0 a1 a2 a3 g s w) (hb : Below w.heap.size w w') : PdX c fd W en rb B g0 w0 D a0 a1 a2 a3 g s w' := h.callO (h.pd.grow hb) (h.pd.onl hb)
theorem PdX.put (h : PdX c fd W en rb B g0 w0 D a0 a1 a2 a3 g s w) (i : Nat) (v : Value) {b0 b1 b2 b3 : Value} (hx : (#[a0, a1, a2, a3] : Array Value).set! i v = #[b0, b1, b2, b3]) (hi : i < 4) : PdX c fd W en rb B g0 w0 D b0 b1 b2 b3 g s (w.setCell ⟨D, i, none⟩ v) := by
  have hO := (Onl.refl D w).set i v
  refine ⟨h.pd.other hO h.box (by have := h.old; have := h.late; omega) h.far, h.trn.other hO h.late h.old, ?_, h.far, h.old, h.late⟩
  rw [← hx]
  exact At.set h.box i v (by simpa using hi)
theorem PdX.fresh (h : PdAt c fd W en w rb g B s) (t : Trn rb g0 g w0 w) (ho : rb < w0.heap.size) (x0 x1 x2 x3 : Value) : PdX c fd W en rb B g0 w0 w.heap.size x0 x1 x2 x3 g s (w.alloc (.cells #[x0, x1, x2, x3] 83)) :=
  ⟨h.grow (boxT w _), t.trans (Trn.of (h.onl (boxT w _))), At.new w _ _, fun e => by have := h.gLt e; omega, ho, t.1.size⟩
end
end Go.Proofs.YtkhklndmbfbnoaaGreatDoor

/- The document's parser: an expression's inside. -/
namespace Go.Proofs.YtkhklndmbfbnoaaGreatDoor
open Go.ChangeShapes Go.WideShapes Go.ChangeAt Go.RowKit Go.Joins Go.Deep
set_option linter.unusedVariables false

set_option maxRecDepth 100000 in
set_option maxHeartbeats 3200000 in
theorem plain_ref {c : Ctx} {fd : Value} {W : List (Tx × Nat)} {en rb : Nat} {g : Option Nat} {s : RS} {n Bx : Nat} (hBx : Bx ≤ 900) (ex : RS → Int × RS) (hF : Fng W n ex) (hexb : ∀ s, Inv W s → s.bad ≠ none → ∃ v, ex s = (v, s)) (HQ : ∀ (c : Ctx) s g w, s.bad = none → s.ar ≤ 20 → Dp n s → PdAt c fd W en w rb g Bx s → Calls Tryz.prog 90 #[.pointer (some ⟨rb, 0, none⟩)] w (RQ c fd W en rb g Bx (ex s) w)) (hg : s.bad = none) (hd : Dp n s) (w : World) (h : PdAt c fd W en w rb g Bx s) (hr : wdR W s = [38]) : Calls Tryz.prog 120 #[.pointer (some ⟨rb, 0, none⟩)] w (RQ c fd W en rb g (Bx + 8) (exprI W en ex s) w) := by
  have cS := rsee_any w h
  unfold SeeP at cS
  have hlt0 := h.lt
  have hls : (wdR W s).length ≤ 100000 := h.short s.k
  obtain ⟨y, hy⟩ : ∃ y : ByteArray, y = ⟨(wdR W s).toArray⟩ := ⟨_, rfl⟩
  have hyl : y.data.toList = wdR W s := by rw [hy]
  have cS1 : Calls Tryz.prog 29 #[.pointer (some ⟨rb, 0, none⟩)] w (fun e w' => e = .returned (.string y) ∧ Below w.heap.size w w') := cS.mono (fun e w' ⟨l, he, hl, _, _, hb⟩ => ⟨by rw [he, hl hg, hy], hb⟩)
  clear cS hy
  have hp : 0 < y.size := by rw [← len_text, hyl, hr]; decide
  have hdg : digB y[0] = false := by
    have h1 := head_text hp
    rw [hyl, hr] at h1
    rw [← h1]; decide
  have cD := fun w => rDigit_any y[0] w
  rw [hdg] at cD
  have q38 : (y.toList == [38]) = true := by rw [text_eq, hyl, hr]; decide
  have hne : wdR W s ≠ [] := by rw [hr]; decide
  have hE : exprI W en ex s = nodeR W ⟨13, [], 0, [(placeR W en ex (passR s)).1]⟩ (placeR W en ex (passR s)).2 := by unfold exprI; rw [hr, if_neg (by decide), if_neg (by decide), if_neg (by decide), if_pos rfl]
  have EQ := Lib.hid hE
  clear hE hdg hr hls hyl
  have HH := Lib.hid (And.intro h (Ok.refl h.inv hd))
  clear h
  go_enter Tryz.func120, Tryz.ntmps120
  go_wp2_with fail
  refine cS1.mono ?_
  rintro e w1 ⟨rfl, hb1⟩
  have K2 := HH.out.2
  have X2 : PdX c fd W en rb Bx g w w1.heap.size (.int .i64 0) (.string ⟨#[]⟩) (.int .i64 0) (.slice none 0 0) g s (w1.alloc (.cells #[.int .i64 0, .string ⟨#[]⟩, .int .i64 0, .slice none 0 0] 83)) := PdX.fresh (HH.out.1.grow hb1) (Trn.of (HH.out.1.onl hb1)) hlt0 _ _ _ _
  clear HH hb1 cS1 hlt0
  go_wp2_with fail
  refine (cD _).mono ?_
  rintro e w3 ⟨rfl, hw3⟩
  subst hw3
  clear cD
  obtain ⟨k, nv, hA, hk, _⟩ := X2.pd.cells
  obtain rfl := hk hg
  have hWl : W.length ≤ 1000000 := by obtain ⟨_, _, _, hl, _⟩ := X2.pd.toks; exact hl
  have hlt0 := wdR_lt hne
  have hk10 : s.k ≤ 1000000 := by omega
  have pc0 : (w1.alloc (.cells #[.int .i64 0, .string ⟨#[]⟩, .int .i64 0, .slice none 0 0] 83)).cell? ⟨rb, 2, none⟩ = some (.int .i64 (s.k : Nat)) := hA.cell 2 rfl
  have pg0 := At.free hA 2
  have X3 : PdX c fd W en rb Bx g w w1.heap.size (.int .i64 0) (.string ⟨#[]⟩) (.int .i64 0) (.slice none 0 0) g (passR s) ((w1.alloc (.cells #[.int .i64 0, .string ⟨#[]⟩, .int .i64 0, .slice none 0 0] 83)).setCell ⟨rb, 2, none⟩ (.int .i64 ((s.k : Int) + 1))) := X2.callO (X2.pd.bumpG hg hlt0) ((Onl.refl rb (w1.alloc (.cells #[.int .i64 0, .string ⟨#[]⟩, .int .i64 0, .slice none 0 0] 83))).set 2 _)
  have K3 := K2.pass hne
  clear hA hk hWl
  have pa1 := X3.box.cell 0 rfl
  have pf1 := At.free X3.box 0
  have X4 : PdX c fd W en rb Bx g w w1.heap.size (.int .i64 13) (.string ⟨#[]⟩) (.int .i64 0) (.slice none 0 0) g (passR s) (((w1.alloc (.cells #[.int .i64 0, .string ⟨#[]⟩, .int .i64 0, .slice none 0 0] 83)).setCell ⟨rb, 2, none⟩ (.int .i64 ((s.k : Int) + 1))).setCell ⟨w1.heap.size, 0, none⟩ (.int .i64 13)) := X3.put 0 (.int .i64 13) rfl (by decide)
  have K4 := K3
  go_wp2_with fail
  clear pc0 pg0 hk10 hlt0 pa1 pf1
  have hq5 : (passR s).bad = none := hg
  refine (where_first (B := 0) hBx ex hF hexb HQ hq5 K4.2.2.2 _ (X4.pd.anyB (B' := Bx) hq5 (by omega))).mono ?_
  rintro e w5x ⟨g5, v5, rfl, hv5, h, O⟩
  have X5 : PdX c fd W en rb (Bx + 4) g w w1.heap.size (.int .i64 13) (.string ⟨#[]⟩) (.int .i64 0) (.slice none 0 0) g5 (placeR W en ex (passR s)).2 w5x := X4.callT h O
  have K5 := place_ok (en := en) hF K4
  clear h O X4
  have hps := ps1_ok (op := 13) (name := ([] : Tx)) (n := 0) v5 X5.pd.lt X5.pd.held
  have X6 : PdX c fd W en rb (Bx + 4) g w w1.heap.size (.int .i64 13) (.string ⟨#[]⟩) (.int .i64 0) (.slice none 0 0) g5 (placeR W en ex (passR s)).2 (w5x.alloc (.cells #[.int .i64 v5] 3)) := X5.grow (boxT w5x (.cells #[.int .i64 v5] 3))
  have K6 := K5
  have pa2 := X6.box.cell 3 rfl
  have pf2 := At.free X6.box 3
  have X7 : PdX c fd W en rb (Bx + 4) g w w1.heap.size (.int .i64 13) (.string ⟨#[]⟩) (.int .i64 0) (.slice (some ⟨w5x.heap.size, 0, none⟩) 1 1) g5 (placeR W en ex (passR s)).2 ((w5x.alloc (.cells #[.int .i64 v5] 3)).setCell ⟨w1.heap.size, 3, none⟩ (.slice (some ⟨w5x.heap.size, 0, none⟩) 1 1)) := X6.put 3 (.slice (some ⟨w5x.heap.size, 0, none⟩) 1 1) rfl (by decide)
  have K7 := K6
  replace hps := hps.keep fun b cs hb => ((Onl.refl (w1.heap.size) (w5x.alloc (.cells #[.int .i64 v5] 3))).set 3 (.slice (some ⟨w5x.heap.size, 0, none⟩) 1 1)).at hb (at_other hb X6.box (by decide))
  by_cases hb : (placeR W en ex (passR s)).2.bad = none
  · obtain rfl := hv5 hb
    have e0 := X7.box.cell 0 rfl
    have e1 := X7.box.cell 1 rfl
    have e2 := X7.box.cell 2 rfl
    have e3 := X7.box.cell 3 rfl
    have c6 : ((w5x.alloc (.cells #[.int .i64 (placeR W en ex (passR s)).1] 3)).setCell ⟨w1.heap.size, 3, none⟩ (.slice (some ⟨w5x.heap.size, 0, none⟩) 1 1)).cell? ⟨rb, 6, none⟩ = some (.int .i64 0) := by have := X7.pd.err; rw [hb] at this; exact this
    go_wp2_with fail
    clear pa2 pf2 c6 e0 e1 e2 e3
    refine (radd_any ⟨⟨13, [], 0, [(placeR W en ex (passR s)).1]⟩, _, _⟩ _ X7.pd hps hb (K7.room hb)).mono ?_
    rintro e w9 ⟨g9, v9, rfl, hv9, h9, T9⟩
    go_wp2_with fail
    go_ret
    rw [EQ.out]
    exact ⟨g9, v9, rfl, hv9, h9.more (by omega) (by omega), X7.trn.trans T9⟩
  · have c6 := X7.pd.err
    have q6 := bad_err2 X7.pd.inv hb
    have q7 := bad_err X7.pd.inv hb
    generalize ((placeR W en ex (passR s)).2.bad.getD (0, 0)).2 = er at c6 q6 q7
    go_wp2_with fail
    clear pa2 pf2 c6 q6 q7
    go_ret
    rw [show exprI W en ex s = (0, (placeR W en ex (passR s)).2) from EQ.out.trans (nodeR_bad _ hb)]
    exact ⟨g5, 0, rfl, fun h => absurd h hb, X7.pd.more (by omega) (by omega), X7.trn⟩
set_option maxRecDepth 100000 in
set_option maxHeartbeats 3200000 in
theorem plain_turn45 {c : Ctx} {fd : Value} {W : List (Tx × Nat)} {en rb : Nat} {g : Option Nat} {s : RS} {n Bx : Nat} (hBx : Bx ≤ 900) (ex : RS → Int × RS) (hF : Fng W n ex) (hexb : ∀ s, Inv W s → s.bad ≠ none → ∃ v, ex s = (v, s)) (HQ : ∀ (c : Ctx) s g w, s.bad = none → s.ar ≤ 20 → Dp n s → PdAt c fd W en w rb g Bx s → Calls Tryz.prog 90 #[.pointer (some ⟨rb, 0, none⟩)] w (RQ c fd W en rb g Bx (ex s) w)) (hg : s.bad = none) (hd : Dp n s) (w : World) (h : PdAt c fd W en w rb g Bx s) (hr : wdR W s = [45]) : Calls Tryz.prog 120 #[.pointer (some ⟨rb, 0, none⟩)] w (RQ c fd W en rb g (Bx + 8) (exprI W en ex s) w) := by
  have cS := rsee_any w h
  unfold SeeP at cS
  have hlt0 := h.lt
  have hls : (wdR W s).length ≤ 100000 := h.short s.k
  obtain ⟨y, hy⟩ : ∃ y : ByteArray, y = ⟨(wdR W s).toArray⟩ := ⟨_, rfl⟩
  have hyl : y.data.toList = wdR W s := by rw [hy]
  have cS1 : Calls Tryz.prog 29 #[.pointer (some ⟨rb, 0, none⟩)] w (fun e w' => e = .returned (.string y) ∧ Below w.heap.size w w') := cS.mono (fun e w' ⟨l, he, hl, _, _, hb⟩ => ⟨by rw [he, hl hg, hy], hb⟩)
  clear cS hy
  have hp : 0 < y.size := by rw [← len_text, hyl, hr]; decide
  have hdg : digB y[0] = false := by
    have h1 := head_text hp
    rw [hyl, hr] at h1
    rw [← h1]; decide
  have cD := fun w => rDigit_any y[0] w
  rw [hdg] at cD
  have q38 : (y.toList == [38]) = false := by rw [text_eq, hyl, hr]; decide
  have q45 : (y.toList == [45]) = true := by rw [text_eq, hyl, hr]; decide
  have hne : wdR W s ≠ [] := by rw [hr]; decide
  have hE : exprI W en ex s = nodeR W ⟨15, y.data.toList, 0, [(ex (passR s)).1]⟩ (ex (passR s)).2 := by unfold exprI; rw [hyl, hr, if_neg (by decide), if_neg (by decide), if_pos (by decide)]
  have EQ := Lib.hid hE
  clear hE hdg hr hls hyl
  have HH := Lib.hid (And.intro h (Ok.refl h.inv hd))
  clear h
  go_enter Tryz.func120, Tryz.ntmps120
  go_wp2_with fail
  refine cS1.mono ?_
  rintro e w1 ⟨rfl, hb1⟩
  have K2 := HH.out.2
  have X2 : PdX c fd W en rb Bx g w w1.heap.size (.int .i64 0) (.string ⟨#[]⟩) (.int .i64 0) (.slice none 0 0) g s (w1.alloc (.cells #[.int .i64 0, .string ⟨#[]⟩, .int .i64 0, .slice none 0 0] 83)) := PdX.fresh (HH.out.1.grow hb1) (Trn.of (HH.out.1.onl hb1)) hlt0 _ _ _ _
  clear HH hb1 cS1 hlt0
  go_wp2_with fail
  refine (cD _).mono ?_
  rintro e w3 ⟨rfl, hw3⟩
  subst hw3
  clear cD
  obtain ⟨k, nv, hA, hk, _⟩ := X2.pd.cells
  obtain rfl := hk hg
  have hWl : W.length ≤ 1000000 := by obtain ⟨_, _, _, hl, _⟩ := X2.pd.toks; exact hl
  have hlt0 := wdR_lt hne
  have hk10 : s.k ≤ 1000000 := by omega
  have pc0 : (w1.alloc (.cells #[.int .i64 0, .string ⟨#[]⟩, .int .i64 0, .slice none 0 0] 83)).cell? ⟨rb, 2, none⟩ = some (.int .i64 (s.k : Nat)) := hA.cell 2 rfl
  have pg0 := At.free hA 2
  have X3 : PdX c fd W en rb Bx g w w1.heap.size (.int .i64 0) (.string ⟨#[]⟩) (.int .i64 0) (.slice none 0 0) g (passR s) ((w1.alloc (.cells #[.int .i64 0, .string ⟨#[]⟩, .int .i64 0, .slice none 0 0] 83)).setCell ⟨rb, 2, none⟩ (.int .i64 ((s.k : Int) + 1))) := X2.callO (X2.pd.bumpG hg hlt0) ((Onl.refl rb (w1.alloc (.cells #[.int .i64 0, .string ⟨#[]⟩, .int .i64 0, .slice none 0 0] 83))).set 2 _)
  have K3 := K2.pass hne
  clear hA hk hWl
  have pa1 := X3.box.cell 0 rfl
  have pf1 := At.free X3.box 0
  have X4 : PdX c fd W en rb Bx g w w1.heap.size (.int .i64 15) (.string ⟨#[]⟩) (.int .i64 0) (.slice none 0 0) g (passR s) (((w1.alloc (.cells #[.int .i64 0, .string ⟨#[]⟩, .int .i64 0, .slice none 0 0] 83)).setCell ⟨rb, 2, none⟩ (.int .i64 ((s.k : Int) + 1))).setCell ⟨w1.heap.size, 0, none⟩ (.int .i64 15)) := X3.put 0 (.int .i64 15) rfl (by decide)
  have K4 := K3
  have pa2 := X4.box.cell 1 rfl
  have pf2 := At.free X4.box 1
  have X5 : PdX c fd W en rb Bx g w w1.heap.size (.int .i64 15) (.string y) (.int .i64 0) (.slice none 0 0) g (passR s) ((((w1.alloc (.cells #[.int .i64 0, .string ⟨#[]⟩, .int .i64 0, .slice none 0 0] 83)).setCell ⟨rb, 2, none⟩ (.int .i64 ((s.k : Int) + 1))).setCell ⟨w1.heap.size, 0, none⟩ (.int .i64 15)).setCell ⟨w1.heap.size, 1, none⟩ (.string y)) := X4.put 1 (.string y) rfl (by decide)
  have K5 := K4
  go_wp2_with fail
  clear pc0 pg0 hk10 hlt0 pa1 pf1 pa2 pf2
  have hq6 : (passR s).bad = none := hg
  refine (HQ c (passR s) g _ hq6 (K5.2.2.2 hq6).2 K5.2.2.2 (X5.pd.anyB (B' := Bx) hq6 (by omega))).mono ?_
  rintro e w6x ⟨g6, v6, rfl, hv6, h, O⟩
  have X6 : PdX c fd W en rb Bx g w w1.heap.size (.int .i64 15) (.string y) (.int .i64 0) (.slice none 0 0) g6 (ex (passR s)).2 w6x := X5.callT h O
  have K6 := K5.fn hF
  clear h O X5
  have hps := ps1_ok (op := 15) (name := y.data.toList) (n := 0) v6 X6.pd.lt X6.pd.held
  have X7 : PdX c fd W en rb Bx g w w1.heap.size (.int .i64 15) (.string y) (.int .i64 0) (.slice none 0 0) g6 (ex (passR s)).2 (w6x.alloc (.cells #[.int .i64 v6] 3)) := X6.grow (boxT w6x (.cells #[.int .i64 v6] 3))
  have K7 := K6
  have pa3 := X7.box.cell 3 rfl
  have pf3 := At.free X7.box 3
  have X8 : PdX c fd W en rb Bx g w w1.heap.size (.int .i64 15) (.string y) (.int .i64 0) (.slice (some ⟨w6x.heap.size, 0, none⟩) 1 1) g6 (ex (passR s)).2 ((w6x.alloc (.cells #[.int .i64 v6] 3)).setCell ⟨w1.heap.size, 3, none⟩ (.slice (some ⟨w6x.heap.size, 0, none⟩) 1 1)) := X7.put 3 (.slice (some ⟨w6x.heap.size, 0, none⟩) 1 1) rfl (by decide)
  have K8 := K7
  replace hps := hps.keep fun b cs hb => ((Onl.refl (w1.heap.size) (w6x.alloc (.cells #[.int .i64 v6] 3))).set 3 (.slice (some ⟨w6x.heap.size, 0, none⟩) 1 1)).at hb (at_other hb X7.box (by decide))
  by_cases hb : (ex (passR s)).2.bad = none
  · obtain rfl := hv6 hb
    have e0 := X8.box.cell 0 rfl
    have e1 := X8.box.cell 1 rfl
    have e2 := X8.box.cell 2 rfl
    have e3 := X8.box.cell 3 rfl
    have c6 : ((w6x.alloc (.cells #[.int .i64 (ex (passR s)).1] 3)).setCell ⟨w1.heap.size, 3, none⟩ (.slice (some ⟨w6x.heap.size, 0, none⟩) 1 1)).cell? ⟨rb, 6, none⟩ = some (.int .i64 0) := by have := X8.pd.err; rw [hb] at this; exact this
    go_wp2_with fail
    clear pa3 pf3 c6 e0 e1 e2 e3
    refine (radd_any ⟨⟨15, y.data.toList, 0, [(ex (passR s)).1]⟩, _, _⟩ _ X8.pd hps hb (K8.room hb)).mono ?_
    rintro e w9 ⟨g9, v9, rfl, hv9, h9, T9⟩
    go_wp2_with fail
    go_ret
    rw [EQ.out]
    exact ⟨g9, v9, rfl, hv9, h9.more (by omega) (by omega), X8.trn.trans T9⟩
  · have c6 := X8.pd.err
    have q6 := bad_err2 X8.pd.inv hb
    have q7 := bad_err X8.pd.inv hb
    generalize ((ex (passR s)).2.bad.getD (0, 0)).2 = er at c6 q6 q7
    go_wp2_with fail
    clear pa3 pf3 c6 q6 q7
    go_ret
    rw [show exprI W en ex s = (0, (ex (passR s)).2) from EQ.out.trans (nodeR_bad _ hb)]
    exact ⟨g6, 0, rfl, fun h => absurd h hb, X8.pd.more (by omega) (by omega), X8.trn⟩
set_option maxRecDepth 100000 in
set_option maxHeartbeats 3200000 in
theorem plain_turn126 {c : Ctx} {fd : Value} {W : List (Tx × Nat)} {en rb : Nat} {g : Option Nat} {s : RS} {n Bx : Nat} (hBx : Bx ≤ 900) (ex : RS → Int × RS) (hF : Fng W n ex) (hexb : ∀ s, Inv W s → s.bad ≠ none → ∃ v, ex s = (v, s)) (HQ : ∀ (c : Ctx) s g w, s.bad = none → s.ar ≤ 20 → Dp n s → PdAt c fd W en w rb g Bx s → Calls Tryz.prog 90 #[.pointer (some ⟨rb, 0, none⟩)] w (RQ c fd W en rb g Bx (ex s) w)) (hg : s.bad = none) (hd : Dp n s) (w : World) (h : PdAt c fd W en w rb g Bx s) (hr : wdR W s = [126]) : Calls Tryz.prog 120 #[.pointer (some ⟨rb, 0, none⟩)] w (RQ c fd W en rb g (Bx + 8) (exprI W en ex s) w) := by
  have cS := rsee_any w h
  unfold SeeP at cS
  have hlt0 := h.lt
  have hls : (wdR W s).length ≤ 100000 := h.short s.k
  obtain ⟨y, hy⟩ : ∃ y : ByteArray, y = ⟨(wdR W s).toArray⟩ := ⟨_, rfl⟩
  have hyl : y.data.toList = wdR W s := by rw [hy]
  have cS1 : Calls Tryz.prog 29 #[.pointer (some ⟨rb, 0, none⟩)] w (fun e w' => e = .returned (.string y) ∧ Below w.heap.size w w') := cS.mono (fun e w' ⟨l, he, hl, _, _, hb⟩ => ⟨by rw [he, hl hg, hy], hb⟩)
  clear cS hy
  have hp : 0 < y.size := by rw [← len_text, hyl, hr]; decide
  have hdg : digB y[0] = false := by
    have h1 := head_text hp
    rw [hyl, hr] at h1
    rw [← h1]; decide
  have cD := fun w => rDigit_any y[0] w
  rw [hdg] at cD
  have q38 : (y.toList == [38]) = false := by rw [text_eq, hyl, hr]; decide
  have q45 : (y.toList == [45]) = false := by rw [text_eq, hyl, hr]; decide
  have q126 : (y.toList == [126]) = true := by rw [text_eq, hyl, hr]; decide
  have hne : wdR W s ≠ [] := by rw [hr]; decide
  have hE : exprI W en ex s = nodeR W ⟨15, y.data.toList, 0, [(ex (passR s)).1]⟩ (ex (passR s)).2 := by unfold exprI; rw [hyl, hr, if_neg (by decide), if_neg (by decide), if_pos (by decide)]
  have EQ := Lib.hid hE
  clear hE hdg hr hls hyl
  have HH := Lib.hid (And.intro h (Ok.refl h.inv hd))
  clear h
  go_enter Tryz.func120, Tryz.ntmps120
  go_wp2_with fail
  refine cS1.mono ?_
  rintro e w1 ⟨rfl, hb1⟩
  have K2 := HH.out.2
  have X2 : PdX c fd W en rb Bx g w w1.heap.size (.int .i64 0) (.string ⟨#[]⟩) (.int .i64 0) (.slice none 0 0) g s (w1.alloc (.cells #[.int .i64 0, .string ⟨#[]⟩, .int .i64 0, .slice none 0 0] 83)) := PdX.fresh (HH.out.1.grow hb1) (Trn.of (HH.out.1.onl hb1)) hlt0 _ _ _ _
  clear HH hb1 cS1 hlt0
  go_wp2_with fail
  refine (cD _).mono ?_
  rintro e w3 ⟨rfl, hw3⟩
  subst hw3
  clear cD
  obtain ⟨k, nv, hA, hk, _⟩ := X2.pd.cells
  obtain rfl := hk hg
  have hWl : W.length ≤ 1000000 := by obtain ⟨_, _, _, hl, _⟩ := X2.pd.toks; exact hl
  have hlt0 := wdR_lt hne
  have hk10 : s.k ≤ 1000000 := by omega
  have pc0 : (w1.alloc (.cells #[.int .i64 0, .string ⟨#[]⟩, .int .i64 0, .slice none 0 0] 83)).cell? ⟨rb, 2, none⟩ = some (.int .i64 (s.k : Nat)) := hA.cell 2 rfl
  have pg0 := At.free hA 2
  have X3 : PdX c fd W en rb Bx g w w1.heap.size (.int .i64 0) (.string ⟨#[]⟩) (.int .i64 0) (.slice none 0 0) g (passR s) ((w1.alloc (.cells #[.int .i64 0, .string ⟨#[]⟩, .int .i64 0, .slice none 0 0] 83)).setCell ⟨rb, 2, none⟩ (.int .i64 ((s.k : Int) + 1))) := X2.callO (X2.pd.bumpG hg hlt0) ((Onl.refl rb (w1.alloc (.cells #[.int .i64 0, .string ⟨#[]⟩, .int .i64 0, .slice none 0 0] 83))).set 2 _)
  have K3 := K2.pass hne
  clear hA hk hWl
  have pa1 := X3.box.cell 0 rfl
  have pf1 := At.free X3.box 0
  have X4 : PdX c fd W en rb Bx g w w1.heap.size (.int .i64 15) (.string ⟨#[]⟩) (.int .i64 0) (.slice none 0 0) g (passR s) (((w1.alloc (.cells #[.int .i64 0, .string ⟨#[]⟩, .int .i64 0, .slice none 0 0] 83)).setCell ⟨rb, 2, none⟩ (.int .i64 ((s.k : Int) + 1))).setCell ⟨w1.heap.size, 0, none⟩ (.int .i64 15)) := X3.put 0 (.int .i64 15) rfl (by decide)
  have K4 := K3
  have pa2 := X4.box.cell 1 rfl
  have pf2 := At.free X4.box 1
  have X5 : PdX c fd W en rb Bx g w w1.heap.size (.int .i64 15) (.string y) (.int .i64 0) (.slice none 0 0) g (passR s) ((((w1.alloc (.cells #[.int .i64 0, .string ⟨#[]⟩, .int .i64 0, .slice none 0 0] 83)).setCell ⟨rb, 2, none⟩ (.int .i64 ((s.k : Int) + 1))).setCell ⟨w1.heap.size, 0, none⟩ (.int .i64 15)).setCell ⟨w1.heap.size, 1, none⟩ (.string y)) := X4.put 1 (.string y) rfl (by decide)
  have K5 := K4
  go_wp2_with fail
  clear pc0 pg0 hk10 hlt0 pa1 pf1 pa2 pf2
  have hq6 : (passR s).bad = none := hg
  refine (HQ c (passR s) g _ hq6 (K5.2.2.2 hq6).2 K5.2.2.2 (X5.pd.anyB (B' := Bx) hq6 (by omega))).mono ?_
  rintro e w6x ⟨g6, v6, rfl, hv6, h, O⟩
  have X6 : PdX c fd W en rb Bx g w w1.heap.size (.int .i64 15) (.string y) (.int .i64 0) (.slice none 0 0) g6 (ex (passR s)).2 w6x := X5.callT h O
  have K6 := K5.fn hF
  clear h O X5
  have hps := ps1_ok (op := 15) (name := y.data.toList) (n := 0) v6 X6.pd.lt X6.pd.held
  have X7 : PdX c fd W en rb Bx g w w1.heap.size (.int .i64 15) (.string y) (.int .i64 0) (.slice none 0 0) g6 (ex (passR s)).2 (w6x.alloc (.cells #[.int .i64 v6] 3)) := X6.grow (boxT w6x (.cells #[.int .i64 v6] 3))
  have K7 := K6
  have pa3 := X7.box.cell 3 rfl
  have pf3 := At.free X7.box 3
  have X8 : PdX c fd W en rb Bx g w w1.heap.size (.int .i64 15) (.string y) (.int .i64 0) (.slice (some ⟨w6x.heap.size, 0, none⟩) 1 1) g6 (ex (passR s)).2 ((w6x.alloc (.cells #[.int .i64 v6] 3)).setCell ⟨w1.heap.size, 3, none⟩ (.slice (some ⟨w6x.heap.size, 0, none⟩) 1 1)) := X7.put 3 (.slice (some ⟨w6x.heap.size, 0, none⟩) 1 1) rfl (by decide)
  have K8 := K7
  replace hps := hps.keep fun b cs hb => ((Onl.refl (w1.heap.size) (w6x.alloc (.cells #[.int .i64 v6] 3))).set 3 (.slice (some ⟨w6x.heap.size, 0, none⟩) 1 1)).at hb (at_other hb X7.box (by decide))
  by_cases hb : (ex (passR s)).2.bad = none
  · obtain rfl := hv6 hb
    have e0 := X8.box.cell 0 rfl
    have e1 := X8.box.cell 1 rfl
    have e2 := X8.box.cell 2 rfl
    have e3 := X8.box.cell 3 rfl
    have c6 : ((w6x.alloc (.cells #[.int .i64 (ex (passR s)).1] 3)).setCell ⟨w1.heap.size, 3, none⟩ (.slice (some ⟨w6x.heap.size, 0, none⟩) 1 1)).cell? ⟨rb, 6, none⟩ = some (.int .i64 0) := by have := X8.pd.err; rw [hb] at this; exact this
    go_wp2_with fail
    clear pa3 pf3 c6 e0 e1 e2 e3
    refine (radd_any ⟨⟨15, y.data.toList, 0, [(ex (passR s)).1]⟩, _, _⟩ _ X8.pd hps hb (K8.room hb)).mono ?_
    rintro e w9 ⟨g9, v9, rfl, hv9, h9, T9⟩
    go_wp2_with fail
    go_ret
    rw [EQ.out]
    exact ⟨g9, v9, rfl, hv9, h9.more (by omega) (by omega), X8.trn.trans T9⟩
  · have c6 := X8.pd.err
    have q6 := bad_err2 X8.pd.inv hb
    have q7 := bad_err X8.pd.inv hb
    generalize ((ex (passR s)).2.bad.getD (0, 0)).2 = er at c6 q6 q7
    go_wp2_with fail
    clear pa3 pf3 c6 q6 q7
    go_ret
    rw [show exprI W en ex s = (0, (ex (passR s)).2) from EQ.out.trans (nodeR_bad _ hb)]
    exact ⟨g6, 0, rfl, fun h => absurd h hb, X8.pd.more (by omega) (by omega), X8.trn⟩
set_option maxRecDepth 100000 in
set_option maxHeartbeats 3200000 in
theorem plain_turn33 {c : Ctx} {fd : Value} {W : List (Tx × Nat)} {en rb : Nat} {g : Option Nat} {s : RS} {n Bx : Nat} (hBx : Bx ≤ 900) (ex : RS → Int × RS) (hF : Fng W n ex) (hexb : ∀ s, Inv W s → s.bad ≠ none → ∃ v, ex s = (v, s)) (HQ : ∀ (c : Ctx) s g w, s.bad = none → s.ar ≤ 20 → Dp n s → PdAt c fd W en w rb g Bx s → Calls Tryz.prog 90 #[.pointer (some ⟨rb, 0, none⟩)] w (RQ c fd W en rb g Bx (ex s) w)) (hg : s.bad = none) (hd : Dp n s) (w : World) (h : PdAt c fd W en w rb g Bx s) (hr : wdR W s = [33]) : Calls Tryz.prog 120 #[.pointer (some ⟨rb, 0, none⟩)] w (RQ c fd W en rb g (Bx + 8) (exprI W en ex s) w) := by
  have cS := rsee_any w h
  unfold SeeP at cS
  have hlt0 := h.lt
  have hls : (wdR W s).length ≤ 100000 := h.short s.k
  obtain ⟨y, hy⟩ : ∃ y : ByteArray, y = ⟨(wdR W s).toArray⟩ := ⟨_, rfl⟩
  have hyl : y.data.toList = wdR W s := by rw [hy]
  have cS1 : Calls Tryz.prog 29 #[.pointer (some ⟨rb, 0, none⟩)] w (fun e w' => e = .returned (.string y) ∧ Below w.heap.size w w') := cS.mono (fun e w' ⟨l, he, hl, _, _, hb⟩ => ⟨by rw [he, hl hg, hy], hb⟩)
  clear cS hy
  have hp : 0 < y.size := by rw [← len_text, hyl, hr]; decide
  have hdg : digB y[0] = false := by
    have h1 := head_text hp
    rw [hyl, hr] at h1
    rw [← h1]; decide
  have cD := fun w => rDigit_any y[0] w
  rw [hdg] at cD
  have q38 : (y.toList == [38]) = false := by rw [text_eq, hyl, hr]; decide
  have q45 : (y.toList == [45]) = false := by rw [text_eq, hyl, hr]; decide
  have q126 : (y.toList == [126]) = false := by rw [text_eq, hyl, hr]; decide
  have q33 : (y.toList == [33]) = true := by rw [text_eq, hyl, hr]; decide
  have hne : wdR W s ≠ [] := by rw [hr]; decide
  have hE : exprI W en ex s = nodeR W ⟨15, y.data.toList, 0, [(ex (passR s)).1]⟩ (ex (passR s)).2 := by unfold exprI; rw [hyl, hr, if_neg (by decide), if_neg (by decide), if_pos (by decide)]
  have EQ := Lib.hid hE
  clear hE hdg hr hls hyl
  have HH := Lib.hid (And.intro h (Ok.refl h.inv hd))
  clear h
  go_enter Tryz.func120, Tryz.ntmps120
  go_wp2_with fail
  refine cS1.mono ?_
  rintro e w1 ⟨rfl, hb1⟩
  have K2 := HH.out.2
  have X2 : PdX c fd W en rb Bx g w w1.heap.size (.int .i64 0) (.string ⟨#[]⟩) (.int .i64 0) (.slice none 0 0) g s (w1.alloc (.cells #[.int .i64 0, .string ⟨#[]⟩, .int .i64 0, .slice none 0 0] 83)) := PdX.fresh (HH.out.1.grow hb1) (Trn.of (HH.out.1.onl hb1)) hlt0 _ _ _ _
  clear HH hb1 cS1 hlt0
  go_wp2_with fail
  refine (cD _).mono ?_
  rintro e w3 ⟨rfl, hw3⟩
  subst hw3
  clear cD
  obtain ⟨k, nv, hA, hk, _⟩ := X2.pd.cells
  obtain rfl := hk hg
  have hWl : W.length ≤ 1000000 := by obtain ⟨_, _, _, hl, _⟩ := X2.pd.toks; exact hl
  have hlt0 := wdR_lt hne
  have hk10 : s.k ≤ 1000000 := by omega
  have pc0 : (w1.alloc (.cells #[.int .i64 0, .string ⟨#[]⟩, .int .i64 0, .slice none 0 0] 83)).cell? ⟨rb, 2, none⟩ = some (.int .i64 (s.k : Nat)) := hA.cell 2 rfl
  have pg0 := At.free hA 2
  have X3 : PdX c fd W en rb Bx g w w1.heap.size (.int .i64 0) (.string ⟨#[]⟩) (.int .i64 0) (.slice none 0 0) g (passR s) ((w1.alloc (.cells #[.int .i64 0, .string ⟨#[]⟩, .int .i64 0, .slice none 0 0] 83)).setCell ⟨rb, 2, none⟩ (.int .i64 ((s.k : Int) + 1))) := X2.callO (X2.pd.bumpG hg hlt0) ((Onl.refl rb (w1.alloc (.cells #[.int .i64 0, .string ⟨#[]⟩, .int .i64 0, .slice none 0 0] 83))).set 2 _)
  have K3 := K2.pass hne
  clear hA hk hWl
  have pa1 := X3.box.cell 0 rfl
  have pf1 := At.free X3.box 0
  have X4 : PdX c fd W en rb Bx g w w1.heap.size (.int .i64 15) (.string ⟨#[]⟩) (.int .i64 0) (.slice none 0 0) g (passR s) (((w1.alloc (.cells #[.int .i64 0, .string ⟨#[]⟩, .int .i64 0, .slice none 0 0] 83)).setCell ⟨rb, 2, none⟩ (.int .i64 ((s.k : Int) + 1))).setCell ⟨w1.heap.size, 0, none⟩ (.int .i64 15)) := X3.put 0 (.int .i64 15) rfl (by decide)
  have K4 := K3
  have pa2 := X4.box.cell 1 rfl
  have pf2 := At.free X4.box 1
  have X5 : PdX c fd W en rb Bx g w w1.heap.size (.int .i64 15) (.string y) (.int .i64 0) (.slice none 0 0) g (passR s) ((((w1.alloc (.cells #[.int .i64 0, .string ⟨#[]⟩, .int .i64 0, .slice none 0 0] 83)).setCell ⟨rb, 2, none⟩ (.int .i64 ((s.k : Int) + 1))).setCell ⟨w1.heap.size, 0, none⟩ (.int .i64 15)).setCell ⟨w1.heap.size, 1, none⟩ (.string y)) := X4.put 1 (.string y) rfl (by decide)
  have K5 := K4
  go_wp2_with fail
  clear pc0 pg0 hk10 hlt0 pa1 pf1 pa2 pf2
  have hq6 : (passR s).bad = none := hg
  refine (HQ c (passR s) g _ hq6 (K5.2.2.2 hq6).2 K5.2.2.2 (X5.pd.anyB (B' := Bx) hq6 (by omega))).mono ?_
  rintro e w6x ⟨g6, v6, rfl, hv6, h, O⟩
  have X6 : PdX c fd W en rb Bx g w w1.heap.size (.int .i64 15) (.string y) (.int .i64 0) (.slice none 0 0) g6 (ex (passR s)).2 w6x := X5.callT h O
  have K6 := K5.fn hF
  clear h O X5
  have hps := ps1_ok (op := 15) (name := y.data.toList) (n := 0) v6 X6.pd.lt X6.pd.held
  have X7 : PdX c fd W en rb Bx g w w1.heap.size (.int .i64 15) (.string y) (.int .i64 0) (.slice none 0 0) g6 (ex (passR s)).2 (w6x.alloc (.cells #[.int .i64 v6] 3)) := X6.grow (boxT w6x (.cells #[.int .i64 v6] 3))
  have K7 := K6
  have pa3 := X7.box.cell 3 rfl
  have pf3 := At.free X7.box 3
  have X8 : PdX c fd W en rb Bx g w w1.heap.size (.int .i64 15) (.string y) (.int .i64 0) (.slice (some ⟨w6x.heap.size, 0, none⟩) 1 1) g6 (ex (passR s)).2 ((w6x.alloc (.cells #[.int .i64 v6] 3)).setCell ⟨w1.heap.size, 3, none⟩ (.slice (some ⟨w6x.heap.size, 0, none⟩) 1 1)) := X7.put 3 (.slice (some ⟨w6x.heap.size, 0, none⟩) 1 1) rfl (by decide)
  have K8 := K7
  replace hps := hps.keep fun b cs hb => ((Onl.refl (w1.heap.size) (w6x.alloc (.cells #[.int .i64 v6] 3))).set 3 (.slice (some ⟨w6x.heap.size, 0, none⟩) 1 1)).at hb (at_other hb X7.box (by decide))
  by_cases hb : (ex (passR s)).2.bad = none
  · obtain rfl := hv6 hb
    have e0 := X8.box.cell 0 rfl
    have e1 := X8.box.cell 1 rfl
    have e2 := X8.box.cell 2 rfl
    have e3 := X8.box.cell 3 rfl
    have c6 : ((w6x.alloc (.cells #[.int .i64 (ex (passR s)).1] 3)).setCell ⟨w1.heap.size, 3, none⟩ (.slice (some ⟨w6x.heap.size, 0, none⟩) 1 1)).cell? ⟨rb, 6, none⟩ = some (.int .i64 0) := by have := X8.pd.err; rw [hb] at this; exact this
    go_wp2_with fail
    clear pa3 pf3 c6 e0 e1 e2 e3
    refine (radd_any ⟨⟨15, y.data.toList, 0, [(ex (passR s)).1]⟩, _, _⟩ _ X8.pd hps hb (K8.room hb)).mono ?_
    rintro e w9 ⟨g9, v9, rfl, hv9, h9, T9⟩
    go_wp2_with fail
    go_ret
    rw [EQ.out]
    exact ⟨g9, v9, rfl, hv9, h9.more (by omega) (by omega), X8.trn.trans T9⟩
  · have c6 := X8.pd.err
    have q6 := bad_err2 X8.pd.inv hb
    have q7 := bad_err X8.pd.inv hb
    generalize ((ex (passR s)).2.bad.getD (0, 0)).2 = er at c6 q6 q7
    go_wp2_with fail
    clear pa3 pf3 c6 q6 q7
    go_ret
    rw [show exprI W en ex s = (0, (ex (passR s)).2) from EQ.out.trans (nodeR_bad _ hb)]
    exact ⟨g6, 0, rfl, fun h => absurd h hb, X8.pd.more (by omega) (by omega), X8.trn⟩
set_option maxRecDepth 100000 in
set_option maxHeartbeats 3200000 in
theorem plain_number {c : Ctx} {fd : Value} {W : List (Tx × Nat)} {en rb : Nat} {g : Option Nat} {s : RS} {n Bx : Nat} (hBx : Bx ≤ 900) (ex : RS → Int × RS) (hF : Fng W n ex) (hexb : ∀ s, Inv W s → s.bad ≠ none → ∃ v, ex s = (v, s)) (HQ : ∀ (c : Ctx) s g w, s.bad = none → s.ar ≤ 20 → Dp n s → PdAt c fd W en w rb g Bx s → Calls Tryz.prog 90 #[.pointer (some ⟨rb, 0, none⟩)] w (RQ c fd W en rb g Bx (ex s) w)) (hg : s.bad = none) (hd : Dp n s) (w : World) (h : PdAt c fd W en w rb g Bx s) (hn : numB (wdR W s) = true) : Calls Tryz.prog 120 #[.pointer (some ⟨rb, 0, none⟩)] w (RQ c fd W en rb g (Bx + 8) (exprI W en ex s) w) := by
  have cS := rsee_any w h
  unfold SeeP at cS
  have hlt0 := h.lt
  have hls : (wdR W s).length ≤ 100000 := h.short s.k
  obtain ⟨y, hy⟩ : ∃ y : ByteArray, y = ⟨(wdR W s).toArray⟩ := ⟨_, rfl⟩
  have hyl : y.data.toList = wdR W s := by rw [hy]
  have cS1 : Calls Tryz.prog 29 #[.pointer (some ⟨rb, 0, none⟩)] w (fun e w' => e = .returned (.string y) ∧ Below w.heap.size w w') := cS.mono (fun e w' ⟨l, he, hl, _, _, hb⟩ => ⟨by rw [he, hl hg, hy], hb⟩)
  clear cS hy
  have hp : 0 < y.size := by
    rw [← len_text, hyl]
    cases hw : wdR W s with
    | nil => rw [hw] at hn; revert hn; decide
    | cons a r => simp
  have hdg : digB y[0] = true := by
    have h1 := head_text hp
    rw [← h1, hyl]
    unfold numB at hn
    rw [Bool.and_eq_true] at hn
    exact hn.2
  have cD := fun w => rDigit_any y[0] w
  rw [hdg] at cD
  have EQ := Lib.hid (show exprI W en ex s = nodeR W ⟨12, (needR W en numKB (needWR W en [58] (needNR W en s).2)).1, (needNR W en s).1, []⟩ (needR W en numKB (needWR W en [58] (needNR W en s).2)).2 from by unfold exprI; rw [if_pos hn]; rfl)
  clear hdg hn hls hyl
  have HH := Lib.hid (And.intro h (Ok.refl h.inv hd))
  clear h
  go_enter Tryz.func120, Tryz.ntmps120
  go_wp2_with fail
  refine cS1.mono ?_
  rintro e w1 ⟨rfl, hb1⟩
  have K2 := HH.out.2
  have X2 : PdX c fd W en rb Bx g w w1.heap.size (.int .i64 12) (.string ⟨#[]⟩) (.int .i64 0) (.slice none 0 0) g s (w1.alloc (.cells #[.int .i64 12, .string ⟨#[]⟩, .int .i64 0, .slice none 0 0] 83)) := PdX.fresh (HH.out.1.grow hb1) (Trn.of (HH.out.1.onl hb1)) hlt0 _ _ _ _
  clear HH hb1 cS1 hlt0
  go_wp2_with fail
  refine (cD _).mono ?_
  rintro e w3 ⟨rfl, hw3⟩
  subst hw3
  clear cD
  go_wp2_with fail
  refine (rtakesNumber_any (B := Bx) (by omega) _ X2.pd).mono ?_
  rintro e w3x ⟨v3, rfl, hv3, h, O⟩
  have X3 : PdX c fd W en rb (Bx + 1) g w w1.heap.size (.int .i64 12) (.string ⟨#[]⟩) (.int .i64 0) (.slice none 0 0) g (needNR W en s).2 w3x := X2.callO h O
  have K3 := K2.need (en := en) (p := numB) (by decide)
  clear h O X2
  have pa0 := X3.box.cell 2 rfl
  have pf0 := At.free X3.box 2
  have X4 : PdX c fd W en rb (Bx + 1) g w w1.heap.size (.int .i64 12) (.string ⟨#[]⟩) (.int .i64 v3) (.slice none 0 0) g (needNR W en s).2 (w3x.setCell ⟨w1.heap.size, 2, none⟩ (.int .i64 v3)) := X3.put 2 (.int .i64 v3) rfl (by decide)
  have K4 := K3
  go_wp2_with fail
  clear pa0 pf0
  refine (rtakes_any ⟨#[58]⟩ (by decide) _ X4.pd).mono ?_
  rintro e w5x ⟨rfl, h, O⟩
  have X5 : PdX c fd W en rb (Bx + 1) g w w1.heap.size (.int .i64 12) (.string ⟨#[]⟩) (.int .i64 v3) (.slice none 0 0) g (needWR W en [58] (needNR W en s).2) w5x := X4.callO h O
  have K5 := K4.needW (en := en) (x := [58]) (by decide)
  clear h O X4
  by_cases hb : (needWR W en [58] (needNR W en s).2).bad = none
  · have c6 : w5x.cell? ⟨rb, 6, none⟩ = some (.int .i64 0) := by have := X5.pd.err; rw [hb] at this; exact this
    go_wp2_with fail
    clear c6
    refine (rtakesKindN_any (B := (Bx + 1)) (by omega) _ X5.pd).mono ?_
    rintro e w6x ⟨v6, rfl, hv6, h, O⟩
    have X6 : PdX c fd W en rb ((Bx + 1) + 1) g w w1.heap.size (.int .i64 12) (.string ⟨#[]⟩) (.int .i64 v3) (.slice none 0 0) g (needR W en numKB (needWR W en [58] (needNR W en s).2)).2 w6x := X5.callO h O
    have K6 := K5.need (en := en) (p := numKB) (by decide)
    clear h O X5
    have pa1 := X6.box.cell 1 rfl
    have pf1 := At.free X6.box 1
    have X7 : PdX c fd W en rb ((Bx + 1) + 1) g w w1.heap.size (.int .i64 12) (txV v6) (.int .i64 v3) (.slice none 0 0) g (needR W en numKB (needWR W en [58] (needNR W en s).2)).2 (w6x.setCell ⟨w1.heap.size, 1, none⟩ (txV v6)) := X6.put 1 (txV v6) rfl (by decide)
    have K7 := K6
    by_cases hb2 : (needR W en numKB (needWR W en [58] (needNR W en s).2)).2.bad = none
    · have hy0 := needR_good (p := numKB) hb2
      have hy1 := needR_good (p := fun y => y == [58]) hb
      obtain rfl := hv6 hb2
      obtain rfl := hv3 hy1
      have e0 := X7.box.cell 0 rfl
      have e1 := X7.box.cell 1 rfl
      have e2 := X7.box.cell 2 rfl
      have e3 := X7.box.cell 3 rfl
      have hps : PsOK c.F (w6x.setCell ⟨w1.heap.size, 1, none⟩ (txV (needR W en numKB (needWR W en [58] (needNR W en s).2)).1)) (rb + 1) ⟨⟨12, (needR W en numKB (needWR W en [58] (needNR W en s).2)).1, (needNR W en s).1, []⟩, none, 0⟩ := Or.inl ⟨rfl, rfl, rfl⟩
      have c6 : (w6x.setCell ⟨w1.heap.size, 1, none⟩ (txV (needR W en numKB (needWR W en [58] (needNR W en s).2)).1)).cell? ⟨rb, 6, none⟩ = some (.int .i64 0) := by have := X7.pd.err; rw [hb2] at this; exact this
      go_wp2_with fail
      clear pa1 pf1 c6 e0 e1 e2 e3
      refine (radd_any ⟨⟨12, (needR W en numKB (needWR W en [58] (needNR W en s).2)).1, (needNR W en s).1, []⟩, _, _⟩ _ X7.pd hps hb2 (K7.room hb2)).mono ?_
      rintro e w9 ⟨g9, v9, rfl, hv9, h9, T9⟩
      go_wp2_with fail
      go_ret
      rw [EQ.out]
      exact ⟨g9, v9, rfl, hv9, h9.more (by omega) (by omega), X7.trn.trans T9⟩
    · have c6 := X7.pd.err
      have q6 := bad_err2 X7.pd.inv hb2
      have q7 := bad_err X7.pd.inv hb2
      generalize ((needR W en numKB (needWR W en [58] (needNR W en s).2)).2.bad.getD (0, 0)).2 = er at c6 q6 q7
      go_wp2_with fail
      clear pa1 pf1 c6 q6 q7
      go_ret
      rw [show exprI W en ex s = (0, (needR W en numKB (needWR W en [58] (needNR W en s).2)).2) from EQ.out.trans (nodeR_bad _ hb2)]
      exact ⟨g, 0, rfl, fun h => absurd h hb2, X7.pd.more (by omega) (by omega), X7.trn⟩
  · have e9 := EQ.out
    rw [needR_bad _ (by decide) X5.pd.inv hb, nodeR_bad _ hb] at e9
    have c6 := X5.pd.err
    have q6 := bad_err2 X5.pd.inv hb
    have q7 := bad_err X5.pd.inv hb
    generalize ((needWR W en [58] (needNR W en s).2).bad.getD (0, 0)).2 = er at c6 q6 q7
    go_wp2_with fail
    clear c6 q6 q7
    go_ret
    rw [show exprI W en ex s = (0, (needWR W en [58] (needNR W en s).2)) from e9]
    exact ⟨g, 0, rfl, fun h => absurd h hb, X5.pd.more (by omega) (by omega), X5.trn⟩
end Go.Proofs.YtkhklndmbfbnoaaGreatDoor
