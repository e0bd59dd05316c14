/- The document's parser: expressions. -/
import Derived.Test.YtkhklndmbfbnoaaGreatDoorQPlain5
import Derived.Test.YtkhklndmbfbnoaaGreatDoorTGram5
import Derived.Test.YtkhklndmbfbnoaaGreatDoorTGram8
namespace Go.Proofs.YtkhklndmbfbnoaaGreatDoor
open Go.ChangeShapes Go.WideShapes Go.ChangeAt Go.RowKit Go.Joins Go.Deep
set_option linter.unusedVariables false

set_option maxRecDepth 100000 in
set_option maxHeartbeats 3200000 in
theorem plain_any {c : Ctx} {fd : Value} {W : List (Tx × Nat)} {en rb : Nat} {g : Option Nat} {s : RS} {n Bx : Nat} (hBx : Bx ≤ 900) (ex : RS → Int × RS) (hF : Fng W n ex) (hexb : ∀ s, Inv W s → s.bad ≠ none → ∃ v, ex s = (v, s)) (HQ : ∀ (c : Ctx) s g w, s.bad = none → s.ar ≤ 20 → Dp n s → PdAt c fd W en w rb g Bx s → Calls Tryz.prog 90 #[.pointer (some ⟨rb, 0, none⟩)] w (RQ c fd W en rb g Bx (ex s) w)) (hg : s.bad = none) (hd : Dp n s) (w : World) (h : PdAt c fd W en w rb g Bx s) : Calls Tryz.prog 120 #[.pointer (some ⟨rb, 0, none⟩)] w (RQ c fd W en rb g (Bx + 8) (exprI W en ex s) w) := by
  by_cases hn : numB (wdR W s) = true
  · exact plain_number hBx ex hF hexb HQ hg hd w h hn
  · by_cases hk : numKB (wdR W s) = true
    · exact plain_cast hBx ex hF hexb HQ hg hd w h hk
    · by_cases ht : turnB (wdR W s) = true
      · have h3 : wdR W s = [45] ∨ wdR W s = [126] ∨ wdR W s = [33] := by
          unfold turnB at ht
          simpa [or_assoc] using ht
        rcases h3 with h3 | h3 | h3
        · exact plain_turn45 hBx ex hF hexb HQ hg hd w h h3
        · exact plain_turn126 hBx ex hF hexb HQ hg hd w h h3
        · exact plain_turn33 hBx ex hF hexb HQ hg hd w h h3
      · by_cases hr : wdR W s = [38]
        · exact plain_ref hBx ex hF hexb HQ hg hd w h hr
        · by_cases hp : wdR W s = [40]
          · exact plain_two hBx ex hF hexb HQ hg hd w h hp
          · exact plain_place hBx ex hF hexb HQ hg hd w h (Bool.eq_false_iff.mpr hn) (Bool.eq_false_iff.mpr hk) (Bool.eq_false_iff.mpr ht) hr hp
set_option maxHeartbeats 1600000 in
theorem exprQ_deep {n Bx : Nat} {c : Ctx} {fd : Value} {W : List (Tx × Nat)} {en rb : Nat} {g : Option Nat} {s : RS} (ex : RS → Int × RS) (hg : s.bad = none) (h20 : s.ar = 20) (w : World) (h : PdAt c fd W en w rb g Bx s) : Calls Tryz.prog 90 #[.pointer (some ⟨rb, 0, none⟩)] w (RQ c fd W en rb g Bx (exprB W en ex s) w) := by
  have hbE : (enterR W en s).bad ≠ none := by unfold enterR; rw [if_pos h20]; exact fail_bad (W := W)
  rw [exprB_bad h.inv hbE]
  have cI := rin_deep w h hg h20
  unfold NQ at cI
  have h1a : 1 ≤ (enterR W en s).ar := by unfold enterR; rw [if_pos h20]; show 1 ≤ s.ar + 1; omega
  have HB := Lib.hid hbE
  clear h hg h20 hbE
  generalize enterR W en s = sa at *
  go_enter Tryz.func90, Tryz.ntmps90
  go_wp2_with fail
  refine cI.mono ?_
  rintro e w1 ⟨rfl, h1, O1⟩
  have hi4 : Inv W (leaveR sa) := h1.inv
  have har : 1 ≤ (sa).ar := by rw [show sa.ar = sa.ar from rfl]; exact h1a
  obtain ⟨k4, nv4, hA4, _⟩ := h1.cells
  have d4 : w1.cell? ⟨rb, 4, none⟩ = some (.int .i64 ((sa).ar : Nat)) := hA4.cell 4 rfl
  have f4 := At.free hA4 4
  have fin := h1.deep (s' := leaveR sa) hi4 (by have := h1.room; show (sa).ar - 1 ≤ 30; omega) rfl rfl (fun _ => rfl)
  rw [show ((leaveR sa).ar : Int) = (((sa).ar : Int) - 1) from by show (((sa).ar - 1 : Nat) : Int) = _; omega] at fin
  have hOf := (Onl.refl rb w1).set 4 (.int .i64 (((sa).ar : Int) - 1))
  have hr4 : ((sa).ar : Int) ≤ 30 := by have := h1.room; omega
  have FIN := Lib.hid (And.intro fin hOf)
  clear cI fin hOf hA4 hi4 h1 har h1a
  generalize sa.ar = ka at *
  go_wp2_with fail
  go_ret
  exact ⟨g, 0, rfl, fun h => absurd h HB.out, FIN.out.1, Trn.of (O1.trans FIN.out.2)⟩
set_option maxHeartbeats 1600000 in
theorem exprQ_ok {n Bx : Nat} {c : Ctx} {fd : Value} {W : List (Tx × Nat)} {en rb : Nat} {g : Option Nat} {s : RS} (hBx : Bx ≤ 900) (ex : RS → Int × RS) (hF : Fng W n ex) (hexb : ∀ s, Inv W s → s.bad ≠ none → ∃ v, ex s = (v, s)) (HQ : ∀ (c : Ctx) s g w, s.bad = none → s.ar ≤ 20 → Dp n s → PdAt c fd W en w rb g Bx s → Calls Tryz.prog 90 #[.pointer (some ⟨rb, 0, none⟩)] w (RQ c fd W en rb g Bx (ex s) w)) (hg : s.bad = none) (h20 : s.ar < 20) (hd : Dp n (enterR W en s)) (w : World) (h : PdAt c fd W en w rb g Bx s) : Calls Tryz.prog 90 #[.pointer (some ⟨rb, 0, none⟩)] w (RQ c fd W en rb g (Bx + 8) (exprB W en ex s) w) := by
  have hB : exprB W en ex s = ((exprI W en ex (enterR W en s)).1, leaveR (exprI W en ex (enterR W en s)).2) := rfl
  rw [hB]
  have cI := rin_ok w h hg h20
  unfold NQ at cI
  have h1a : 1 ≤ (enterR W en s).ar := by unfold enterR; rw [if_neg (by omega)]; show 1 ≤ s.ar + 1; omega
  have hga : (enterR W en s).bad = none := by unfold enterR; rw [if_neg (by omega)]; exact hg
  clear h hg h20 hB
  generalize enterR W en s = sa at *
  go_enter Tryz.func90, Tryz.ntmps90
  go_wp2_with fail
  refine cI.mono ?_
  rintro e w1 ⟨rfl, h1, O1⟩
  clear cI
  have hK := exprI_ok (en := en) hF (Ok.refl h1.inv hd)
  go_wp2_with fail
  refine (plain_any hBx ex hF hexb HQ hga hd _ h1).mono ?_
  rintro e w2 ⟨g2, v2, rfl, hv2, h2, T2⟩
  generalize exprI W en ex sa = r at *
  have hra := hK.2.2.1.1
  clear hK
  have hi4 : Inv W (leaveR r.2) := h2.inv
  have har : 1 ≤ (r.2).ar := by rw [hra]; exact h1a
  obtain ⟨k4, nv4, hA4, _⟩ := h2.cells
  have d4 : w2.cell? ⟨rb, 4, none⟩ = some (.int .i64 ((r.2).ar : Nat)) := hA4.cell 4 rfl
  have f4 := At.free hA4 4
  have fin := h2.deep (s' := leaveR r.2) hi4 (by have := h2.room; show (r.2).ar - 1 ≤ 30; omega) rfl rfl (fun _ => rfl)
  rw [show ((leaveR r.2).ar : Int) = (((r.2).ar : Int) - 1) from by show (((r.2).ar - 1 : Nat) : Int) = _; omega] at fin
  have hOf := (Onl.refl rb w2).set 4 (.int .i64 (((r.2).ar : Int) - 1))
  have hr4 : ((r.2).ar : Int) ≤ 30 := by have := h2.room; omega
  have FIN := Lib.hid (And.intro fin hOf)
  have HV := Lib.hid hv2
  clear fin hOf hA4 hi4 h2 har h1a hv2 hra
  have HT := Lib.hid ((Trn.of O1).trans T2)
  clear T2 O1
  generalize hkk : r.2.ar = ka at d4 hr4 FIN
  clear hkk
  go_wp2_with fail
  go_ret
  exact ⟨g2, v2, rfl, HV.out, FIN.out.1, HT.out.trans (Trn.of FIN.out.2)⟩
theorem exprQ_any {fd : Value} {W : List (Tx × Nat)} {en rb : Nat} : ∀ n, n ≤ 40 → ∀ (c : Ctx) s g w, s.bad = none → s.ar ≤ 20 → Dp n s → PdAt c fd W en w rb g (20 * n + 20) s → Calls Tryz.prog 90 #[.pointer (some ⟨rb, 0, none⟩)] w (RQ c fd W en rb g (20 * n + 20) (exprR W en n s) w) := by
  have hexb : ∀ n s, Inv W s → s.bad ≠ none → ∃ v, exprR W en n s = (v, s) := fun n s hi h => ⟨0, by rw [expr_bad n s hi h, leave_enter_bad hi h]⟩
  intro n
  induction n with
  | zero =>
    intro _ c s g w hg ha hd h
    have := hd hg
    have hr := exprQ_deep (n := 0) (fun s => (0, s)) hg (by omega) w h
    exact hr
  | succ n ih =>
    intro hn c s g w hg ha hd h
    by_cases h20 : s.ar = 20
    · exact exprQ_deep (n := 0) (exprR W en n) hg h20 w h
    · have hga : (enterR W en s).bad = none := by unfold enterR; rw [if_neg h20]; exact hg
      obtain ⟨_, _, _, m, hm, hdm⟩ := enter_good hd hga
      obtain rfl : m = n := by omega
      refine (exprQ_ok (n := m) (Bx := 20 * m + 20) (by omega) (exprR W en m) (expr_ok m) (hexb m) (ih (by omega)) hg (by omega) hdm w (h.anyB hg (by omega))).mono fun e w' ⟨g', v, a, b, x, t⟩ => ⟨g', v, a, b, x.more (by omega) (by omega), t⟩
end Go.Proofs.YtkhklndmbfbnoaaGreatDoor

/- A row of parts under way, beside the document's parser. -/
namespace Go.Proofs.YtkhklndmbfbnoaaGreatDoor
open Go.ChangeShapes Go.WideShapes Go.ChangeAt Go.RowKit Go.Joins Go.Deep
set_option linter.unusedVariables false

section
variable {c : Ctx} {fd : Value} {W : List (Tx × Nat)} {en rb sz B B' : Nat} {g g' g0 : Option Nat} {s s' : RS} {w w' w0 : World} {v : Value} {l : List Int}
theorem PdAt.off {b : Nat} {cs : Array Value} (h : PdAt c fd W en w rb g B s) (hA : At w b cs 3) : b ≠ rb ∧ g ≠ some b := by
  obtain ⟨k0, nv, X, h1, h2, h3, _⟩ := h.mem
  refine ⟨at_other hA h1 (by decide), fun e => ?_⟩
  obtain ⟨cs', hc⟩ := row_typed h3 (h2.trans e)
  exact absurd (at_type hc hA) (by decide)
theorem irow_trnQ {n : Nat} {xs : List Value} (h : w.ownsRow sz 3 1 v n xs) (hR : PdAt c fd W en w rb g B s) (hT : Trn rb g g' w w') : w'.ownsRow sz 3 1 v n xs := by
  obtain ⟨hl, ⟨rfl, h0⟩ | ⟨k, cap, cur, rfl, hbb, hg, hn, hm, hc, hx⟩⟩ := h
  · exact ⟨hl, Or.inl ⟨rfl, h0⟩⟩
  · have ho := hR.off (b := k) (cs := cur) hg
    exact ⟨hl, Or.inr ⟨k, cap, cur, rfl, hbb, hT.at (t := 3) hg ho.1 ho.2, hn, hm, hc, hx⟩⟩
theorem PdAt.begin (h : PdAt c fd W en w rb g B s) (hb : Below w.heap.size w w') (v : Value) (hv : ∀ b, v.ownBlock = some b → w.heap.size ≤ b ∧ b < w'.heap.size) : PdAt (c.on v) fd W en w' rb g B s := by
  obtain ⟨⟨k0, nv, X, h1, h2, h3, h4⟩, hi, hbl, hba, ht, hr, hsh, hhe, hmo, hwo⟩ := h
  refine ⟨⟨k0, nv, X, At.below' hb h1, h2, ⟨ownsRow_belowT h3.1 hb, fun x hx => ?_⟩, h4⟩, hi, hbl.trans (hb.mono hbl.size), hba, ht, hr, hsh, fun b hF => hF.elim (fun h => Nat.lt_of_lt_of_le (hhe b h) hb.size) (fun e => (hv b e).2), hmo, hwo⟩
  rcases h3.2 x hx with h | ⟨hc, b, cs, e1, e2, hf, hA, h5⟩
  · exact Or.inl h
  · refine Or.inr ⟨hc, b, cs, e1, e2, fun hF => hF.elim hf fun e => ?_, At.below' hb hA, h5⟩
    have := (hv b e).1
    have := hA.lt
    omega
theorem PdAt.drop (h : PdAt (c.on v) fd W en w rb g B s) : PdAt c fd W en w rb g B s := by
  obtain ⟨⟨k0, nv, X, h1, h2, h3, h4⟩, hi, hbl, hba, ht, hr, hsh, hhe, hmo, hwo⟩ := h
  refine ⟨⟨k0, nv, X, h1, h2, ⟨h3.1, fun x hx => ?_⟩, h4⟩, hi, hbl, hba, ht, hr, hsh, fun b hF => hhe b (Or.inl hF), hmo, hwo⟩
  rcases h3.2 x hx with h | ⟨hc, b, cs, e1, e2, hf, hA, h5⟩
  · exact Or.inl h
  · exact Or.inr ⟨hc, b, cs, e1, e2, fun hF => hf (Or.inl hF), hA, h5⟩
theorem PdAt.grows {n : Nat} {xs : List Value} (h : PdAt (c.on v) fd W en w rb g B s) (hown : w.ownsRow sz 3 1 v n xs) (hsz : rb < sz) (hg : w.grownBy w' v.ownBlock) {k m cap : Nat} (hat : v.ownBlock = some k ∨ k = w.heap.size) (hk : k < w'.heap.size) (hs : w.heap.size ≤ w'.heap.size) : PdAt (c.on (.slice (some ⟨k, 0, none⟩) m cap)) fd W en w' rb g B s := by
  obtain ⟨⟨k0, nv, X, h1, h2, h3, h4⟩, hi, hbl, hba, ht, hr, hsh, hhe, hmo, hwo⟩ := h
  have hne : ∀ b cs t, At w b cs t → t ≠ 3 → v.ownBlock ≠ some b := fun b cs t hA ht e => by
    obtain ⟨cs', hc⟩ := irow_typed hown e
    exact ht (at_type hA hc)
  have hlow : c.w.heap.size ≤ rb := hba
  refine ⟨⟨k0, nv, X, At.grownT h1 hg (hne _ _ _ h1 (by decide)), h2, ⟨?_, fun x hx => ?_⟩, h4⟩, hi, Below.grown hbl hg hbl.size (fun j hj => by have := own_geT hown hj; show c.w.heap.size ≤ j; omega), hba, ht, hr, hsh, fun b hF => hF.elim (fun h => Nat.lt_of_lt_of_le (hhe b (Or.inl h)) hs) (fun e => ?_), hmo, hwo⟩
  · obtain ⟨hl, ⟨rfl, h0⟩ | ⟨k, cap, cur, rfl, hbb, hG, hn, hm, hc, hx⟩⟩ := h3.1
    · exact ⟨hl, Or.inl ⟨rfl, h0⟩⟩
    · exact ⟨hl, Or.inr ⟨k, cap, cur, rfl, hbb, At.grownT (t := 83) hG hg (hne _ _ _ hG (by decide)), hn, hm, hc, hx⟩⟩
  · rcases h3.2 x hx with h | ⟨hc, b, cs, e1, e2, hf, hA, h5⟩
    · exact Or.inl h
    · refine Or.inr ⟨hc, b, cs, e1, e2, fun hF => hF.elim (fun h => hf (Or.inl h)) fun e => ?_, At.grownT hA hg (fun e => hf (Or.inr e)), h5⟩
      have hkb : k = b := by simpa [Value.ownBlock] using e
      subst hkb
      rcases hat with h6 | h6
      · exact hf (Or.inr h6)
      · have := hA.lt
        omega
  · have hkb : k = b := by simpa [Value.ownBlock] using e
    omega
/-- a row of parts under way, begun behind an elder world -/
structure RowQ (c : Ctx) (fd : Value) (W : List (Tx × Nat)) (en rb B : Nat) (w0 : World) (g0 g : Option Nat) (s : RS) (v : Value) (l : List Int) (w : World) : Prop where
  rd : PdAt (c.on v) fd W en w rb g B s
  own : w.ownsRow w0.heap.size 3 1 v l.length (ints l)
  trn : Trn rb g0 g w0 w
  old : rb < w0.heap.size
  elder : ∀ b, c.F b → b < w0.heap.size
theorem RowQ.call (h : RowQ c fd W en rb B w0 g0 g s v l w) (h' : PdAt (c.on v) fd W en w' rb g' B' s') (t : Trn rb g g' w w') : RowQ c fd W en rb B' w0 g0 g' s' v l w' :=
  ⟨h', irow_trnQ h.own h.rd t, h.trn.trans t, h.old, h.elder⟩
theorem RowQ.none (h : PdAt c fd W en w rb g B s) (t : Trn rb g0 g w0 w) (ho : rb < w0.heap.size) (he : ∀ b, c.F b → b < w0.heap.size) : RowQ c fd W en rb B w0 g0 g s (.slice none 0 0) [] w :=
  ⟨h.begin (Below.refl _ _) _ (fun b e => by cases e), ⟨rfl, Or.inl ⟨rfl, rfl⟩⟩, t, ho, he⟩
theorem RowQ.one (a : Int) (h : PdAt c fd W en w rb g B s) (t : Trn rb g0 g w0 w) (ho : rb < w0.heap.size) (he : ∀ b, c.F b → b < w0.heap.size) : RowQ c fd W en rb B w0 g0 g s (.slice (some ⟨w.heap.size, 0, .none⟩) 1 1) [a] (w.alloc (.cells #[.int .i64 a] 3)) := by
  have hb := boxT w (.cells #[.int .i64 a] 3)
  have hs := t.1.size
  have hs0 : w0.heap.size ≤ w.heap.size := hs
  exact ⟨h.begin hb _ (fun b e => by
      have : w.heap.size = b := by simpa [Value.ownBlock] using e
      subst this
      exact ⟨Nat.le_refl _, by show _ < (w.heap.push _).size; simp⟩), ownsRow_lit w w0.heap.size 3 1 1 #[.int .i64 a] hs0 rfl (by decide), t.trans (Trn.of (h.onl hb)), ho, he⟩
theorem RowQ.push {a : Int} {k cap : Nat} (h : RowQ c fd W en rb B w0 g0 g s v l w) (h2 : w'.ownsRow w0.heap.size 3 1 (.slice (some ⟨k, 0, .none⟩) (l.length + 1) cap) (l.length + 1) (ints l ++ [.int .i64 a])) (hg : (w.alloc (.cells #[.int .i64 a] 3)).grownBy w' v.ownBlock) (hat : v.ownBlock = some k ∨ k = (w.alloc (.cells #[.int .i64 a] 3)).heap.size) (hk : k < w'.heap.size) : RowQ c fd W en rb B w0 g0 g s (.slice (some ⟨k, 0, .none⟩) (l.length + 1) cap) (l ++ [a]) w' := by
  have hb := boxT w (.cells #[.int .i64 a] 3)
  have ho := ownsRow_belowT h.own hb
  refine ⟨(h.rd.grow hb).grows ho h.old hg hat hk hg.size, ?_, trn_grows (h.trn.trans (Trn.of (h.rd.onl hb))) ho h.old hg, h.old, h.elder⟩
  rw [← ints_push, List.length_append]
  exact h2
theorem RowQ.form (h : RowQ c fd W en rb B w0 g0 g s v l w) : ∃ q cc, v = .slice q l.length cc := by
  obtain ⟨hl, ⟨rfl, h0⟩ | ⟨k, cap, cur, rfl, hbb, hG, hn, hm, hc, hx⟩⟩ := h.own
  · exact ⟨_, 0, by rw [h0]⟩
  · exact ⟨_, cap, rfl⟩
theorem RowQ.out (h : RowQ c fd W en rb B w0 g0 g s v l w) (op : Int) (name : Tx) (n : Int) : PdAt c fd W en w rb g B s ∧ ∃ q cap, v = .slice q l.length cap ∧ PsOK c.F w (rb + 1) ⟨⟨op, name, n, l⟩, q, cap⟩ := by
  refine ⟨h.rd.drop, ?_⟩
  have hrb := h.old
  obtain ⟨hl, ⟨rfl, h0⟩ | ⟨k, cap, cur, rfl, hbb, hG, hn, hm, hc, hx⟩⟩ := h.own
  · refine ⟨.none, 0, by rw [h0], Or.inl ⟨List.eq_nil_of_length_eq_zero h0, rfl, rfl⟩⟩
  · refine ⟨_, cap, rfl, Or.inr ⟨⟨hn, Nat.le_trans hn hm⟩, k, cur, rfl, by omega, fun hF => by have := h.elder k hF; omega, hG, fun i hi => ?_⟩⟩
    have e1 : (ints l)[i]? = some (.int .i64 (l.getD i 0)) := by
      have hi2 : i < l.length := hi
      simp [ints, List.getD_eq_getElem?_getD, List.getElem?_eq_getElem hi2]
    rw [← hx, List.getElem?_take, if_pos (by have hi2 : i < l.length := hi; omega)] at e1
    simpa using e1
end
end Go.Proofs.YtkhklndmbfbnoaaGreatDoor
