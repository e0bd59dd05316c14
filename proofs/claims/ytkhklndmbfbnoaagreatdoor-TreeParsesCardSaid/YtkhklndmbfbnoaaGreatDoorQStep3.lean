/- The document's parser: if, while. -/
import Derived.Test.YtkhklndmbfbnoaaGreatDoorQStep2
import Derived.Test.YtkhklndmbfbnoaaGreatDoorQBoxR
namespace Go.Proofs.YtkhklndmbfbnoaaGreatDoor
open Go.ChangeShapes Go.WideShapes Go.ChangeAt Go.RowKit Go.Joins Go.Deep
set_option linter.unusedVariables false

set_option maxRecDepth 100000 in
set_option maxHeartbeats 3200000 in
theorem step_while {c : Ctx} {fd : Value} {W : List (Tx × Nat)} {en rb : Nat} {g : Option Nat} {s : RS} {n Bx : Nat} (hBx : Bx ≤ 900) (ex st : RS → Int × RS) (hF : Fng W n ex) (hexb : ∀ s, Inv W s → s.bad ≠ none → ∃ v, ex s = (v, s)) (HQ : ∀ (c : Ctx) s g w, s.bad = none → s.ar ≤ 20 → Dp n s → PdAt c fd W en w rb g Bx s → Calls Tryz.prog 90 #[.pointer (some ⟨rb, 0, none⟩)] w (RQ c fd W en rb g Bx (ex s) w)) (hS : Fng W n st) (HT : ∀ (c : Ctx) s g w, s.bad = none → s.ar ≤ 20 → Dp n s → PdAt c fd W en w rb g Bx s → Calls Tryz.prog 34 #[.pointer (some ⟨rb, 0, none⟩)] w (RQ c fd W en rb g Bx (st s) w)) (hg : s.bad = none) (hd : Dp n s) (w : World) (h : PdAt c fd W en w rb g Bx s) (hr : wdR W s = [119, 104, 105, 108, 101]) : Calls Tryz.prog 63 #[.pointer (some ⟨rb, 0, none⟩)] w (RQ c fd W en rb g (Bx + 8) (stI W en ex st s) w) := by
  have helder := h.held
  have hne : wdR W s ≠ [] := by rw [hr]; decide
  have q0 : (wdR W s == [114, 101, 97, 100]) = false := by rw [hr]; decide
  have q1 : (wdR W s == [110, 101, 119]) = false := by rw [hr]; decide
  have q2 : (wdR W s == [102, 114, 101, 101]) = false := by rw [hr]; decide
  have q3 : (wdR W s == [115, 116, 111, 112]) = false := by rw [hr]; decide
  have q4 : (wdR W s == [105, 102]) = false := by rw [hr]; decide
  have q5 : (wdR W s == [119, 104, 105, 108, 101]) = true := by rw [hr]; decide
  have hpw : needWR W en [119, 104, 105, 108, 101] s = passR s := by unfold needWR needR; rw [if_pos (by rw [hr]; rfl)]
  have EQ := Lib.hid (show stI W en ex st s = nodeR W ⟨22, [], 0, [(ex (passR s)).1, (blockR W en st (ex (passR s)).2).1]⟩ (blockR W en st (ex (passR s)).2).2 from by unfold stI; rw [if_neg (by rw [hr]; decide), if_pos hr, ← hpw]; rfl)
  clear hr hpw
  have X1 : PdX c fd W en rb Bx g w w.heap.size (.int .i64 0) (.string ⟨#[]⟩) (.int .i64 0) (.slice none 0 0) g s (w.alloc (.cells #[.int .i64 0, .string ⟨#[]⟩, .int .i64 0, .slice none 0 0] 83)) := PdX.fresh h (Trn.refl rb g w) h.lt _ _ _ _
  have K1 := Ok.refl h.inv hd
  clear h
  go_enter Tryz.func63, Tryz.ntmps63
  go_wp2_with fail
  refine (rsee_any _ X1.pd).mono ?_
  rintro e w2x ⟨l2, rfl, hl2, _, _, hb⟩
  obtain rfl := hl2 hg
  have X2 := X1.grow hb
  have K2 := K1
  clear hb X1 hl2
  obtain ⟨k, nv, hA, hk, _⟩ := X2.pd.cells
  obtain rfl := hk hg
  have hWl : W.length ≤ 1000000 := by obtain ⟨_, _, _, hl, _⟩ := X2.pd.toks; exact hl
  have hlt0 := wdR_lt hne
  have hk10 : s.k ≤ 1000000 := by omega
  have pc0 : w2x.cell? ⟨rb, 2, none⟩ = some (.int .i64 (s.k : Nat)) := hA.cell 2 rfl
  have pg0 := At.free hA 2
  have X3 : PdX c fd W en rb Bx g w w.heap.size (.int .i64 0) (.string ⟨#[]⟩) (.int .i64 0) (.slice none 0 0) g (passR s) (w2x.setCell ⟨rb, 2, none⟩ (.int .i64 ((s.k : Int) + 1))) := X2.callO (X2.pd.bumpG hg hlt0) ((Onl.refl rb w2x).set 2 _)
  have K3 := K2.pass hne
  clear hA hk hWl
  have pa1 := X3.box.cell 0 rfl
  have pf1 := At.free X3.box 0
  have X4 : PdX c fd W en rb Bx g w w.heap.size (.int .i64 21) (.string ⟨#[]⟩) (.int .i64 0) (.slice none 0 0) g (passR s) ((w2x.setCell ⟨rb, 2, none⟩ (.int .i64 ((s.k : Int) + 1))).setCell ⟨w.heap.size, 0, none⟩ (.int .i64 21)) := X3.put 0 (.int .i64 21) rfl (by decide)
  have K4 := K3
  have pa2 := X4.box.cell 0 rfl
  have pf2 := At.free X4.box 0
  have X5 : PdX c fd W en rb Bx g w w.heap.size (.int .i64 22) (.string ⟨#[]⟩) (.int .i64 0) (.slice none 0 0) g (passR s) (((w2x.setCell ⟨rb, 2, none⟩ (.int .i64 ((s.k : Int) + 1))).setCell ⟨w.heap.size, 0, none⟩ (.int .i64 21)).setCell ⟨w.heap.size, 0, none⟩ (.int .i64 22)) := X4.put 0 (.int .i64 22) rfl (by decide)
  have K5 := K4
  go_wp2_with fail
  clear pc0 pg0 hk10 hlt0 pa1 pf1 pa2 pf2
  have hq6 : (passR s).bad = none := hg
  refine (HQ c (passR s) g _ hq6 (K5.2.2.2 hq6).2 K5.2.2.2 (X5.pd.anyB (B' := Bx) hq6 (by omega))).mono ?_
  rintro e w6x ⟨g6, v6, rfl, hv6, h, O⟩
  have X6 : PdX c fd W en rb Bx g w w.heap.size (.int .i64 22) (.string ⟨#[]⟩) (.int .i64 0) (.slice none 0 0) g6 (ex (passR s)).2 w6x := X5.callT h O
  have K6 := K5.fn hF
  clear h O X5
  have hXg := X6.grow (boxT w6x (.cells #[.int .i64 v6] 3))
  have pa3 := hXg.box.cell 3 rfl
  have pf3 := At.free hXg.box 3
  have X7 : PdB c fd W en rb Bx g w w.heap.size (.int .i64 22) (.string ⟨#[]⟩) (.int .i64 0) (.slice (some ⟨w6x.heap.size, 0, none⟩) 1 1) [v6] g6 (ex (passR s)).2 ((w6x.alloc (.cells #[.int .i64 v6] 3)).setCell ⟨w.heap.size, 3, none⟩ (.slice (some ⟨w6x.heap.size, 0, none⟩) 1 1)) := PdB.one v6 X6 helder
  have K7 := K6
  by_cases hb : (ex (passR s)).2.bad = none
  · obtain rfl := hv6 hb
    have c6 : ((w6x.alloc (.cells #[.int .i64 (ex (passR s)).1] 3)).setCell ⟨w.heap.size, 3, none⟩ (.slice (some ⟨w6x.heap.size, 0, none⟩) 1 1)).cell? ⟨rb, 6, none⟩ = some (.int .i64 0) := by have := X7.pd.err; rw [hb] at this; exact this
    go_upto_region 42 with (fail)
    clear pa3 pf3 hXg c6
    go_cut [3] from 11 to 164 (fun v9 wx => v9 = .pointer (some ⟨w.heap.size, 0, none⟩) ∧ ∃ g9 u9 k9 cap9, ((blockR W en st (ex (passR s)).2).2.bad = none → u9 = (blockR W en st (ex (passR s)).2).1) ∧ PdB c fd W en rb (Bx + 4) g w w.heap.size (.int .i64 22) (.string ⟨#[]⟩) (.int .i64 0) (.slice (some ⟨k9, 0, none⟩) (1 + 1) cap9) ([(ex (passR s)).1] ++ [u9]) g9 (blockR W en st (ex (passR s)).2).2 wx)
    case first =>
      have HB := fun w9 (h9 : PdAt (c.on (.slice (some ⟨w6x.heap.size, 0, none⟩) 1 1)) fd W en w9 rb g6 Bx (ex (passR s)).2) => blockQ_any hBx st hS HT hb K7.2.2.2 w9 (h9.anyB (B' := Bx) hb (by omega))
      obtain ⟨i0, hi0, hz0, hz1, hz2⟩ := info_parts Tryz.infoInt
      have hm1 : 1 + 1 ≤ maxLen := by decide
      have hm2 : (1 + 1) * 8 ≤ 140737488355328 := by decide
      have hXd := X7.grow ((Below.refl ((w6x.alloc (.cells #[.int .i64 (ex (passR s)).1] 3)).setCell ⟨w.heap.size, 3, none⟩ (.slice (some ⟨w6x.heap.size, 0, none⟩) 1 1)).heap.size ((w6x.alloc (.cells #[.int .i64 (ex (passR s)).1] 3)).setCell ⟨w.heap.size, 3, none⟩ (.slice (some ⟨w6x.heap.size, 0, none⟩) 1 1))).drew)
      have c3z : ((w6x.alloc (.cells #[.int .i64 (ex (passR s)).1] 3)).setCell ⟨w.heap.size, 3, none⟩ (.slice (some ⟨w6x.heap.size, 0, none⟩) 1 1)).cell? ⟨w.heap.size, 3, none⟩ = some (.slice (some ⟨w6x.heap.size, 0, none⟩) 1 1) := X7.box.cell 3 rfl
      have HXD := Lib.hid hXd
      clear hXd X7
      go_region_law
        ((first
          | (go_simp; refine (HB _ HXD.out.pd).mono ?_; rintro e w5q ⟨g5q, v5q, rfl, hv5q, h5q, T5q⟩
             have X5q := HXD.out.callT h5q T5q
             have c3a : w5q.cell? ⟨w.heap.size, 3, none⟩ = some (.slice (some ⟨w6x.heap.size, 0, none⟩) 1 1) := X5q.box.cell 3 rfl
             have c3b : (w5q.alloc (.cells #[.int .i64 v5q] 3)).cell? ⟨w.heap.size, 3, none⟩ = some (.slice (some ⟨w6x.heap.size, 0, none⟩) 1 1) := (At.alloc X5q.box _).cell 3 rfl
             have HOW := Lib.hid (ownsRow_belowT X5q.own (boxT w5q (.cells #[.int .i64 v5q] 3)))
             have hsz5 : w.heap.size ≤ w5q.heap.size := X5q.trn.1.size
             have HX5 := Lib.hid (And.intro hv5q X5q)
             clear X5q h5q T5q hv5q)
          | (refine step_append_lies _ (by rfl) _ _ _ (by rfl) w.heap.size 3 i0 _ 1 8 Tryz.underlying23 hi0 hz0 hz1 hz2 rfl (by decide) (.slice (some ⟨w6x.heap.size, 0, none⟩) 1 1) 1 (ints [(ex (passR s)).1]) (by rfl) HOW.out ⟨w5q.heap.size, 0, none⟩ 1 1 [.int .i64 v5q] (by rfl) (by rfl) (World.news_of_block (cs := #[.int .i64 v5q]) (t := 3) (fr := (0, 0)) (heap_alloc_new w5q _)) (by simp [Value.oneCell']) (by omega) hm1 hm2 (by simp; omega) (w5q.heap.size + 1) (by simp) ?_; intro k2q cap2q w8q hown3 hgrow hat hlt3
             have A8q := HX5.out.2.boxGrown hgrow
             have c3e : w8q.cell? ⟨w.heap.size, 3, none⟩ = some (.slice (some ⟨w6x.heap.size, 0, none⟩) 1 1) := A8q.cell 3 rfl
             have f3e : w8q.frozen? ⟨w.heap.size, 3, none⟩ = false := At.free A8q 3
             have HG := Lib.hid (HX5.out.2.push hown3 hgrow (hat.imp id fun h => h.trans (by show _ = (w5q.heap.push _).size; simp)) hlt3)
             clear A8q hown3 hgrow hat hlt3)))
      all_goals (go_wp2_with fail; go_meet; exact ⟨rfl, _, _, _, _, HX5.out.1, HG.out⟩)
    obtain ⟨rfl, g8, v8, k8, cap8, hv8, X8⟩ := hcut
    replace X8 : PdB c fd W en rb (Bx + 4) g w w.heap.size (.int .i64 22) (.string ⟨#[]⟩) (.int .i64 0) (.slice (some ⟨k8, 0, none⟩) (1 + 1) cap8) [(ex (passR s)).1, v8] g8 (blockR W en st (ex (passR s)).2).2 wc := X8
    have K8 := block_ok (en := en) hS K7
    clear X7
    by_cases hb2 : (blockR W en st (ex (passR s)).2).2.bad = none
    · obtain rfl := hv8 hb2
      obtain ⟨hXo, hps⟩ := X8.out 22 [] 0
      have X9 : PdX c fd W en rb (Bx + 4) g w w.heap.size (.int .i64 22) (.string ⟨#[]⟩) (.int .i64 0) (.slice (some ⟨k8, 0, none⟩) (1 + 1) cap8) g8 (blockR W en st (ex (passR s)).2).2 wc := hXo
      have K9 := K8
      clear hXo X8
      have e0 := X9.box.cell 0 rfl
      have e1 := X9.box.cell 1 rfl
      have e2 := X9.box.cell 2 rfl
      have e3 := X9.box.cell 3 rfl
      have c6 : wc.cell? ⟨rb, 6, none⟩ = some (.int .i64 0) := by have := X9.pd.err; rw [hb2] at this; exact this
      go_wp2_with fail
      clear c6 e0 e1 e2 e3
      refine (radd_any ⟨⟨22, [], 0, [(ex (passR s)).1, (blockR W en st (ex (passR s)).2).1]⟩, _, _⟩ _ X9.pd hps hb2 (K9.room hb2)).mono ?_
      rintro e w9 ⟨g9, v9, rfl, hv9, h9, T9⟩
      go_wp2_with fail
      go_ret
      rw [EQ.out]
      exact ⟨g9, v9, rfl, hv9, h9.more (by omega) (by omega), X9.trn.trans T9⟩
    · have hiv := X8.pd.inv
      have e9 := EQ.out
      rw [nodeR_bad _ hb2] at e9
      obtain ⟨hXo, hps⟩ := X8.out 22 [] 0
      have X9 : PdX c fd W en rb (Bx + 4) g w w.heap.size (.int .i64 22) (.string ⟨#[]⟩) (.int .i64 0) (.slice (some ⟨k8, 0, none⟩) (1 + 1) cap8) g8 (blockR W en st (ex (passR s)).2).2 wc := hXo
      have K9 := K8
      clear hXo X8
      have c6 := X9.pd.err
      have q6 := bad_err2 X9.pd.inv hb2
      have q7 := bad_err X9.pd.inv hb2
      generalize ((blockR W en st (ex (passR s)).2).2.bad.getD (0, 0)).2 = er at c6 q6 q7
      go_wp2_with fail
      clear c6 q6 q7
      go_ret
      rw [show stI W en ex st s = (0, (blockR W en st (ex (passR s)).2).2) from e9]
      exact ⟨g8, 0, rfl, fun h => absurd h hb2, X9.pd.more (by omega) (by omega), X9.trn⟩
  · have hiv := X7.pd.inv
    have e9 := EQ.out
    rw [block_bad hiv hb] at e9
    rw [nodeR_bad _ hb] at e9
    obtain ⟨hXo, hps⟩ := X7.out 22 [] 0
    have X8 : PdX c fd W en rb Bx g w w.heap.size (.int .i64 22) (.string ⟨#[]⟩) (.int .i64 0) (.slice (some ⟨w6x.heap.size, 0, none⟩) 1 1) g6 (ex (passR s)).2 ((w6x.alloc (.cells #[.int .i64 v6] 3)).setCell ⟨w.heap.size, 3, none⟩ (.slice (some ⟨w6x.heap.size, 0, none⟩) 1 1)) := hXo
    have K8 := K7
    clear hXo X7
    have c6 := X8.pd.err
    have q6 := bad_err2 X8.pd.inv hb
    have q7 := bad_err X8.pd.inv hb
    generalize ((ex (passR s)).2.bad.getD (0, 0)).2 = er at c6 q6 q7
    go_wp2_with fail
    clear pa3 pf3 hXg c6 q6 q7
    go_ret
    rw [show stI W en ex st s = (0, (ex (passR s)).2) from e9]
    exact ⟨g6, 0, rfl, fun h => absurd h hb, X8.pd.more (by omega) (by omega), X8.trn⟩
set_option maxRecDepth 100000 in
set_option maxHeartbeats 3200000 in
theorem step_if {c : Ctx} {fd : Value} {W : List (Tx × Nat)} {en rb : Nat} {g : Option Nat} {s : RS} {n Bx : Nat} (hBx : Bx ≤ 900) (ex st : RS → Int × RS) (hF : Fng W n ex) (hexb : ∀ s, Inv W s → s.bad ≠ none → ∃ v, ex s = (v, s)) (HQ : ∀ (c : Ctx) s g w, s.bad = none → s.ar ≤ 20 → Dp n s → PdAt c fd W en w rb g Bx s → Calls Tryz.prog 90 #[.pointer (some ⟨rb, 0, none⟩)] w (RQ c fd W en rb g Bx (ex s) w)) (hS : Fng W n st) (HT : ∀ (c : Ctx) s g w, s.bad = none → s.ar ≤ 20 → Dp n s → PdAt c fd W en w rb g Bx s → Calls Tryz.prog 34 #[.pointer (some ⟨rb, 0, none⟩)] w (RQ c fd W en rb g Bx (st s) w)) (hg : s.bad = none) (hd : Dp n s) (w : World) (h : PdAt c fd W en w rb g Bx s) (hr : wdR W s = [105, 102]) : Calls Tryz.prog 63 #[.pointer (some ⟨rb, 0, none⟩)] w (RQ c fd W en rb g (Bx + 8) (stI W en ex st s) w) := by
  have helder := h.held
  have hne : wdR W s ≠ [] := by rw [hr]; decide
  have q0 : (wdR W s == [114, 101, 97, 100]) = false := by rw [hr]; decide
  have q1 : (wdR W s == [110, 101, 119]) = false := by rw [hr]; decide
  have q2 : (wdR W s == [102, 114, 101, 101]) = false := by rw [hr]; decide
  have q3 : (wdR W s == [115, 116, 111, 112]) = false := by rw [hr]; decide
  have q4 : (wdR W s == [105, 102]) = true := by rw [hr]; decide
  have q5 : (wdR W s == [119, 104, 105, 108, 101]) = false := by rw [hr]; decide
  have hpw : needWR W en [105, 102] s = passR s := by unfold needWR needR; rw [if_pos (by rw [hr]; rfl)]
  have EQ := Lib.hid (show stI W en ex st s = (if wdR W (blockR W en st (ex (passR s)).2).2 = [101, 108, 115, 101] then nodeR W ⟨21, [], 0, [(ex (passR s)).1, (blockR W en st (ex (passR s)).2).1, (blockR W en st (passR (blockR W en st (ex (passR s)).2).2)).1]⟩ (blockR W en st (passR (blockR W en st (ex (passR s)).2).2)).2 else nodeR W ⟨21, [], 0, [(ex (passR s)).1, (blockR W en st (ex (passR s)).2).1]⟩ (blockR W en st (ex (passR s)).2).2) from by unfold stI; rw [if_pos hr, ← hpw]; rfl)
  clear hr hpw
  have X1 : PdX c fd W en rb Bx g w w.heap.size (.int .i64 0) (.string ⟨#[]⟩) (.int .i64 0) (.slice none 0 0) g s (w.alloc (.cells #[.int .i64 0, .string ⟨#[]⟩, .int .i64 0, .slice none 0 0] 83)) := PdX.fresh h (Trn.refl rb g w) h.lt _ _ _ _
  have K1 := Ok.refl h.inv hd
  clear h
  go_enter Tryz.func63, Tryz.ntmps63
  go_wp2_with fail
  refine (rsee_any _ X1.pd).mono ?_
  rintro e w2x ⟨l2, rfl, hl2, _, _, hb⟩
  obtain rfl := hl2 hg
  have X2 := X1.grow hb
  have K2 := K1
  clear hb X1 hl2
  obtain ⟨k, nv, hA, hk, _⟩ := X2.pd.cells
  obtain rfl := hk hg
  have hWl : W.length ≤ 1000000 := by obtain ⟨_, _, _, hl, _⟩ := X2.pd.toks; exact hl
  have hlt0 := wdR_lt hne
  have hk10 : s.k ≤ 1000000 := by omega
  have pc0 : w2x.cell? ⟨rb, 2, none⟩ = some (.int .i64 (s.k : Nat)) := hA.cell 2 rfl
  have pg0 := At.free hA 2
  have X3 : PdX c fd W en rb Bx g w w.heap.size (.int .i64 0) (.string ⟨#[]⟩) (.int .i64 0) (.slice none 0 0) g (passR s) (w2x.setCell ⟨rb, 2, none⟩ (.int .i64 ((s.k : Int) + 1))) := X2.callO (X2.pd.bumpG hg hlt0) ((Onl.refl rb w2x).set 2 _)
  have K3 := K2.pass hne
  clear hA hk hWl
  have pa1 := X3.box.cell 0 rfl
  have pf1 := At.free X3.box 0
  have X4 : PdX c fd W en rb Bx g w w.heap.size (.int .i64 21) (.string ⟨#[]⟩) (.int .i64 0) (.slice none 0 0) g (passR s) ((w2x.setCell ⟨rb, 2, none⟩ (.int .i64 ((s.k : Int) + 1))).setCell ⟨w.heap.size, 0, none⟩ (.int .i64 21)) := X3.put 0 (.int .i64 21) rfl (by decide)
  have K4 := K3
  go_wp2_with fail
  clear pc0 pg0 hk10 hlt0 pa1 pf1
  have hq5 : (passR s).bad = none := hg
  refine (HQ c (passR s) g _ hq5 (K4.2.2.2 hq5).2 K4.2.2.2 (X4.pd.anyB (B' := Bx) hq5 (by omega))).mono ?_
  rintro e w5x ⟨g5, v5, rfl, hv5, h, O⟩
  have X5 : PdX c fd W en rb Bx g w w.heap.size (.int .i64 21) (.string ⟨#[]⟩) (.int .i64 0) (.slice none 0 0) g5 (ex (passR s)).2 w5x := X4.callT h O
  have K5 := K4.fn hF
  clear h O X4
  have hXg := X5.grow (boxT w5x (.cells #[.int .i64 v5] 3))
  have pa2 := hXg.box.cell 3 rfl
  have pf2 := At.free hXg.box 3
  have X6 : PdB c fd W en rb Bx g w w.heap.size (.int .i64 21) (.string ⟨#[]⟩) (.int .i64 0) (.slice (some ⟨w5x.heap.size, 0, none⟩) 1 1) [v5] g5 (ex (passR s)).2 ((w5x.alloc (.cells #[.int .i64 v5] 3)).setCell ⟨w.heap.size, 3, none⟩ (.slice (some ⟨w5x.heap.size, 0, none⟩) 1 1)) := PdB.one v5 X5 helder
  have K6 := K5
  by_cases hb : (ex (passR s)).2.bad = none
  · obtain rfl := hv5 hb
    have c6 : ((w5x.alloc (.cells #[.int .i64 (ex (passR s)).1] 3)).setCell ⟨w.heap.size, 3, none⟩ (.slice (some ⟨w5x.heap.size, 0, none⟩) 1 1)).cell? ⟨rb, 6, none⟩ = some (.int .i64 0) := by have := X6.pd.err; rw [hb] at this; exact this
    go_upto_region 42 with (fail)
    clear pa2 pf2 hXg c6
    go_cut [3] from 11 to 164 (fun v9 wx => v9 = .pointer (some ⟨w.heap.size, 0, none⟩) ∧ ∃ g9 u9 k9 cap9, ((blockR W en st (ex (passR s)).2).2.bad = none → u9 = (blockR W en st (ex (passR s)).2).1) ∧ PdB c fd W en rb (Bx + 4) g w w.heap.size (.int .i64 21) (.string ⟨#[]⟩) (.int .i64 0) (.slice (some ⟨k9, 0, none⟩) (1 + 1) cap9) ([(ex (passR s)).1] ++ [u9]) g9 (blockR W en st (ex (passR s)).2).2 wx)
    case first =>
      have HB := fun w9 (h9 : PdAt (c.on (.slice (some ⟨w5x.heap.size, 0, none⟩) 1 1)) fd W en w9 rb g5 Bx (ex (passR s)).2) => blockQ_any hBx st hS HT hb K6.2.2.2 w9 (h9.anyB (B' := Bx) hb (by omega))
      obtain ⟨i0, hi0, hz0, hz1, hz2⟩ := info_parts Tryz.infoInt
      have hm1 : 1 + 1 ≤ maxLen := by decide
      have hm2 : (1 + 1) * 8 ≤ 140737488355328 := by decide
      have hXd := X6.grow ((Below.refl ((w5x.alloc (.cells #[.int .i64 (ex (passR s)).1] 3)).setCell ⟨w.heap.size, 3, none⟩ (.slice (some ⟨w5x.heap.size, 0, none⟩) 1 1)).heap.size ((w5x.alloc (.cells #[.int .i64 (ex (passR s)).1] 3)).setCell ⟨w.heap.size, 3, none⟩ (.slice (some ⟨w5x.heap.size, 0, none⟩) 1 1))).drew)
      have c3z : ((w5x.alloc (.cells #[.int .i64 (ex (passR s)).1] 3)).setCell ⟨w.heap.size, 3, none⟩ (.slice (some ⟨w5x.heap.size, 0, none⟩) 1 1)).cell? ⟨w.heap.size, 3, none⟩ = some (.slice (some ⟨w5x.heap.size, 0, none⟩) 1 1) := X6.box.cell 3 rfl
      have HXD := Lib.hid hXd
      clear hXd X6
      go_region_law
        ((first
          | (go_simp; refine (HB _ HXD.out.pd).mono ?_; rintro e w5q ⟨g5q, v5q, rfl, hv5q, h5q, T5q⟩
             have X5q := HXD.out.callT h5q T5q
             have c3a : w5q.cell? ⟨w.heap.size, 3, none⟩ = some (.slice (some ⟨w5x.heap.size, 0, none⟩) 1 1) := X5q.box.cell 3 rfl
             have c3b : (w5q.alloc (.cells #[.int .i64 v5q] 3)).cell? ⟨w.heap.size, 3, none⟩ = some (.slice (some ⟨w5x.heap.size, 0, none⟩) 1 1) := (At.alloc X5q.box _).cell 3 rfl
             have HOW := Lib.hid (ownsRow_belowT X5q.own (boxT w5q (.cells #[.int .i64 v5q] 3)))
             have hsz5 : w.heap.size ≤ w5q.heap.size := X5q.trn.1.size
             have HX5 := Lib.hid (And.intro hv5q X5q)
             clear X5q h5q T5q hv5q)
          | (refine step_append_lies _ (by rfl) _ _ _ (by rfl) w.heap.size 3 i0 _ 1 8 Tryz.underlying23 hi0 hz0 hz1 hz2 rfl (by decide) (.slice (some ⟨w5x.heap.size, 0, none⟩) 1 1) 1 (ints [(ex (passR s)).1]) (by rfl) HOW.out ⟨w5q.heap.size, 0, none⟩ 1 1 [.int .i64 v5q] (by rfl) (by rfl) (World.news_of_block (cs := #[.int .i64 v5q]) (t := 3) (fr := (0, 0)) (heap_alloc_new w5q _)) (by simp [Value.oneCell']) (by omega) hm1 hm2 (by simp; omega) (w5q.heap.size + 1) (by simp) ?_; intro k2q cap2q w8q hown3 hgrow hat hlt3
             have A8q := HX5.out.2.boxGrown hgrow
             have c3e : w8q.cell? ⟨w.heap.size, 3, none⟩ = some (.slice (some ⟨w5x.heap.size, 0, none⟩) 1 1) := A8q.cell 3 rfl
             have f3e : w8q.frozen? ⟨w.heap.size, 3, none⟩ = false := At.free A8q 3
             have HG := Lib.hid (HX5.out.2.push hown3 hgrow (hat.imp id fun h => h.trans (by show _ = (w5q.heap.push _).size; simp)) hlt3)
             clear A8q hown3 hgrow hat hlt3)))
      all_goals (go_wp2_with fail; go_meet; exact ⟨rfl, _, _, _, _, HX5.out.1, HG.out⟩)
    obtain ⟨rfl, g7, v7, k7, cap7, hv7, X7⟩ := hcut
    replace X7 : PdB c fd W en rb (Bx + 4) g w w.heap.size (.int .i64 21) (.string ⟨#[]⟩) (.int .i64 0) (.slice (some ⟨k7, 0, none⟩) (1 + 1) cap7) [(ex (passR s)).1, v7] g7 (blockR W en st (ex (passR s)).2).2 wc := X7
    have K7 := block_ok (en := en) hS K6
    clear X6
    by_cases hb2 : (blockR W en st (ex (passR s)).2).2.bad = none
    · obtain rfl := hv7 hb2
      have c6 : wc.cell? ⟨rb, 6, none⟩ = some (.int .i64 0) := by have := X7.pd.err; rw [hb2] at this; exact this
      go_wp2_with fail
      clear c6
      refine (rsee_any _ X7.pd).mono ?_
      rintro e w8x ⟨l8, rfl, hl8, _, _, hb⟩
      have X8 : PdB c fd W en rb (Bx + 4) g w w.heap.size (.int .i64 21) (.string ⟨#[]⟩) (.int .i64 0) (.slice (some ⟨k7, 0, none⟩) (1 + 1) cap7) [(ex (passR s)).1, (blockR W en st (ex (passR s)).2).1] g7 (blockR W en st (ex (passR s)).2).2 w8x := X7.grow hb
      have K8 := K7
      clear hb X7
      obtain rfl := hl8 hb2
      by_cases he : wdR W (blockR W en st (ex (passR s)).2).2 = [101, 108, 115, 101]
      · have qe := wq_yes he
        have hne3 : wdR W (blockR W en st (ex (passR s)).2).2 ≠ [] := by rw [he]; decide
        have e8 := EQ.out
        rw [if_pos he] at e8
        clear EQ
        have EQ := Lib.hid e8
        clear e8
        obtain ⟨k, nv, hA, hk, _⟩ := X8.pd.cells
        obtain rfl := hk hb2
        have hWl : W.length ≤ 1000000 := by obtain ⟨_, _, _, hl, _⟩ := X8.pd.toks; exact hl
        have hlt3 := wdR_lt hne3
        have hk13 : (blockR W en st (ex (passR s)).2).2.k ≤ 1000000 := by omega
        have pc3 : w8x.cell? ⟨rb, 2, none⟩ = some (.int .i64 ((blockR W en st (ex (passR s)).2).2.k : Nat)) := hA.cell 2 rfl
        have pg3 := At.free hA 2
        have X9 : PdB c fd W en rb (Bx + 4) g w w.heap.size (.int .i64 21) (.string ⟨#[]⟩) (.int .i64 0) (.slice (some ⟨k7, 0, none⟩) (1 + 1) cap7) [(ex (passR s)).1, (blockR W en st (ex (passR s)).2).1] g7 (passR (blockR W en st (ex (passR s)).2).2) (w8x.setCell ⟨rb, 2, none⟩ (.int .i64 (((blockR W en st (ex (passR s)).2).2.k : Int) + 1))) := X8.callO (X8.pd.bumpG hb2 hlt3) ((Onl.refl rb w8x).set 2 _)
        have K9 := K8.pass hne3
        clear hA hk hWl
        have hb3 : (passR (blockR W en st (ex (passR s)).2).2).bad = none := hb2
        go_upto_region 45 with (fail)
        clear pc3 pg3 hk13 hlt3
        have HB := fun w9 (h9 : PdAt (c.on (.slice (some ⟨k7, 0, none⟩) (1 + 1) cap7)) fd W en w9 rb g7 (Bx + 4) (passR (blockR W en st (ex (passR s)).2).2)) => blockQ_any hBx st hS HT hb3 K9.2.2.2 w9 (h9.anyB (B' := Bx) hb3 (by omega))
        obtain ⟨i0, hi0, hz0, hz1, hz2⟩ := info_parts Tryz.infoInt
        have hm1 : 2 + 1 ≤ maxLen := by decide
        have hm2 : (2 + 1) * 8 ≤ 140737488355328 := by decide
        have hXd := X9.grow ((Below.refl (w8x.setCell ⟨rb, 2, none⟩ (.int .i64 (((blockR W en st (ex (passR s)).2).2.k : Int) + 1))).heap.size (w8x.setCell ⟨rb, 2, none⟩ (.int .i64 (((blockR W en st (ex (passR s)).2).2.k : Int) + 1)))).drew)
        have c3z : (w8x.setCell ⟨rb, 2, none⟩ (.int .i64 (((blockR W en st (ex (passR s)).2).2.k : Int) + 1))).cell? ⟨w.heap.size, 3, none⟩ = some (.slice (some ⟨k7, 0, none⟩) (1 + 1) cap7) := X9.box.cell 3 rfl
        have HXD := Lib.hid hXd
        clear hXd X9
        go_region_law
          ((first
            | (go_simp; refine (HB _ HXD.out.pd).mono ?_; rintro e w5q ⟨g5q, v5q, rfl, hv5q, h5q, T5q⟩
               have X5q := HXD.out.callT h5q T5q
               have c3a : w5q.cell? ⟨w.heap.size, 3, none⟩ = some (.slice (some ⟨k7, 0, none⟩) (1 + 1) cap7) := X5q.box.cell 3 rfl
               have c3b : (w5q.alloc (.cells #[.int .i64 v5q] 3)).cell? ⟨w.heap.size, 3, none⟩ = some (.slice (some ⟨k7, 0, none⟩) (1 + 1) cap7) := (At.alloc X5q.box _).cell 3 rfl
               have HOW := Lib.hid (ownsRow_belowT X5q.own (boxT w5q (.cells #[.int .i64 v5q] 3)))
               have hsz5 : w.heap.size ≤ w5q.heap.size := X5q.trn.1.size
               have HX5 := Lib.hid (And.intro hv5q X5q)
               clear X5q h5q T5q hv5q)
            | (refine step_append_lies _ (by rfl) _ _ _ (by rfl) w.heap.size 3 i0 _ 1 8 Tryz.underlying23 hi0 hz0 hz1 hz2 rfl (by decide) (.slice (some ⟨k7, 0, none⟩) (1 + 1) cap7) 2 (ints [(ex (passR s)).1, (blockR W en st (ex (passR s)).2).1]) (by rfl) HOW.out ⟨w5q.heap.size, 0, none⟩ 1 1 [.int .i64 v5q] (by rfl) (by rfl) (World.news_of_block (cs := #[.int .i64 v5q]) (t := 3) (fr := (0, 0)) (heap_alloc_new w5q _)) (by simp [Value.oneCell']) (by omega) hm1 hm2 (by simp; omega) (w5q.heap.size + 1) (by simp) ?_; intro k2q cap2q w8q hown3 hgrow hat hlt3
               have A8q := HX5.out.2.boxGrown hgrow
               have c3e : w8q.cell? ⟨w.heap.size, 3, none⟩ = some (.slice (some ⟨k7, 0, none⟩) (1 + 1) cap7) := A8q.cell 3 rfl
               have f3e : w8q.frozen? ⟨w.heap.size, 3, none⟩ = false := At.free A8q 3
               have HG := Lib.hid (HX5.out.2.push hown3 hgrow (hat.imp id fun h => h.trans (by show _ = (w5q.heap.push _).size; simp)) hlt3)
               clear A8q hown3 hgrow hat hlt3)))
        all_goals
          have hv5q := HX5.out.1
          have X10 : PdB c fd W en rb (Bx + 4) g w w.heap.size (.int .i64 21) (.string ⟨#[]⟩) (.int .i64 0) (.slice (some ⟨k2q, 0, none⟩) (2 + 1) cap2q) [(ex (passR s)).1, (blockR W en st (ex (passR s)).2).1, v5q] g5q (blockR W en st (passR (blockR W en st (ex (passR s)).2).2)).2 (w8q.setCell ⟨w.heap.size, 3, none⟩ (.slice (some ⟨k2q, 0, none⟩) (2 + 1) cap2q)) := HG.out
          have K10 := block_ok (en := en) hS K9
          clear HG HX5 HOW HXD HB c3a c3b c3e f3e hm1 hm2 hi0 hz0 hz1 hz2 hsz5
          by_cases hb4 : (blockR W en st (passR (blockR W en st (ex (passR s)).2).2)).2.bad = none
          · obtain rfl := hv5q hb4
            obtain ⟨hXo, hps⟩ := X10.out 21 [] 0
            have X11 : PdX c fd W en rb (Bx + 4) g w w.heap.size (.int .i64 21) (.string ⟨#[]⟩) (.int .i64 0) (.slice (some ⟨k2q, 0, none⟩) (2 + 1) cap2q) g5q (blockR W en st (passR (blockR W en st (ex (passR s)).2).2)).2 (w8q.setCell ⟨w.heap.size, 3, none⟩ (.slice (some ⟨k2q, 0, none⟩) (2 + 1) cap2q)) := hXo
            have K11 := K10
            clear hXo X10
            have e0 := X11.box.cell 0 rfl
            have e1 := X11.box.cell 1 rfl
            have e2 := X11.box.cell 2 rfl
            have e3 := X11.box.cell 3 rfl
            have c6 : (w8q.setCell ⟨w.heap.size, 3, none⟩ (.slice (some ⟨k2q, 0, none⟩) (2 + 1) cap2q)).cell? ⟨rb, 6, none⟩ = some (.int .i64 0) := by have := X11.pd.err; rw [hb4] at this; exact this
            go_wp2_with fail
            clear c6 e0 e1 e2 e3
            refine (radd_any ⟨⟨21, [], 0, [(ex (passR s)).1, (blockR W en st (ex (passR s)).2).1, (blockR W en st (passR (blockR W en st (ex (passR s)).2).2)).1]⟩, _, _⟩ _ X11.pd hps hb4 (K11.room hb4)).mono ?_
            rintro e w9 ⟨g9, v9, rfl, hv9, h9, T9⟩
            go_wp2_with fail
            go_ret
            rw [EQ.out]
            exact ⟨g9, v9, rfl, hv9, h9.more (by omega) (by omega), X11.trn.trans T9⟩
          · have e9 := EQ.out
            rw [nodeR_bad _ hb4] at e9
            obtain ⟨hXo, hps⟩ := X10.out 21 [] 0
            have X11 : PdX c fd W en rb (Bx + 4) g w w.heap.size (.int .i64 21) (.string ⟨#[]⟩) (.int .i64 0) (.slice (some ⟨k2q, 0, none⟩) (2 + 1) cap2q) g5q (blockR W en st (passR (blockR W en st (ex (passR s)).2).2)).2 (w8q.setCell ⟨w.heap.size, 3, none⟩ (.slice (some ⟨k2q, 0, none⟩) (2 + 1) cap2q)) := hXo
            have K11 := K10
            clear hXo X10
            have c6 := X11.pd.err
            have q6 := bad_err2 X11.pd.inv hb4
            have q7 := bad_err X11.pd.inv hb4
            generalize ((blockR W en st (passR (blockR W en st (ex (passR s)).2).2)).2.bad.getD (0, 0)).2 = er at c6 q6 q7
            go_wp2_with fail
            clear c6 q6 q7
            go_ret
            rw [show stI W en ex st s = (0, (blockR W en st (passR (blockR W en st (ex (passR s)).2).2)).2) from e9]
            exact ⟨g5q, 0, rfl, fun h => absurd h hb4, X11.pd.more (by omega) (by omega), X11.trn⟩
      · have qe := wq_no he
        have e8 := EQ.out
        rw [if_neg he] at e8
        clear EQ
        have EQ := Lib.hid e8
        clear e8
        obtain ⟨hXo, hps⟩ := X8.out 21 [] 0
        have X9 : PdX c fd W en rb (Bx + 4) g w w.heap.size (.int .i64 21) (.string ⟨#[]⟩) (.int .i64 0) (.slice (some ⟨k7, 0, none⟩) (1 + 1) cap7) g7 (blockR W en st (ex (passR s)).2).2 w8x := hXo
        have K9 := K8
        clear hXo X8
        have e0 := X9.box.cell 0 rfl
        have e1 := X9.box.cell 1 rfl
        have e2 := X9.box.cell 2 rfl
        have e3 := X9.box.cell 3 rfl
        have c6 : w8x.cell? ⟨rb, 6, none⟩ = some (.int .i64 0) := by have := X9.pd.err; rw [hb2] at this; exact this
        go_wp2_with fail
        clear c6 e0 e1 e2 e3
        refine (radd_any ⟨⟨21, [], 0, [(ex (passR s)).1, (blockR W en st (ex (passR s)).2).1]⟩, _, _⟩ _ X9.pd hps hb2 (K9.room hb2)).mono ?_
        rintro e w9 ⟨g9, v9, rfl, hv9, h9, T9⟩
        go_wp2_with fail
        go_ret
        rw [EQ.out]
        exact ⟨g9, v9, rfl, hv9, h9.more (by omega) (by omega), X9.trn.trans T9⟩
    · have hiv := X7.pd.inv
      have e9 := EQ.out
      rw [if_neg (by rw [wd_bad hiv hb2]; decide)] at e9
      rw [nodeR_bad _ hb2] at e9
      obtain ⟨hXo, hps⟩ := X7.out 21 [] 0
      have X8 : PdX c fd W en rb (Bx + 4) g w w.heap.size (.int .i64 21) (.string ⟨#[]⟩) (.int .i64 0) (.slice (some ⟨k7, 0, none⟩) (1 + 1) cap7) g7 (blockR W en st (ex (passR s)).2).2 wc := hXo
      have K8 := K7
      clear hXo X7
      have c6 := X8.pd.err
      have q6 := bad_err2 X8.pd.inv hb2
      have q7 := bad_err X8.pd.inv hb2
      generalize ((blockR W en st (ex (passR s)).2).2.bad.getD (0, 0)).2 = er at c6 q6 q7
      go_wp2_with fail
      clear c6 q6 q7
      go_ret
      rw [show stI W en ex st s = (0, (blockR W en st (ex (passR s)).2).2) from e9]
      exact ⟨g7, 0, rfl, fun h => absurd h hb2, X8.pd.more (by omega) (by omega), X8.trn⟩
  · have hiv := X6.pd.inv
    have e9 := EQ.out
    rw [block_bad hiv hb] at e9
    rw [if_neg (by rw [wd_bad hiv hb]; decide)] at e9
    rw [nodeR_bad _ hb] at e9
    obtain ⟨hXo, hps⟩ := X6.out 21 [] 0
    have X7 : PdX c fd W en rb Bx g w w.heap.size (.int .i64 21) (.string ⟨#[]⟩) (.int .i64 0) (.slice (some ⟨w5x.heap.size, 0, none⟩) 1 1) g5 (ex (passR s)).2 ((w5x.alloc (.cells #[.int .i64 v5] 3)).setCell ⟨w.heap.size, 3, none⟩ (.slice (some ⟨w5x.heap.size, 0, none⟩) 1 1)) := hXo
    have K7 := K6
    clear hXo X6
    have c6 := X7.pd.err
    have q6 := bad_err2 X7.pd.inv hb
    have q7 := bad_err X7.pd.inv hb
    generalize ((ex (passR s)).2.bad.getD (0, 0)).2 = er at c6 q6 q7
    go_wp2_with fail
    clear pa2 pf2 hXg c6 q6 q7
    go_ret
    rw [show stI W en ex st s = (0, (ex (passR s)).2) from e9]
    exact ⟨g5, 0, rfl, fun h => absurd h hb, X7.pd.more (by omega) (by omega), X7.trn⟩
end Go.Proofs.YtkhklndmbfbnoaaGreatDoor
