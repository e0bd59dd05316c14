/- The document's parser: blocks. -/
import Derived.Test.YtkhklndmbfbnoaaGreatDoorQRow
import Derived.Test.YtkhklndmbfbnoaaGreatDoorTGram8
namespace Go.Proofs.YtkhklndmbfbnoaaGreatDoor
open Go.ChangeShapes Go.WideShapes Go.ChangeAt Go.RowKit Go.Joins Go.Deep
set_option linter.unusedVariables false

def RelBq (c : Ctx) (fd : Value) (W : List (Tx × Nat)) (en rb B n : Nat) (st : RS → Int × RS) (R : List Int × RS) (g : Option Nat) (s : RS) (w : World) (v : Value) (wr : World) : Prop := ∃ f l lx s1 g1, RowQ c fd W en rb B w g g1 s1 v l wr ∧ Ok W n 1 1 s s1 ∧ (s1.bad = none → l = lx) ∧ blockL W st f lx s1 = R ∧ W.length + 2 ≤ s1.k + (if s1.bad = none then 0 else 1) + f ∧ l.length + f ≤ W.length + 2
set_option maxRecDepth 100000 in
set_option maxHeartbeats 3200000 in
theorem blockQ_any {c : Ctx} {fd : Value} {W : List (Tx × Nat)} {en rb : Nat} {g : Option Nat} {s : RS} {n Bx : Nat} (hBx : Bx ≤ 900) (st : RS → Int × RS) (hS : Fng W n st) (HQ : ∀ (c : Ctx) s g w, s.bad = none → s.ar ≤ 20 → Dp n s → PdAt c fd W en w rb g Bx s → Calls Tryz.prog 34 #[.pointer (some ⟨rb, 0, none⟩)] w (RQ c fd W en rb g Bx (st s) w)) (hg : s.bad = none) (hd : Dp n s) (w : World) (h : PdAt c fd W en w rb g Bx s) : Calls Tryz.prog 91 #[.pointer (some ⟨rb, 0, none⟩)] w (RQ c fd W en rb g (Bx + 4) (blockR W en st s) w) := by
  have hold := h.lt
  have helder := h.held
  have K0 := Ok.refl h.inv hd
  have h0 := h
  clear h
  go_enter Tryz.func91, Tryz.ntmps91
  go_wp2_with fail
  refine (rtakes_any ⟨#[123]⟩ (by decide) _ h0).mono ?_
  rintro e w1 ⟨rfl, h1, O1⟩
  have t1 := Trn.of (g := g) O1
  have K1 := K0.needW (en := en) (x := [123]) (by decide)
  have h1 : PdAt c fd W en w1 rb g Bx (needWR W en [123] s) := h1
  clear O1 h0
  have hR := RowQ.none (h1.more (B' := Bx + 2) (by omega) (by omega)) t1 hold helder
  go_wp2_with fail
  go_loopw [3] (fun v wr => RelBq c fd W en rb (Bx + 2) n st (blockL W st (W.length + 2) [] (needWR W en [123] s)) g s w v wr) (fun _ wr => mOf W.length rb wr)
  case atStart => exact ⟨W.length + 2, [], [], (needWR W en [123] s), g, hR, K1, fun _ => rfl, rfl, by omega, by show 0 + _ ≤ _; omega⟩
  case round =>
    clear h1 t1 K1 K0 hR helder hold
    obtain ⟨f, l, lx, s1, g1, hR, KR, hll, hpl, hf, hlf⟩ := hrel
    have HMO := Lib.hid (mOf_at hR.rd)
    have hWL : W.length ≤ 1000000 := by obtain ⟨_, _, _, h, _⟩ := hR.rd.toks; exact h
    have hm1 : l.length + 1 ≤ maxLen := by unfold maxLen; omega
    have hm2 : (l.length + 1) * 8 ≤ 140737488355328 := by omega
    have HPL := Lib.hid hpl
    have HF := Lib.hid (And.intro hf hlf)
    clear hpl hf hlf hWL
    have K0 := Ok.refl hR.rd.inv KR.2.2.2
    by_cases hb : s1.bad = none
    · have c6 : wr.cell? ⟨rb, 6, none⟩ = some (.int .i64 0) := by have := hR.rd.err; rw [hb] at this; exact this
      obtain rfl := hll hb
      go_wp2_with fail
      refine (rsee_any _ hR.rd).mono ?_
      rintro e w1 ⟨lw, rfl, hlw, _, _, hbw⟩
      obtain rfl := hlw hb
      have h1 := hR.rd.grow hbw
      have t1 := Trn.of (g := g1) (hR.rd.onl hbw)
      clear hbw hlw c6
      by_cases hw : wdR W s1 = [125]
      · have qw := wq_yes hw
        have hne : wdR W s1 ≠ [] := by rw [hw]; decide
        have hpl := HPL.out
        rw [blockL_end (fun h => h.2 hw)] at hpl
        have hRe := hR.call h1 t1
        obtain ⟨hO, q, cc, rfl, hps⟩ := hRe.out 24 [] 0
        have tO := hRe.trn
        have HP := Lib.hid hpl
        have hpass : needWR W en [125] s1 = passR s1 := by unfold needWR needR; rw [if_pos (by rw [hw]; rfl)]
        clear hpl hRe hR HPL h1 t1 HF HMO hm1 hm2
        go_wp2_with fail
        refine (rtakes_any ⟨#[125]⟩ (by decide) _ hO).mono ?_
        rintro e w8 ⟨rfl, h8, O8⟩
        have t8 := tO.trans (Trn.of O8)
        have K8 := KR.needW (en := en) (x := [125]) (by decide)
        have h8 : PdAt c fd W en w8 rb g1 (Bx + 2) (needWR W en [125] s1) := h8
        have hps8 : PsOK c.F w8 (rb + 1) ⟨⟨24, [], 0, l⟩, q, cc⟩ := hps.keep fun b cs hb => O8.at hb (hO.off hb).1
        have hb8 : (needWR W en [125] s1).bad = none := by rw [hpass]; exact hb
        have c6 : w8.cell? ⟨rb, 6, none⟩ = some (.int .i64 0) := by have := h8.err; rw [hb8] at this; exact this
        clear tO O8 hps hO
        go_wp2_with fail
        refine (radd_any ⟨⟨24, [], 0, l⟩, q, cc⟩ _ h8 hps8 hb8 (K8.room hb8)).mono ?_
        rintro e w9 ⟨g9, v9, rfl, hv9, h9, T9⟩
        have t9 := t8.trans T9
        clear t8 T9 h8 hps8 c6
        go_wp2_with fail
        go_ret
        unfold blockR
        dsimp only
        rw [← HP.out]
        exact ⟨g9, v9, rfl, hv9, h9.more (by omega) (by omega), t9⟩
      · have qw := wq_no hw
        have hff := HF.out.1
        have hkW := h1.inv.1
        rw [if_pos hb] at hff
        obtain ⟨f, rfl⟩ : ∃ f0, f = f0 + 1 := ⟨f - 1, by omega⟩
        have hpl := HPL.out
        rw [blockL_more ⟨hb, hw⟩] at hpl
        have HPN := Lib.hid hpl
        have HFF := Lib.hid hff
        have ha20 : s1.ar ≤ 20 := (KR.2.2.2 hb).2
        have HB := Lib.hid hb
        have hQ := HQ _ s1 g1 w1 hb ha20 K0.2.2.2 (h1.anyB (B' := Bx) hb (by omega))
        clear HPL hpl hw hff hkW
        obtain ⟨q, cc, rfl⟩ := hR.form
        go_wp2_with fail
        refine hQ.mono ?_
        rintro e w2 ⟨g2, v2, rfl, hv2, h2, T2⟩
        have hR2 := hR.call (h2.more (B' := Bx + 2) (by omega) (by omega)) (t1.trans T2)
        have HK3 := Lib.hid (K0.fn hS)
        clear t1 K0 h2 h1 T2 hQ hb
        obtain ⟨i0, hi0, hz0, hz1, hz2⟩ := info_parts Tryz.infoInt
        have hownP := ownsRow_belowT hR2.own (boxT w2 (.cells #[.int .i64 v2] 3))
        have hszP : w.heap.size ≤ (w2.alloc (.cells #[.int .i64 v2] 3)).heap.size := by have := hR2.trn.1.size; show _ ≤ (w2.heap.push _).size; simp; omega
        go_wp2_with ((at_builtin; refine wpList_append_lies _ rfl _ _ 23 rfl w.heap.size 3 i0 _ 1 8 Tryz.underlying23 hi0 hz0 hz1 hz2 rfl (by decide) (.slice q l.length cc) l.length (ints l) rfl hownP ⟨w2.heap.size, 0, none⟩ 1 1 [.int .i64 v2] rfl rfl (World.news_of_block (cs := #[.int .i64 v2]) (t := 3) (fr := (0, 0)) (heap_alloc_new w2 _)) (by simp [Value.oneCell']) (by omega) hm1 hm2 hszP _ rfl ?_; intro k2 cap2 w4 hown3 hgrow hat hlt3))
        have hRn := Lib.hid (hR2.push hown3 hgrow hat hlt3)
        clear hown3 hgrow hat hlt3 hownP hszP hi0 hz0 hz1 hz2 hm1 hm2
        go_wp2_with fail
        go_roundw
        case rel =>
          have hmo := HK3.out.2.2.1.2
          have hiv := hRn.out.rd.inv
          have hff := HFF.out
          have hlf := HF.out.2
          have KX := KR.call HK3.out
          refine ⟨f, l ++ [v2], l ++ [(st s1).1], (st s1).2, g2, hRn.out, KX.less (by omega) (by omega), fun h => by rw [hv2 h], HPN.out, ?_, by rw [List.length_append]; show _ + 1 + _ ≤ _; omega⟩
          by_cases hb2 : (st s1).2.bad = none
          · have := (hmo hb2).2.2; rw [if_pos hb2]; omega
          · have := hiv.2.2.1 hb2; have := HK3.out.1.1; rw [if_neg hb2]; omega
        case measure =>
          have hmo := HK3.out.2.2.1.2
          have hiv := hRn.out.rd.inv
          have hk1 := HK3.out.1.1
          have h9 := HMO.out
          rw [if_pos HB.out] at h9
          rw [h9, mOf_at hRn.out.rd]
          by_cases hb2 : (st s1).2.bad = none
          · have := (hmo hb2).2.2; rw [if_pos hb2]; omega
          · rw [if_neg hb2]; omega
    · have c6 := hR.rd.err
      have q6 := bad_err hR.rd.inv hb
      generalize (s1.bad.getD (0, 0)).2 = er at c6 q6
      have hpl := HPL.out
      rw [blockL_end (fun h => hb h.1)] at hpl
      have hiv := hR.rd.inv
      obtain ⟨hO, q, cc, rfl, _⟩ := hR.out 24 [] 0
      have tO := hR.trn
      have HP := Lib.hid hpl
      clear hpl hR HPL HF HMO hm1 hm2
      go_wp2_with fail
      clear c6 q6
      refine (rtakes_any ⟨#[125]⟩ (by decide) _ hO).mono ?_
      rintro e w8 ⟨rfl, h8, O8⟩
      have hsame : needWR W en [125] s1 = s1 := needW_bad (by decide) hiv hb
      have h8 : PdAt c fd W en w8 rb g1 (Bx + 2) s1 := by rw [← hsame]; exact h8
      have c6 := h8.err
      have q6 := bad_err2 hiv hb
      generalize (s1.bad.getD (0, 0)).2 = er at c6 q6
      go_wp2_with fail
      go_ret
      unfold blockR
      dsimp only
      rw [← HP.out]
      dsimp only
      rw [hsame, nodeR_bad _ hb]
      exact ⟨g1, 0, rfl, fun h => absurd h hb, h8.more (by omega) (by omega), tO.trans (Trn.of O8)⟩
end Go.Proofs.YtkhklndmbfbnoaaGreatDoor

/- The document's parser: statements. -/
namespace Go.Proofs.YtkhklndmbfbnoaaGreatDoor
open Go.ChangeShapes Go.WideShapes Go.ChangeAt Go.RowKit Go.Joins Go.Deep
set_option linter.unusedVariables false

set_option maxHeartbeats 1600000 in
theorem stmtQ_deep {n Bx : Nat} {c : Ctx} {fd : Value} {W : List (Tx × Nat)} {en rb : Nat} {g : Option Nat} {s : RS} (ex st : RS → Int × RS) (hexb : ∀ s, Inv W s → s.bad ≠ none → ∃ v, ex s = (v, s)) (hg : s.bad = none) (h20 : s.ar = 20) (w : World) (h : PdAt c fd W en w rb g Bx s) : Calls Tryz.prog 34 #[.pointer (some ⟨rb, 0, none⟩)] w (RQ c fd W en rb g Bx (stB W en ex st s) w) := by
  have hbE : (enterR W en s).bad ≠ none := by unfold enterR; rw [if_pos h20]; exact fail_bad (W := W)
  have hB : stB W en ex st s = (0, leaveR (enterR W en s)) := by unfold stB; rw [stI_bad (enter_inv h.inv) hbE hexb]
  rw [hB]
  have cI := rin_deep w h hg h20
  unfold NQ at cI
  have h1a : 1 ≤ (enterR W en s).ar := by unfold enterR; rw [if_pos h20]; show 1 ≤ s.ar + 1; omega
  have HB := Lib.hid hbE
  clear h hg h20 hbE hB
  generalize enterR W en s = sa at *
  go_enter Tryz.func34, Tryz.ntmps34
  go_wp2_with fail
  refine cI.mono ?_
  rintro e w1 ⟨rfl, h1, O1⟩
  have hi4 : Inv W (leaveR sa) := h1.inv
  have har : 1 ≤ (sa).ar := by rw [show sa.ar = sa.ar from rfl]; exact h1a
  obtain ⟨k4, nv4, hA4, _⟩ := h1.cells
  have d4 : w1.cell? ⟨rb, 4, none⟩ = some (.int .i64 ((sa).ar : Nat)) := hA4.cell 4 rfl
  have f4 := At.free hA4 4
  have fin := h1.deep (s' := leaveR sa) hi4 (by have := h1.room; show (sa).ar - 1 ≤ 30; omega) rfl rfl (fun _ => rfl)
  rw [show ((leaveR sa).ar : Int) = (((sa).ar : Int) - 1) from by show (((sa).ar - 1 : Nat) : Int) = _; omega] at fin
  have hOf := (Onl.refl rb w1).set 4 (.int .i64 (((sa).ar : Int) - 1))
  have hr4 : ((sa).ar : Int) ≤ 30 := by have := h1.room; omega
  have FIN := Lib.hid (And.intro fin hOf)
  clear cI fin hOf hA4 hi4 h1 har h1a
  generalize sa.ar = ka at *
  go_wp2_with fail
  go_ret
  exact ⟨g, 0, rfl, fun h => absurd h HB.out, FIN.out.1, Trn.of (O1.trans FIN.out.2)⟩
set_option maxHeartbeats 1600000 in
theorem stmtQ_ok {n Bx : Nat} {c : Ctx} {fd : Value} {W : List (Tx × Nat)} {en rb : Nat} {g : Option Nat} {s : RS} (ex st : RS → Int × RS) (hF : Fng W n ex) (hS : Fng W n st) (HQ : ∀ (c : Ctx) s g w, s.bad = none → Dp n s → PdAt c fd W en w rb g Bx s → Calls Tryz.prog 63 #[.pointer (some ⟨rb, 0, none⟩)] w (RQ c fd W en rb g (Bx + 12) (stI W en ex st s) w)) (hg : s.bad = none) (h20 : s.ar < 20) (hd : Dp n (enterR W en s)) (w : World) (h : PdAt c fd W en w rb g Bx s) : Calls Tryz.prog 34 #[.pointer (some ⟨rb, 0, none⟩)] w (RQ c fd W en rb g (Bx + 12) (stB W en ex st s) w) := by
  have hB : stB W en ex st s = ((stI W en ex st (enterR W en s)).1, leaveR (stI W en ex st (enterR W en s)).2) := rfl
  rw [hB]
  have cI := rin_ok w h hg h20
  unfold NQ at cI
  have h1a : 1 ≤ (enterR W en s).ar := by unfold enterR; rw [if_neg (by omega)]; show 1 ≤ s.ar + 1; omega
  have hga : (enterR W en s).bad = none := by unfold enterR; rw [if_neg (by omega)]; exact hg
  clear h hg h20 hB
  generalize enterR W en s = sa at *
  go_enter Tryz.func34, Tryz.ntmps34
  go_wp2_with fail
  refine cI.mono ?_
  rintro e w1 ⟨rfl, h1, O1⟩
  clear cI
  have hK := stI_ok (en := en) hF hS (Ok.refl h1.inv hd)
  go_wp2_with fail
  refine (HQ c sa g _ hga hd h1).mono ?_
  rintro e w2 ⟨g2, v2, rfl, hv2, h2, T2⟩
  generalize stI W en ex st sa = r at *
  have hra := hK.2.2.1.1
  clear hK
  have hi4 : Inv W (leaveR r.2) := h2.inv
  have har : 1 ≤ (r.2).ar := by rw [hra]; exact h1a
  obtain ⟨k4, nv4, hA4, _⟩ := h2.cells
  have d4 : w2.cell? ⟨rb, 4, none⟩ = some (.int .i64 ((r.2).ar : Nat)) := hA4.cell 4 rfl
  have f4 := At.free hA4 4
  have fin := h2.deep (s' := leaveR r.2) hi4 (by have := h2.room; show (r.2).ar - 1 ≤ 30; omega) rfl rfl (fun _ => rfl)
  rw [show ((leaveR r.2).ar : Int) = (((r.2).ar : Int) - 1) from by show (((r.2).ar - 1 : Nat) : Int) = _; omega] at fin
  have hOf := (Onl.refl rb w2).set 4 (.int .i64 (((r.2).ar : Int) - 1))
  have hr4 : ((r.2).ar : Int) ≤ 30 := by have := h2.room; omega
  have FIN := Lib.hid (And.intro fin hOf)
  have HV := Lib.hid hv2
  clear fin hOf hA4 hi4 h2 har h1a hv2 hra
  have HT := Lib.hid ((Trn.of O1).trans T2)
  clear T2 O1
  generalize hkk : r.2.ar = ka at d4 hr4 FIN
  clear hkk
  go_wp2_with fail
  go_ret
  exact ⟨g2, v2, rfl, HV.out, FIN.out.1, HT.out.trans (Trn.of FIN.out.2)⟩
end Go.Proofs.YtkhklndmbfbnoaaGreatDoor

/- The document's parser with a node's box, whose parts are a row under way. -/
namespace Go.Proofs.YtkhklndmbfbnoaaGreatDoor
open Go.ChangeShapes Go.WideShapes Go.ChangeAt Go.RowKit Go.Joins Go.Deep
set_option linter.unusedVariables false

section
variable {c : Ctx} {fd : Value} {W : List (Tx × Nat)} {en rb B B' D : Nat} {g0 g g' : Option Nat} {s s' : RS} {w0 w w' : World} {a0 a1 a2 a3 v : Value} {l : List Int}
theorem irow_onl {n : Nat} {xs : List Value} {sz : Nat} {cs : Array Value} (h : w.ownsRow sz 3 1 v n xs) (hA : At w D cs 83) (hO : Onl D w w') : w'.ownsRow sz 3 1 v n xs := by
  obtain ⟨hl, ⟨rfl, h0⟩ | ⟨k, cap, cur, rfl, hbb, hg, hn, hm, hc, hx⟩⟩ := h
  · exact ⟨hl, Or.inl ⟨rfl, h0⟩⟩
  · exact ⟨hl, Or.inr ⟨k, cap, cur, rfl, hbb, hO.at (t := 3) hg (at_other (t := 3) hg hA (by decide)), hn, hm, hc, hx⟩⟩
/-- the parser, a node's box, and the node's parts, a row under way -/
structure PdB (c : Ctx) (fd : Value) (W : List (Tx × Nat)) (en rb B : Nat) (g0 : Option Nat) (w0 : World) (D : Nat) (a0 a1 a2 v : Value) (l : List Int) (g : Option Nat) (s : RS) (w : World) : Prop where
  x : PdX (c.on v) fd W en rb B g0 w0 D a0 a1 a2 v g s w
  own : w.ownsRow w0.heap.size 3 1 v l.length (ints l)
  elder : ∀ b, c.F b → b < w0.heap.size
theorem PdB.pd (h : PdB c fd W en rb B g0 w0 D a0 a1 a2 v l g s w) : PdAt (c.on v) fd W en w rb g B s := h.x.pd
theorem PdB.box (h : PdB c fd W en rb B g0 w0 D a0 a1 a2 v l g s w) : At w D #[a0, a1, a2, v] 83 := h.x.box
theorem PdB.trn (h : PdB c fd W en rb B g0 w0 D a0 a1 a2 v l g s w) : Trn rb g0 g w0 w := h.x.trn
theorem PdB.callT (h : PdB c fd W en rb B g0 w0 D a0 a1 a2 v l g s w) (h' : PdAt (c.on v) fd W en w' rb g' B' s') (t : Trn rb g g' w w') : PdB c fd W en rb B' g0 w0 D a0 a1 a2 v l g' s' w' :=
  ⟨h.x.callT h' t, irow_trnQ h.own h.x.pd t, h.elder⟩
theorem PdB.callO (h : PdB c fd W en rb B g0 w0 D a0 a1 a2 v l g s w) (h' : PdAt (c.on v) fd W en w' rb g B' s') (t : Onl rb w w') : PdB c fd W en rb B' g0 w0 D a0 a1 a2 v l g s' w' := h.callT h' (Trn.of t)
theorem PdB.grow (h : PdB c fd W en rb B g0 w0 D a0 a1 a2 v l g s w) (hb : Below w.heap.size w w') : PdB c fd W en rb B g0 w0 D a0 a1 a2 v l g s w' := h.callO (h.x.pd.grow hb) (h.x.pd.onl hb)
theorem PdB.put (h : PdB c fd W en rb B g0 w0 D a0 a1 a2 v l g s w) (i : Nat) (u : Value) {b0 b1 b2 : Value} (hx : (#[a0, a1, a2, v] : Array Value).set! i u = #[b0, b1, b2, v]) (hi : i < 4) : PdB c fd W en rb B g0 w0 D b0 b1 b2 v l g s (w.setCell ⟨D, i, none⟩ u) :=
  ⟨h.x.put i u hx hi, irow_onl h.own h.x.box ((Onl.refl D w).set i u), h.elder⟩
theorem PdB.one (a : Int) (h : PdX c fd W en rb B g0 w0 D a0 a1 a2 a3 g s w) (he : ∀ b, c.F b → b < w0.heap.size) : PdB c fd W en rb B g0 w0 D a0 a1 a2 (.slice (some ⟨w.heap.size, 0, none⟩) 1 1) [a] g s ((w.alloc (.cells #[.int .i64 a] 3)).setCell ⟨D, 3, none⟩ (.slice (some ⟨w.heap.size, 0, none⟩) 1 1)) := by
  have hb := boxT w (.cells #[.int .i64 a] 3)
  have hs := h.trn.1.size
  have hs0 : w0.heap.size ≤ w.heap.size := hs
  have x1 : PdX (c.on (.slice (some ⟨w.heap.size, 0, none⟩) 1 1)) fd W en rb B g0 w0 D a0 a1 a2 a3 g s (w.alloc (.cells #[.int .i64 a] 3)) := ⟨h.pd.begin hb _ (fun b e => by
      have : w.heap.size = b := by simpa [Value.ownBlock] using e
      subst this
      exact ⟨Nat.le_refl _, by show _ < (w.heap.push _).size; simp⟩), h.trn.trans (Trn.of (h.pd.onl hb)), At.below' hb h.box, h.far, h.old, h.late⟩
  exact ⟨x1.put 3 _ rfl (by decide), irow_onl (ownsRow_lit w w0.heap.size 3 1 1 #[.int .i64 a] hs0 rfl (by decide)) x1.box ((Onl.refl D _).set 3 _), he⟩
theorem PdB.row (h : PdB c fd W en rb B g0 w0 D a0 a1 a2 v l g s w) : RowQ c fd W en rb B w0 g0 g s v l w := ⟨h.x.pd, h.own, h.x.trn, h.x.old, h.elder⟩
theorem PdB.empty (h : PdX c fd W en rb B g0 w0 D a0 a1 a2 (.slice none 0 0) g s w) (he : ∀ b, c.F b → b < w0.heap.size) : PdB c fd W en rb B g0 w0 D a0 a1 a2 (.slice none 0 0) [] g s w :=
  ⟨⟨h.pd.begin (Below.refl _ _) _ (fun b e => by cases e), h.trn, h.box, h.far, h.old, h.late⟩, ⟨rfl, Or.inl ⟨rfl, rfl⟩⟩, he⟩
theorem PdB.boxGrown {a : Int} (h : PdB c fd W en rb B g0 w0 D a0 a1 a2 v l g s w) (hg : (w.alloc (.cells #[.int .i64 a] 3)).grownBy w' v.ownBlock) : At w' D #[a0, a1, a2, v] 83 := by
  have hb := boxT w (.cells #[.int .i64 a] 3)
  refine At.grownT (At.below' hb h.x.box) hg fun e => ?_
  obtain ⟨cs', hc⟩ := irow_typed h.own e
  exact absurd (at_type hc h.x.box) (by decide)
theorem PdB.push {a : Int} {k cap : Nat} (h : PdB c fd W en rb B g0 w0 D a0 a1 a2 v l g s w) (h2 : w'.ownsRow w0.heap.size 3 1 (.slice (some ⟨k, 0, .none⟩) (l.length + 1) cap) (l.length + 1) (ints l ++ [.int .i64 a])) (hg : (w.alloc (.cells #[.int .i64 a] 3)).grownBy w' v.ownBlock) (hat : v.ownBlock = some k ∨ k = (w.alloc (.cells #[.int .i64 a] 3)).heap.size) (hk : k < w'.heap.size) : PdB c fd W en rb B g0 w0 D a0 a1 a2 (.slice (some ⟨k, 0, .none⟩) (l.length + 1) cap) (l ++ [a]) g s (w'.setCell ⟨D, 3, none⟩ (.slice (some ⟨k, 0, .none⟩) (l.length + 1) cap)) := by
  have R := h.row.push h2 hg hat hk
  have x1 : PdX (c.on (.slice (some ⟨k, 0, .none⟩) (l.length + 1) cap)) fd W en rb B g0 w0 D a0 a1 a2 v g s w' := ⟨R.rd, R.trn, h.boxGrown hg, h.x.far, h.x.old, h.x.late⟩
  exact ⟨x1.put 3 _ rfl (by decide), irow_onl R.own x1.box ((Onl.refl D _).set 3 _), h.elder⟩
theorem PdB.out {q : Option Addr} {m cc : Nat} (h : PdB c fd W en rb B g0 w0 D a0 a1 a2 (.slice q m cc) l g s w) (op : Int) (name : Tx) (n : Int) : PdX c fd W en rb B g0 w0 D a0 a1 a2 (.slice q m cc) g s w ∧ PsOK c.F w (rb + 1) ⟨⟨op, name, n, l⟩, q, cc⟩ := by
  obtain ⟨hp, q', cc', he, hps⟩ := h.row.out op name n
  cases he
  exact ⟨⟨hp, h.x.trn, h.x.box, h.x.far, h.x.old, h.x.late⟩, hps⟩
end
theorem block_bad {W : List (Tx × Nat)} {en : Nat} {st : RS → Int × RS} {s : RS} (hi : Inv W s) (hb : s.bad ≠ none) : blockR W en st s = (0, s) := by
  unfold blockR
  rw [needW_bad (by decide) hi hb, blockL_end (fun h => hb h.1)]
  dsimp only
  rw [needW_bad (by decide) hi hb, nodeR_bad _ hb]
theorem wd_bad {W : List (Tx × Nat)} {s : RS} (hi : Inv W s) (hb : s.bad ≠ none) : wdR W s = [] := wdR_end (by rw [bad_k hi hb]; exact Nat.le_refl _)
end Go.Proofs.YtkhklndmbfbnoaaGreatDoor
