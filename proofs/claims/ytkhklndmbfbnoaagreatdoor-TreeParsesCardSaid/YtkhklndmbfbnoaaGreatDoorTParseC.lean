/- Package tree: statements. -/
import Derived.Test.YtkhklndmbfbnoaaGreatDoorTGram8
import Derived.Test.YtkhklndmbfbnoaaGreatDoorLOnce
namespace Go.Proofs.YtkhklndmbfbnoaaGreatDoor
open Go.ChangeShapes Go.WideShapes Go.ChangeAt Go.RowKit Go.Joins Go.Deep
set_option linter.unusedVariables false

set_option maxHeartbeats 3200000 in
theorem statement_step {w0 : Ctx} {fd : Value} {W : List (Tx × Nat)} {en rb : Nat} {g : Option Nat} {s : RS} {n : Nat} (ex st : RS → Int × RS) (hF : Fng W n ex) (hS : Fng W n st) (HE : ∀ (c : Ctx) s g w, s.ar ≤ 21 → Dp n s → RdAt c fd W en w rb g s → Calls Tryz.prog 113 #[.pointer (some ⟨rb, 0, none⟩)] w (RP c fd W en rb g (ex s) w)) (HG : (enterR W en s).bad = none → ∀ (c : Ctx) s g w, s.ar ≤ 20 → Dp n s → RdAt c fd W en w rb g s → Calls Tryz.prog 55 #[.pointer (some ⟨rb, 0, none⟩)] w (RP c fd W en rb g (st s) w)) (ha : s.ar ≤ 20) (hd : Dp n (enterR W en s)) (w : World) (h : RdAt w0 fd W en w rb g s) : Calls Tryz.prog 55 #[.pointer (some ⟨rb, 0, none⟩)] w (RP w0 fd W en rb g (stB W en ex st s) w) := by
  have hB : stB W en ex st s = ((stI W en ex st (enterR W en s)).1, leaveR (stI W en ex st (enterR W en s)).2) := rfl
  have hn1 : 1 ≤ (enterR W en s).ar ∧ (enterR W en s).ar ≤ 21 := by unfold enterR; split <;> (show 1 ≤ s.ar + 1 ∧ s.ar + 1 ≤ 21; omega)
  rw [hB]
  clear hB
  go_enter_defers Tryz.func55, Tryz.ntmps55
  go_wp2_with fail
  refine (enter_any (by omega) _ h).mono ?_
  rintro e wa ⟨rfl, ha0, OA⟩
  have TA := Lib.hid (Trn.of (g := g) OA)
  clear h OA ha
  generalize enterR W en s = sa at *
  obtain ⟨hn1, hn2⟩ := hn1
  have K0 := Ok.refl ha0.inv hd
  have t0 := Trn.refl rb g wa
  have h0 := ha0
  clear ha0
  go_wp2_with fail
  refine (word_any _ h0).mono ?_
  rintro e w1 ⟨rfl, h1, O1⟩
  have t1 := t0.trans (Trn.of O1)
  have K1 := K0
  clear t0 O1
  by_cases hw : wdR W sa = [105, 102]
  · have e : stI W en ex st sa = choiceR W en ex st sa := by unfold stI; rw [if_pos hw]
    have EQ := Lib.hid e
    clear e
    have hne : wdR W sa ≠ [] := (by rw [hw]; decide)
    have hgd := wdR_good h1.inv hne
    have HS := HG hgd
    clear hgd HG hne
    have q1 := wq_yes hw
    clear hw
    go_wp2_with fail
    refine (choice_any ex st hF hS HE HS (by rw [K1.2.2.1.1]; exact hn2) K1.2.2.2 _ h1).mono ?_
    rintro e w2 ⟨g2, rfl, h2, T2⟩
    have t2 := t1.trans T2
    have K2 := choice_ok (en := en) hF hS K1
    clear t1 T2
    have hl1 : 1 ≤ (choiceR W en ex st sa).2.ar := by rw [(K2).2.2.1.1]; exact hn1
    go_wp2_with fail
    refine leaves_cons (f := 81) (args := #[.pointer (some ⟨rb, 0, none⟩)]) (by simp) (by simp [go_sem]) ?_
    refine (leave_deferred hl1 _ _ h2).mono ?_
    rintro e u' w9 ⟨rfl, rfl, hL, OL⟩
    have fin : RP w0 fd W en rb g ((stI W en ex st sa).1, leaveR (stI W en ex st sa).2) w (.returned (.int .i64 (choiceR W en ex st sa).1)) w9 := by
      rw [EQ.out]
      exact ⟨_, rfl, hL, (TA.out.trans t2).trans (Trn.of OL)⟩
    simpa [Leaves, settle, results, Tryz.results55] using fin
  · by_cases hw2 : wdR W sa = [119, 104, 105, 108, 101]
    · have e : stI W en ex st sa = loopR W en ex st sa := by unfold stI; rw [if_neg hw]; rw [if_pos hw2]
      have EQ := Lib.hid e
      clear e
      have hne : wdR W sa ≠ [] := (by rw [hw2]; decide)
      have hgd := wdR_good h1.inv hne
      have HS := HG hgd
      clear hgd HG hne
      have q1 := wq_no hw
      have q2 := wq_yes hw2
      clear hw hw2
      go_wp2_with fail
      refine (loop_walk ex st hF hS HE HS (by rw [K1.2.2.1.1]; exact hn2) K1.2.2.2 _ h1).mono ?_
      rintro e w2 ⟨g2, rfl, h2, T2⟩
      have t2 := t1.trans T2
      have K2 := loop_ok (en := en) hF hS K1
      clear t1 T2
      have hl1 : 1 ≤ (loopR W en ex st sa).2.ar := by rw [(K2).2.2.1.1]; exact hn1
      go_wp2_with fail
      refine leaves_cons (f := 81) (args := #[.pointer (some ⟨rb, 0, none⟩)]) (by simp) (by simp [go_sem]) ?_
      refine (leave_deferred hl1 _ _ h2).mono ?_
      rintro e u' w9 ⟨rfl, rfl, hL, OL⟩
      have fin : RP w0 fd W en rb g ((stI W en ex st sa).1, leaveR (stI W en ex st sa).2) w (.returned (.int .i64 (loopR W en ex st sa).1)) w9 := by
        rw [EQ.out]
        exact ⟨_, rfl, hL, (TA.out.trans t2).trans (Trn.of OL)⟩
      simpa [Leaves, settle, results, Tryz.results55] using fin
    · have e : stI W en ex st sa = nodeR W (plainStR W en ex sa).1 (needWR W en [59] (plainStR W en ex sa).2) := by unfold stI; rw [if_neg hw]; rw [if_neg hw2]; skip
      have EQ := Lib.hid e
      clear e
      have q1 := wq_no hw
      have q2 := wq_no hw2
      clear hw hw2 HG
      have hlt := h1.lt
      have K2 := plainSt_ok (en := en) hF K1
      have cS := plainSt_any ex hF HE (by rw [K1.2.2.1.1]; exact hn2) K1.2.2.2 _ h1
      generalize hpr : plainStR W en ex sa = r at *
      obtain ⟨⟨op, nm, nn, pl⟩, s8⟩ := r
      clear hpr K1
      go_wp2_with fail
      refine cS.mono ?_
      rintro e w2 ⟨g2, q, cc, he, h2, T2, hps⟩
      unfold ndV at he
      dsimp only at he h2 hps K2
      subst he
      have t2 := t1.trans T2
      clear cS t1 T2 h1
      have hbx := boxT w2 (.cells #[.int .i64 op, txV nm, .int .i64 nn, .slice q pl.length cc] 83)
      have hBr : rb < w2.heap.size := h2.lt
      have HB := Lib.hid (h2.grow hbx)
      have HT := Lib.hid (t2.trans (Trn.of (h2.onl hbx)))
      have HP := Lib.hid (hps.below hbx)
      have HX := Lib.hid (At.new w2 #[.int .i64 op, txV nm, .int .i64 nn, .slice q pl.length cc] 83)
      clear hbx hps t2 h2
      go_wp2_with fail
      have h3 := HB.out
      refine (needW_any ⟨#[59]⟩ (by decide) _ h3).mono ?_
      rintro e w4 ⟨rfl, h4, O4⟩
      have t4 := HT.out.trans (Trn.of O4)
      have K4 := K2.needW (en := en) (x := [59]) (by decide)
      have h4 : RdAt w0 fd W en w4 rb g2 (needWR W en [59] s8) := h4
      have hX4 := O4.at HX.out (by omega)
      have hp4 := HP.out.keep fun b cs' hb => O4.at hb (h3.off hb).1
      have e0 := hX4.cell 0 rfl
      have e1 := hX4.cell 1 rfl
      have e2 := hX4.cell 2 rfl
      have e3 := hX4.cell 3 rfl
      clear h3 O4 HT HB HX HP hX4
      go_wp2_with fail
      refine (node_any ⟨⟨op, nm, nn, pl⟩, q, cc⟩ _ h4 hp4 K4.room).mono ?_
      rintro e w5 ⟨g5, rfl, h5, T5⟩
      have t5 := t4.trans T5
      clear t4 T5 h4 hp4 e0 e1 e2 e3
      have hl1 : 1 ≤ (nodeR W ⟨op, nm, nn, pl⟩ (needWR W en [59] s8)).2.ar := by rw [(K4.node ⟨op, nm, nn, pl⟩).2.2.1.1]; exact hn1
      go_wp2_with fail
      refine leaves_cons (f := 81) (args := #[.pointer (some ⟨rb, 0, none⟩)]) (by simp) (by simp [go_sem]) ?_
      refine (leave_deferred hl1 _ _ h5).mono ?_
      rintro e u' w9 ⟨rfl, rfl, hL, OL⟩
      have fin : RP w0 fd W en rb g ((stI W en ex st sa).1, leaveR (stI W en ex st sa).2) w (.returned (.int .i64 (nodeR W ⟨op, nm, nn, pl⟩ (needWR W en [59] s8)).1)) w9 := by
        rw [EQ.out]
        exact ⟨_, rfl, hL, (TA.out.trans t5).trans (Trn.of OL)⟩
      simpa [Leaves, settle, results, Tryz.results55] using fin
theorem st_any {fd : Value} {W : List (Tx × Nat)} {en rb : Nat} : ∀ n, ∀ (c : Ctx) s g w, s.ar ≤ 20 → Dp n s → RdAt c fd W en w rb g s → Calls Tryz.prog 55 #[.pointer (some ⟨rb, 0, none⟩)] w (RP c fd W en rb g (stR W en n s) w) := by
  have hex : ∀ n s, Inv W s → s.bad ≠ none → ∃ v, exprR W en n s = (v, s) := fun n s hi h => ⟨0, by rw [expr_bad n s hi h, leave_enter_bad hi h]⟩
  intro n
  induction n with
  | zero =>
    intro c s g w ha hd h
    have hb : (enterR W en s).bad ≠ none := fun hg => by
      obtain ⟨_, _, _, m, hm, _⟩ := enter_good hd hg
      omega
    have e : stR W en 0 s = stB W en (exprR W en 0) (stR W en 0) s := by
      show stB W en (exprR W en 0) (fun s => (0, s)) s = _
      unfold stB
      rw [stI_bad (enter_inv h.inv) hb (hex 0), stI_bad (enter_inv h.inv) hb (hex 0)]
    rw [e]
    exact statement_step (exprR W en 0) (stR W en 0) (expr_ok 0) (st_ok 0) (expr_any 0) (fun hg => absurd hg hb) ha (fun hg => absurd hg hb) w h
  | succ n ih =>
    intro c s g w ha hd h
    by_cases hb : (enterR W en s).bad = none
    · obtain ⟨_, _, _, m, hm, hdm⟩ := enter_good hd hb
      obtain rfl : m = n := by omega
      exact statement_step (exprR W en m) (stR W en m) (expr_ok m) (st_ok m) (expr_any m) (fun _ => ih) ha hdm w h
    · exact statement_step (exprR W en n) (stR W en n) (expr_ok n) (st_ok n) (expr_any n) (fun hg => absurd hg hb) ha (fun hg => absurd hg hb) w h
end Go.Proofs.YtkhklndmbfbnoaaGreatDoor

/- Package tree: programs. -/
namespace Go.Proofs.YtkhklndmbfbnoaaGreatDoor
open Go.ChangeShapes Go.WideShapes Go.ChangeAt Go.RowKit Go.Joins Go.Deep
set_option linter.unusedVariables false

def RelDl (w0 : Ctx) (fd : Value) (W : List (Tx × Nat)) (en rb n : Nat) (ty : RS → Int × RS) (R : List Int × RS) (g : Option Nat) (s : RS) (w : World) (v : Value) (wr : World) : Prop := ∃ f l s1 g1, RowIn w0 fd W en rb w g g1 s1 v l wr ∧ Ok W n 0 0 s s1 ∧ declL W en ty f l s1 = R ∧ W.length + 1 ≤ s1.k + f ∧ l.length + f ≤ W.length + 1
def RelSt (w0 : Ctx) (fd : Value) (W : List (Tx × Nat)) (en rb n : Nat) (st : RS → Int × RS) (R : List Int × RS) (g : Option Nat) (s : RS) (w : World) (v : Value) (wr : World) : Prop := ∃ f l s1 g1, RowIn w0 fd W en rb w g g1 s1 v l wr ∧ Ok W n 0 0 s s1 ∧ stsL W st f l s1 = R ∧ W.length + 2 ≤ s1.k + f ∧ l.length + f ≤ 2 * W.length + 3
set_option maxRecDepth 100000 in
set_option maxHeartbeats 3200000 in
theorem program_any {w0 : Ctx} {fd : Value} {W : List (Tx × Nat)} {en rb : Nat} {g : Option Nat} {s : RS} {n : Nat} (ty st : RS → Int × RS) (hF : Fng W n ty) (hS : Fng W n st) (HT : ∀ (c : Ctx) s g w, s.ar ≤ 21 → Dp n s → RdAt c fd W en w rb g s → Calls Tryz.prog 111 #[.pointer (some ⟨rb, 0, none⟩)] w (RP c fd W en rb g (ty s) w)) (HS : ∀ (c : Ctx) s g w, s.ar ≤ 20 → Dp n s → RdAt c fd W en w rb g s → Calls Tryz.prog 55 #[.pointer (some ⟨rb, 0, none⟩)] w (RP c fd W en rb g (st s) w)) (hs0 : s = start) (hd : Dp n s) (w : World) (h : RdAt w0 fd W en w rb g s) : Calls Tryz.prog 28 #[.pointer (some ⟨rb, 0, none⟩)] w (RP w0 fd W en rb g (programR W en ty st) w) := by
  have hold := h.lt
  have helder := h.held
  have ha : s.ar ≤ 20 := by rw [hs0]; decide
  have HS0 := Lib.hid hs0
  clear hs0
  go_enter Tryz.func28, Tryz.ntmps28
  have K0 := Ok.refl h.inv hd
  have hR := RowIn.none h (Trn.refl rb g w) hold helder
  clear h
  have HD := Lib.hid (show declL W en ty (W.length + 1) [] s = declL W en ty (W.length + 1) [] start from by rw [HS0.out])
  go_wp2_with fail
  go_loopw [3] (fun v wr => RelDl w0 fd W en rb n ty (declL W en ty (W.length + 1) [] start) g s w v wr) (fun _ wr => W.length + 1 - kOf rb wr)
  case atStart => exact ⟨W.length + 1, [], s, g, hR, K0, HD.out, by omega, by show 0 + _ ≤ _; omega⟩
  case round =>
    clear K0 hR hold helder HD
    obtain ⟨f, l, s1, g1, hR, KR, hpl, hf, hlf⟩ := hrel
    have HKO := Lib.hid (kOf_at hR.rd)
    have ha1 : s1.ar ≤ 20 := by rw [KR.2.2.1.1]; exact ha
    have hWL : W.length ≤ 1000000 := by obtain ⟨_, _, _, h, _⟩ := hR.rd.toks; exact h
    have hm1 : l.length + 1 ≤ maxLen := by unfold maxLen; omega
    have hm2 : (l.length + 1) * 8 ≤ 140737488355328 := by omega
    have HPL := Lib.hid hpl
    have HF := Lib.hid (And.intro hf hlf)
    clear hpl hf hlf hWL
    have K0 := Ok.refl hR.rd.inv KR.2.2.2
    have t0 := Trn.refl rb g1 wr
    have h0 := hR.rd
    go_wp2_with fail
    refine (word_any _ h0).mono ?_
    rintro e w1 ⟨rfl, h1, O1⟩
    have t1 := t0.trans (Trn.of O1)
    have K1 := K0
    clear t0 O1
    by_cases hw : wdR W s1 = [118, 97, 114]
    · have qw := wq_yes hw
      have hlt := wdR_lt (show wdR W s1 ≠ [] by rw [hw]; decide)
      have hff := HF.out
      obtain ⟨f, rfl⟩ : ∃ f0, f = f0 + 1 := ⟨f - 1, by omega⟩
      have hpl := HPL.out
      rw [declL_more hw] at hpl
      have HPN := Lib.hid hpl
      have HH := Lib.hid hlt
      clear HPL hpl hw hff hlt
      obtain ⟨q, cc, rfl⟩ := hR.form
      go_wp2_with fail
      refine (decl_any ty hF (HT _) (by rw [K1.2.2.1.1]; omega) K1.2.2.2 _ h1).mono ?_
      rintro e w2 ⟨g2, rfl, h2, T2⟩
      have t2 := t1.trans T2
      have K2 := named_ok (en := en) hF 2 (K1.needW (en := en) (x := [118, 97, 114]) (by decide))
      clear t1 T2
      have hR2 := hR.call h2 t2
      have HK3 := Lib.hid K2
      clear h2 t2 K0 K1 K2
      obtain ⟨i0, hi0, hz0, hz1, hz2⟩ := info_parts Tryz.infoInt
      have hownP := ownsRow_belowT hR2.own (boxT w2 (.cells #[.int .i64 (namedR W en ty 2 (needWR W en [118, 97, 114] s1)).1] 3))
      have hszP : w.heap.size ≤ (w2.alloc (.cells #[.int .i64 (namedR W en ty 2 (needWR W en [118, 97, 114] s1)).1] 3)).heap.size := by have := hR2.trn.1.size; show _ ≤ (w2.heap.push _).size; simp; omega
      go_wp2_with ((at_builtin; refine wpList_append_lies _ rfl _ _ 23 rfl w.heap.size 3 i0 _ 1 8 Tryz.underlying23 hi0 hz0 hz1 hz2 rfl (by decide) (.slice q l.length cc) l.length (ints l) rfl hownP ⟨w2.heap.size, 0, none⟩ 1 1 [.int .i64 (namedR W en ty 2 (needWR W en [118, 97, 114] s1)).1] rfl rfl (World.news_of_block (cs := #[.int .i64 (namedR W en ty 2 (needWR W en [118, 97, 114] s1)).1]) (t := 3) (fr := (0, 0)) (heap_alloc_new w2 _)) (by simp [Value.oneCell']) (by omega) hm1 hm2 hszP _ rfl ?_; intro k2 cap2 wn hown3 hgrow hat hlt3))
      have hRn := Lib.hid (hR2.push hown3 hgrow hat hlt3)
      clear hown3 hgrow hat hlt3 hownP hszP hi0 hz0 hz1 hz2 hm1 hm2
      go_wp2_with fail
      go_roundw
      case rel => (have hmo := HK3.out.more HH.out; have := HF.out; have KX := KR.call HK3.out; exact ⟨f, l ++ [(namedR W en ty 2 (needWR W en [118, 97, 114] s1)).1], (namedR W en ty 2 (needWR W en [118, 97, 114] s1)).2, g2, hRn.out, KX.less (by omega) (by omega), HPN.out, by omega, by rw [List.length_append]; show _ + 1 + _ ≤ _; omega⟩)
      case measure => (have hmo := HK3.out.more HH.out; have := HKO.out; have h5 := kOf_at hRn.out.rd; have := hRn.out.rd.inv.1; rw [h5]; omega)
    · have qw := wq_no hw
      have hpl := HPL.out
      rw [declL_end hw] at hpl
      have HPD := Lib.hid hpl
      have hff := HF.out
      have hRe := hR.call h1 t1
      clear hpl hw HPL h1 t1 hR HKO HF K0 K1 hm1 hm2
      obtain ⟨f0, hf0⟩ : ∃ f0, f0 = f := ⟨f, rfl⟩
      have hl1 : l.length ≤ W.length + 1 := by omega
      clear hff hf0 f0
      go_wp2_with fail
      go_loopw [3] (fun v wr => RelSt w0 fd W en rb n st (stsL W st (W.length + 2) l s1) g s w v wr) (fun _ wr => W.length + 1 - kOf rb wr)
      case atStart => exact ⟨W.length + 2, l, s1, g1, hRe, KR, rfl, by omega, by omega⟩
      case round =>
        have HSE := Lib.hid (rfl : stsL W st (W.length + 2) l s1 = stsL W st (W.length + 2) l s1)
        generalize hR0 : stsL W st (W.length + 2) l s1 = R at *
        have HR0 := Lib.hid hR0
        clear hRe KR ha1 hl1 hR0 HSE
        rename_i l0 s0 _ _
        obtain ⟨f, l, s1, g1, hR, KR, hpl, hf, hlf⟩ := hrel
        have HKO := Lib.hid (kOf_at hR.rd)
        have ha1 : s1.ar ≤ 20 := by rw [KR.2.2.1.1]; exact ha
        have hWL : W.length ≤ 1000000 := by obtain ⟨_, _, _, h, _⟩ := hR.rd.toks; exact h
        have hm1 : l.length + 1 ≤ maxLen := by unfold maxLen; omega
        have hm2 : (l.length + 1) * 8 ≤ 140737488355328 := by omega
        have HPL := Lib.hid hpl
        have HF := Lib.hid (And.intro hf hlf)
        clear hpl hf hlf hWL
        have K0 := Ok.refl hR.rd.inv KR.2.2.2
        have t0 := Trn.refl rb g1 wr
        have h0 := hR.rd
        go_wp2_with fail
        refine (atEnd_any _ h0).mono ?_
        rintro e w1 ⟨rfl, h1, O1⟩
        have t1 := t0.trans (Trn.of O1)
        have K1 := K0
        clear t0 O1
        by_cases hk : s1.k = W.length
        · have qk : (s1.k == W.length) = true := by rw [beq_iff_eq]; exact hk
          have hpl := HPL.out
          rw [stsL_end (fun h => by omega)] at hpl
          have hRe := hR.call h1 t1
          obtain ⟨hO, q, cc, rfl, hps⟩ := hRe.out 1 [] 0
          have tO := hRe.trn
          have HP := Lib.hid hpl
          have hroom : s1.bad = none → s1.t.length ≤ s1.k := fun hb => by have h9 := (KR.2.2.1.2 hb).2.1; rw [HS0.out] at h9; have h10 : (start.t.length = 0 ∧ start.k = 0) := ⟨rfl, rfl⟩; omega
          clear hpl hRe hR HPL h1 t1 HF HKO hk
          go_wp2_with fail
          refine (node_any ⟨⟨1, [], 0, l⟩, q, cc⟩ _ hO hps hroom).mono ?_
          rintro e w9 ⟨g9, rfl, h9, T9⟩
          have t9 := tO.trans T9
          clear tO T9 hO hps
          go_wp2_with fail
          go_ret
          have HE : programR W en ty st = nodeR W ⟨1, [], 0, l⟩ s1 := by
            unfold programR
            dsimp only
            rw [← HPD.out]
            dsimp only
            rw [HR0.out, ← HP.out]
          rw [HE]
          exact ⟨g9, rfl, h9, t9⟩
        · have qk : (s1.k == W.length) = false := by rw [beq_eq_false_iff_ne]; exact hk
          have hlt : s1.k < W.length := by have := h1.inv.1; omega
          have hff := HF.out
          obtain ⟨f, rfl⟩ : ∃ f0, f = f0 + 1 := ⟨f - 1, by omega⟩
          have hpl := HPL.out
          rw [stsL_more hlt] at hpl
          have HPN := Lib.hid hpl
          have HH := Lib.hid hlt
          clear HPL hpl hk hff hlt
          obtain ⟨q, cc, rfl⟩ := hR.form
          go_wp2_with fail
          refine (HS _ s1 g1 _ ha1 K1.2.2.2 h1).mono ?_
          rintro e w2 ⟨g2, rfl, h2, T2⟩
          have t2 := t1.trans T2
          have K2 := K1.fn hS
          clear t1 T2
          have hR2 := hR.call h2 t2
          have HK3 := Lib.hid K2
          clear h2 t2 K0 K1 K2
          obtain ⟨i0, hi0, hz0, hz1, hz2⟩ := info_parts Tryz.infoInt
          have hownP := ownsRow_belowT hR2.own (boxT w2 (.cells #[.int .i64 (st s1).1] 3))
          have hszP : w.heap.size ≤ (w2.alloc (.cells #[.int .i64 (st s1).1] 3)).heap.size := by have := hR2.trn.1.size; show _ ≤ (w2.heap.push _).size; simp; omega
          go_wp2_with ((at_builtin; refine wpList_append_lies _ rfl _ _ 23 rfl w.heap.size 3 i0 _ 1 8 Tryz.underlying23 hi0 hz0 hz1 hz2 rfl (by decide) (.slice q l.length cc) l.length (ints l) rfl hownP ⟨w2.heap.size, 0, none⟩ 1 1 [.int .i64 (st s1).1] rfl rfl (World.news_of_block (cs := #[.int .i64 (st s1).1]) (t := 3) (fr := (0, 0)) (heap_alloc_new w2 _)) (by simp [Value.oneCell']) (by omega) hm1 hm2 hszP _ rfl ?_; intro k2 cap2 wn hown3 hgrow hat hlt3))
          have hRn := Lib.hid (hR2.push hown3 hgrow hat hlt3)
          clear hown3 hgrow hat hlt3 hownP hszP hi0 hz0 hz1 hz2 hm1 hm2
          go_wp2_with fail
          go_roundw
          case rel => (have hmo := HK3.out.more HH.out; have hiv := HK3.out.2.1; have := HF.out; have KX := KR.call HK3.out; exact ⟨f, l ++ [(st s1).1], (st s1).2, g2, hRn.out, KX.less (by omega) (by omega), HPN.out, by omega, by rw [List.length_append]; show _ + 1 + _ ≤ _; omega⟩)
          case measure => (have hmo := HK3.out.more HH.out; have := HKO.out; have h5 := kOf_at hRn.out.rd; have := hRn.out.rd.inv.1; rw [h5]; omega)
end Go.Proofs.YtkhklndmbfbnoaaGreatDoor

/- Package tree: Parse. -/
namespace Go.Proofs.YtkhklndmbfbnoaaGreatDoor
open Go.ChangeShapes Go.WideShapes Go.ChangeAt Go.RowKit Go.Joins Go.Deep
set_option linter.unusedVariables false

theorem scan_text : ∀ (f : Nat) (p : Bool) (l : List UInt8) (a : Nat), ∀ t ∈ (scan f p l a).1, t.1.length ≤ l.length := by
  intro f
  induction f with
  | zero => intro p l a t ht; simp [scan] at ht
  | succ f ih =>
    intro p l a t ht
    unfold scan at ht
    split at ht
    · simp at ht
    · simp only [List.mem_cons] at ht
      rcases ht with rfl | ht
      · simp only [List.length_take, List.length_drop]; omega
      · have := ih _ _ _ t ht
        rw [List.length_drop] at this
        omega
theorem tellW_text (l : List UInt8) : ∀ t ∈ (tellW l).1, t.1.length ≤ l.length := by
  unfold tellW
  split
  · simp
  · split
    · simp
    · exact scan_text _ _ _ _
/-- what Parse tells, in memory -/
def PPost (l : Tx) (w : World) (e : Ending) (w' : World) : Prop := ∃ nv X, e = .returned (.tuple #[nv, .int .i64 ((parseR l).2.1 : Nat), .int .i64 (parseR l).2.2]) ∧ NRow (fun _ => False) w' w.heap.size nv X ∧ X.map NX.x = (parseR l).1 ∧ Below w.heap.size w w'
theorem PsOK.lower {F : Nat → Prop} {w : World} {b0 b1 : Nat} {x : NX} (h : PsOK F w b1 x) (hb : b0 ≤ b1) : PsOK F w b0 x := by
  rcases h with h | ⟨hc, b, cs, h1, h2, h3⟩
  · exact Or.inl h
  · exact Or.inr ⟨hc, b, cs, h1, by omega, h3⟩
theorem NRow.lower {F : Nat → Prop} {w : World} {b0 b1 : Nat} {nv : Value} {X : List NX} (h : NRow F w b1 nv X) (hb : b0 ≤ b1) : NRow F w b0 nv X := ⟨ownsRow_less h.1 hb, fun x hx => (h.2 x hx).lower hb⟩
theorem NRow.nil (F : Nat → Prop) (w : World) (b : Nat) : NRow F w b (.slice none 0 0) [] := ⟨⟨rfl, Or.inl ⟨rfl, rfl⟩⟩, fun x hx => by cases hx⟩
theorem parse_words {l : Tx} (h : (tellW l).2.2 ≠ 0) : parseR l = ([], (tellW l).2.1, (tellW l).2.2) := by
  unfold parseR
  split
  · rename_i h0; exact absurd h0 h
  · rfl
theorem parse_good {l : Tx} (h : (tellW l).2.2 = 0) (hb : (programR (tellW l).1 l.length (typeR (tellW l).1 l.length 20) (stR (tellW l).1 l.length 20)).2.bad = none) : parseR l = ((programR (tellW l).1 l.length (typeR (tellW l).1 l.length 20) (stR (tellW l).1 l.length 20)).2.t, 0, 0) := by
  unfold parseR
  simp only [h, hb]
theorem parse_bad {l : Tx} {a : Nat} {e : Int} (h : (tellW l).2.2 = 0) (hb : (programR (tellW l).1 l.length (typeR (tellW l).1 l.length 20) (stR (tellW l).1 l.length 20)).2.bad = some (a, e)) : parseR l = ([], a, e) := by
  unfold parseR
  simp only [h, hb]
theorem texts_short (l : Tx) (hl : l.length ≤ 100000) (k : Nat) : ((tellW l).1.getD k ([], 0)).1.length ≤ 100000 := by
  by_cases hk : k < (tellW l).1.length
  · have := tellW_text l ((tellW l).1.getD k ([], 0)) (by rw [List.getD_eq_getElem?_getD, List.getElem?_eq_getElem hk]; simp)
    omega
  · rw [List.getD_eq_getElem?_getD, List.getElem?_eq_none (by omega)]; simp
theorem tell_long {l : Tx} (h : (tellW l).2.2 = 0) : l.length ≤ 2000 := by
  unfold tellW at h
  split at h
  · simp at h
  · omega
set_option maxHeartbeats 1600000 in
theorem parse_any (s : ByteArray) (hm : s.size ≤ maxLen) (w : World) : Calls Tryz.prog 11 #[.string s] w (PPost s.data.toList w) := by
  have cW := fun w => words_any s hm w
  by_cases h0 : (tellW s.data.toList).2.2 = 0
  · have hlen := tell_long h0
    have hWl := tellW_len s.data.toList
    have hsh := texts_short s.data.toList (by omega)
    have hsz := len_text s
    have hgood := fun hb => parse_good (l := s.data.toList) h0 hb
    have hbad := fun a e hb => parse_bad (l := s.data.toList) (a := a) (e := e) h0 hb
    have HP0 := Lib.hid (And.intro hgood hbad)
    unfold WordsPost at cW
    rw [h0] at cW
    clear h0 hgood hbad
    go_enter Tryz.func11, Tryz.ntmps11
    go_wp2_with fail
    refine (cW _).mono ?_
    rintro e w1 ⟨fd, rfl, hT, hb1⟩
    generalize hWd : (tellW s.data.toList).1 = W at *
    rw [hsz] at HP0
    have hI : IsToks w1 fd W := hT.toks (by omega)
    obtain ⟨q, cap, rfl, hI2⟩ := id hI
    have hA := At.new w1 #[.slice q W.length cap, .int .i64 (s.size : Nat), .int .i64 0, .int .i64 0, .int .i32 0, .slice none 0 0, .int .u32 0, .int .i32 0, .int .u32 0, .int .i64 0, .int .i64 0] 77
    have hbx := boxT w1 (.cells #[.slice q W.length cap, .int .i64 (s.size : Nat), .int .i64 0, .int .i64 0, .int .i32 0, .slice none 0 0, .int .u32 0, .int .i32 0, .int .u32 0, .int .i64 0, .int .i64 0] 77)
    have hRd : RdAt ⟨w1, fun _ => False⟩ (.slice q W.length cap) W s.size (w1.alloc (.cells #[.slice q W.length cap, .int .i64 (s.size : Nat), .int .i64 0, .int .i64 0, .int .i32 0, .slice none 0 0, .int .u32 0, .int .i32 0, .int .u32 0, .int .i64 0, .int .i64 0] 77)) w1.heap.size none start :=
      ⟨⟨0, .slice none 0 0, [], hA, rfl, NRow.nil _ _ _, rfl, by omega, by omega, fun _ => rfl⟩, ⟨Nat.zero_le _, fun _ => ⟨by decide, by decide⟩, fun h => absurd rfl h, fun a e h => by cases h⟩, hbx, Nat.le_refl _, hI, by decide, hsh, fun b h => h.elim⟩
    have HB1 := Lib.hid (And.intro hb1 hbx)
    clear hA hbx hI hI2 hT hb1 cW hsh hlen hsz
    go_wp2_with fail
    refine (program_any (n := 20) (typeR W s.size 20) (stR W s.size 20) (type_ok 20) (st_ok 20) (type_any 20) (st_any 20) rfl (fun _ => by decide) _ hRd).mono ?_
    rintro e w3 ⟨g3, rfl, h3, T3⟩
    have hb3 : Below w.heap.size w w3 := (HB1.out.1.trans (HB1.out.2.mono HB1.out.1.size)).trans (T3.1.mono HB1.out.1.size)
    have hws : w.heap.size ≤ w1.heap.size + 1 := by have := HB1.out.1.size; omega
    clear HB1 T3 hRd
    generalize programR W s.size (typeR W s.size 20) (stR W s.size 20) = pr at *
    have hInv := h3.inv
    obtain ⟨⟨md, nv, X, hA, n1, n2, n3, n4⟩, _⟩ := h3
    cases hb : pr.2.bad with
    | none =>
      have fin : PPost s.data.toList w (.returned (.tuple #[nv, .int .i64 ((0 : Nat) : Int), .int .i64 0])) w3 := ⟨nv, X, by rw [HP0.out.1 hb], n2.lower hws, by rw [HP0.out.1 hb]; exact n3, hb3⟩
      have FIN := Lib.hid fin
      rw [rdC_good hb] at hA
      have c10 : w3.cell? ⟨w1.heap.size, 10, none⟩ = some (.int .i64 0) := hA.cell 10 rfl
      have c5 : w3.cell? ⟨w1.heap.size, 5, none⟩ = some nv := hA.cell 5 rfl
      clear fin n1 n2 n3 n4 hA hb3 hInv
      go_wp2_with fail
      exact bodyPost_ret (v := .tuple #[nv, .int .i64 0, .int .i64 0]) (by simp [results, Tryz.results11, go_sem]) rfl FIN.out
    | some x =>
      obtain ⟨a0, e0⟩ := x
      have fin : ∀ w9, Below w.heap.size w w9 → PPost s.data.toList w (.returned (.tuple #[.slice none 0 0, .int .i64 (a0 : Nat), .int .i64 e0])) w9 := fun w9 hb9 => ⟨_, [], by rw [HP0.out.2 a0 e0 hb], NRow.nil _ _ _, by rw [HP0.out.2 a0 e0 hb]; rfl, hb9⟩
      have FIN := Lib.hid fin
      have he0 : e0 ≠ 0 := hInv.2.2.2 _ _ hb
      have qe : (e0 != 0) = true := by rw [bne_iff_ne]; exact he0
      rw [rdC_bad hb] at hA
      have c9 : w3.cell? ⟨w1.heap.size, 9, none⟩ = some (.int .i64 (a0 : Nat)) := hA.cell 9 rfl
      have c10 : w3.cell? ⟨w1.heap.size, 10, none⟩ = some (.int .i64 e0) := hA.cell 10 rfl
      clear fin n1 n2 n3 n4 hA hInv he0
      go_wp2_with fail
      go_region
      all_goals go_wp2_with fail
      all_goals exact bodyPost_ret (v := .tuple #[.slice none 0 0, .int .i64 (a0 : Nat), .int .i64 e0]) (by simp [results, Tryz.results11, go_sem]) rfl (FIN.out _ (by first | exact hb3 | exact hb3.drew))
  · have he := parse_words h0
    have fin : ∀ w', Below w.heap.size w w' → PPost s.data.toList w (.returned (.tuple #[.slice none 0 0, .int .i64 ((tellW s.data.toList).2.1 : Nat), .int .i64 (tellW s.data.toList).2.2])) w' := fun w' hb => ⟨_, [], by rw [he], NRow.nil _ _ _, by rw [he]; rfl, hb⟩
    have FIN := Lib.hid fin
    clear fin he
    unfold WordsPost at cW
    generalize (tellW s.data.toList).2.2 = er at *
    generalize (tellW s.data.toList).2.1 = pl at *
    have qe : (er != 0) = true := by rw [bne_iff_ne]; exact h0
    go_enter Tryz.func11, Tryz.ntmps11
    go_wp2_with fail
    refine (cW _).mono ?_
    rintro e w1 ⟨fd, rfl, _, hb1⟩
    clear cW
    go_wp2_with fail
    exact bodyPost_ret (v := .tuple #[.slice none 0 0, .int .i64 (pl : Nat), .int .i64 er]) (by simp [results, Tryz.results11, go_sem]) rfl (FIN.out _ hb1)
end Go.Proofs.YtkhklndmbfbnoaaGreatDoor
