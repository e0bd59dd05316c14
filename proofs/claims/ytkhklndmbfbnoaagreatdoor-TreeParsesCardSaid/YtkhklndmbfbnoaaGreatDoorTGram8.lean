/- Package tree: blocks, loops. -/
import Derived.Test.YtkhklndmbfbnoaaGreatDoorTGram5
namespace Go.Proofs.YtkhklndmbfbnoaaGreatDoor
open Go.ChangeShapes Go.WideShapes Go.ChangeAt Go.RowKit Go.Joins Go.Deep
set_option linter.unusedVariables false

/-- whether nothing is wrong, as memory has it -/
def gOf (rb : Nat) (w : World) : Nat := if intOf ((w.cell? ⟨rb, 10, none⟩).getD undef) = 0 then 1 else 0
theorem gOf_at {w0 : Ctx} {w : World} {fd : Value} {W : List (Tx × Nat)} {en rb : Nat} {g : Option Nat} {s : RS} (h : RdAt w0 fd W en w rb g s) : gOf rb w = if s.bad = none then 1 else 0 := by
  obtain ⟨md, nv, hA⟩ := h.cells
  have c2 : w.cell? ⟨rb, 10, none⟩ = some (.int .i64 (s.bad.getD (0, 0)).2) := hA.cell 10 rfl
  unfold gOf
  rw [c2]
  cases hb : s.bad with
  | none => simp [intOf]
  | some x =>
    have := h.inv.2.2.2 x.1 x.2 hb
    simp [intOf, this]
theorem RowIn.two {c : Ctx} {fd : Value} {W : List (Tx × Nat)} {en rb : Nat} {g g0 : Option Nat} {s : RS} {w w0 : World} (a b : Int) (h : RdAt c fd W en w rb g s) (t : Trn rb g0 g w0 w) (ho : rb < w0.heap.size) (he : ∀ b, c.F b → b < w0.heap.size) : RowIn c fd W en rb w0 g0 g s (.slice (some ⟨w.heap.size, 0, .none⟩) 2 2) [a, b] (w.alloc (.cells #[.int .i64 a, .int .i64 b] 3)) := by
  have hb := boxT w (.cells #[.int .i64 a, .int .i64 b] 3)
  have hs := t.1.size
  have hs0 : w0.heap.size ≤ w.heap.size := hs
  exact ⟨h.begin hb _ (fun b e => by
      have : w.heap.size = b := by simpa [Value.ownBlock] using e
      subst this
      exact ⟨Nat.le_refl _, by show _ < (w.heap.push _).size; simp⟩), ownsRow_lit w w0.heap.size 3 1 2 #[.int .i64 a, .int .i64 b] hs0 rfl (by decide), t.trans (Trn.of (h.onl hb)), ho, he⟩
def RelBl (w0 : Ctx) (fd : Value) (W : List (Tx × Nat)) (en rb n : Nat) (st : RS → Int × RS) (R : List Int × RS) (g : Option Nat) (s : RS) (w : World) (v : Value) (wr : World) : Prop := ∃ f l s1 g1, RowIn w0 fd W en rb w g g1 s1 v l wr ∧ Ok W n 1 1 s s1 ∧ blockL W st f l s1 = R ∧ W.length + 2 ≤ s1.k + (if s1.bad = none then 0 else 1) + f ∧ l.length + f ≤ W.length + 2
set_option maxRecDepth 100000 in
set_option maxHeartbeats 3200000 in
theorem block_any {w0 : Ctx} {fd : Value} {W : List (Tx × Nat)} {en rb : Nat} {g : Option Nat} {s : RS} {n : Nat} (st : RS → Int × RS) (hS : Fng W n st) (HS : ∀ (c : Ctx) s g w, s.ar ≤ 20 → Dp n s → RdAt c fd W en w rb g s → Calls Tryz.prog 55 #[.pointer (some ⟨rb, 0, none⟩)] w (RP c fd W en rb g (st s) w)) (ha : s.ar ≤ 21) (hd : Dp n s) (w : World) (h : RdAt w0 fd W en w rb g s) : Calls Tryz.prog 114 #[.pointer (some ⟨rb, 0, none⟩)] w (RP w0 fd W en rb g (blockR W en st s) w) := by
  have hold := h.lt
  have helder := h.held
  go_enter Tryz.func114, Tryz.ntmps114
  have K0 := Ok.refl h.inv hd
  have t0 := Trn.refl rb g w
  have h0 := h
  clear h
  go_wp2_with fail
  refine (needW_any ⟨#[123]⟩ (by decide) _ h0).mono ?_
  rintro e w1 ⟨rfl, h1, O1⟩
  have t1 := t0.trans (Trn.of O1)
  have K1 := K0.needW (en := en) (x := [123]) (by decide)
  clear t0 O1
  have h1 : RdAt w0 fd W en w1 rb g (needWR W en [123] s) := h1
  have hR := RowIn.none h1 t1 hold helder
  go_wp2_with fail
  go_loopw [3] (fun v wr => RelBl w0 fd W en rb n st (blockL W st (W.length + 2) [] (needWR W en [123] s)) g s w v wr) (fun _ wr => W.length + 1 - kOf rb wr + gOf rb wr)
  case atStart => exact ⟨W.length + 2, [], (needWR W en [123] s), g, hR, K1, rfl, by omega, by show 0 + _ ≤ _; omega⟩
  case round =>
    clear h1 t1 K1 K0 hR helder hold
    obtain ⟨f, l, s1, g1, hR, KR, hpl, hf, hlf⟩ := hrel
    have HKO := Lib.hid (And.intro (kOf_at hR.rd) (gOf_at hR.rd))
    have ha1 : s1.ar ≤ 21 := by rw [KR.2.2.1.1]; exact ha
    have hWL : W.length ≤ 1000000 := by obtain ⟨_, _, _, h, _⟩ := hR.rd.toks; exact h
    have hm1 : l.length + 1 ≤ maxLen := by unfold maxLen; omega
    have hm2 : (l.length + 1) * 8 ≤ 140737488355328 := by omega
    have HPL := Lib.hid hpl
    have HF := Lib.hid (And.intro hf hlf)
    clear hpl hf hlf hWL
    have c10 : wr.cell? ⟨rb, 10, none⟩ = some (.int .i64 (s1.bad.getD (0, 0)).2) := by obtain ⟨md, nv, hA⟩ := hR.rd.cells; exact hA.cell 10 rfl
    have K0 := Ok.refl hR.rd.inv KR.2.2.2
    have t0 := Trn.refl rb g1 wr
    have h0 := hR.rd
    by_cases hb : s1.bad = none
    · have HB := Lib.hid hb
      rw [hb] at c10
      go_wp2_with fail
      refine (word_any _ h0).mono ?_
      rintro e w1 ⟨rfl, h1, O1⟩
      have t1 := t0.trans (Trn.of O1)
      have K1 := K0
      clear t0 O1
      by_cases hw : wdR W s1 = [125]
      · have qw := wq_yes hw
        have hpl := HPL.out
        rw [blockL_end (fun h => h.2 hw)] at hpl
        have hRe := hR.call h1 t1
        obtain ⟨hO, q, cc, rfl, hps⟩ := hRe.out 24 [] 0
        have tO := hRe.trn
        have HP := Lib.hid hpl
        clear hpl hRe hR HPL h1 t1 HF HKO
        go_wp2_with fail
        refine (needW_any ⟨#[125]⟩ (by decide) _ hO).mono ?_
        rintro e w8 ⟨rfl, h8, O8⟩
        have t8 := tO.trans (Trn.of O8)
        have K8 := KR.needW (en := en) (x := [125]) (by decide)
        have h8 : RdAt w0 fd W en w8 rb g1 (needWR W en [125] s1) := h8
        have hps8 : PsOK w0.F w8 (rb + 1) ⟨⟨24, [], 0, l⟩, q, cc⟩ := hps.keep fun b cs hb => O8.at hb (hO.off hb).1
        clear tO O8 hps
        go_wp2_with fail
        refine (node_any ⟨⟨24, [], 0, l⟩, q, cc⟩ _ h8 hps8 K8.room).mono ?_
        rintro e w9 ⟨g9, rfl, h9, T9⟩
        have t9 := t8.trans T9
        clear t8 T9 h8 hps8
        go_wp2_with fail
        go_ret
        unfold blockR
        dsimp only
        rw [← HP.out]
        exact ⟨g9, rfl, h9, t9⟩
      · have qw := wq_no hw
        have hff := HF.out
        have hkW := h1.inv.1
        rw [if_pos hb] at hff
        obtain ⟨f, rfl⟩ : ∃ f0, f = f0 + 1 := ⟨f - 1, by omega⟩
        have hpl := HPL.out
        rw [blockL_more ⟨hb, hw⟩] at hpl
        have HPN := Lib.hid hpl
        have HFF := Lib.hid hff
        have ha20 : s1.ar ≤ 20 := (KR.2.2.2 hb).2
        clear HPL hpl hw hff hkW hb c10 HF
        obtain ⟨q, cc, rfl⟩ := hR.form
        go_wp2_with fail
        refine (HS _ s1 g1 _ ha20 K1.2.2.2 h1).mono ?_
        rintro e w2 ⟨g2, rfl, h2, T2⟩
        have t2 := t1.trans T2
        have K2 := K1.fn hS
        clear t1 T2
        have hR2 := hR.call h2 t2
        have HK3 := Lib.hid K2
        clear t2 K0 K1 K2 h2
        obtain ⟨i0, hi0, hz0, hz1, hz2⟩ := info_parts Tryz.infoInt
        have hownP := ownsRow_belowT hR2.own (boxT w2 (.cells #[.int .i64 (st s1).1] 3))
        have hszP : w.heap.size ≤ (w2.alloc (.cells #[.int .i64 (st s1).1] 3)).heap.size := by have := hR2.trn.1.size; show _ ≤ (w2.heap.push _).size; simp; omega
        go_wp2_with ((at_builtin; refine wpList_append_lies _ rfl _ _ 23 rfl w.heap.size 3 i0 _ 1 8 Tryz.underlying23 hi0 hz0 hz1 hz2 rfl (by decide) (.slice q l.length cc) l.length (ints l) rfl hownP ⟨w2.heap.size, 0, none⟩ 1 1 [.int .i64 (st s1).1] rfl rfl (World.news_of_block (cs := #[.int .i64 (st s1).1]) (t := 3) (fr := (0, 0)) (heap_alloc_new w2 _)) (by simp [Value.oneCell']) (by omega) hm1 hm2 hszP _ rfl ?_; intro k2 cap2 w4 hown3 hgrow hat hlt3))
        have hRn := Lib.hid (hR2.push hown3 hgrow hat hlt3)
        clear hown3 hgrow hat hlt3 hownP hszP hi0 hz0 hz1 hz2 hm1 hm2
        go_wp2_with fail
        go_roundw
        case rel =>
          have hmo := HK3.out.2.2.1.2
          have hiv := hRn.out.rd.inv
          have hff := HFF.out
          have KX := KR.call HK3.out
          refine ⟨f, l ++ [(st s1).1], (st s1).2, g2, hRn.out, KX.less (by omega) (by omega), HPN.out, ?_, by rw [List.length_append]; show _ + 1 + _ ≤ _; omega⟩
          by_cases hb2 : (st s1).2.bad = none
          · have := (hmo hb2).2.2; rw [if_pos hb2]; omega
          · have := hiv.2.2.1 hb2; have := HK3.out.1.1; rw [if_neg hb2]; omega
        case measure =>
          have hmo := HK3.out.2.2.1.2
          have hiv := hRn.out.rd.inv
          have hk1 := HK3.out.1.1
          obtain ⟨h8, h9⟩ := HKO.out
          rw [kOf_at hRn.out.rd, gOf_at hRn.out.rd]
          rw [if_pos HB.out] at h9
          by_cases hb2 : (st s1).2.bad = none
          · have := (hmo hb2).2.2; rw [if_pos hb2]; omega
          · have := hiv.2.2.1 hb2; rw [if_neg hb2]; omega
    · obtain ⟨⟨a0, e0⟩, hae⟩ : ∃ y, s1.bad = some y := Option.ne_none_iff_exists'.mp hb
      have he0 : e0 ≠ 0 := h0.inv.2.2.2 _ _ hae
      rw [hae] at c10
      have qe : (e0 == 0) = false := by rw [beq_eq_false_iff_ne]; exact he0
      have hpl := HPL.out
      rw [blockL_end (fun h => hb h.1)] at hpl
      have hRe := hR.call h0 t0
      obtain ⟨hO, q, cc, rfl, hps⟩ := hRe.out 24 [] 0
      have tO := hRe.trn
      have HP := Lib.hid hpl
      clear hpl hRe hR HPL h0 t0 HF HKO
      go_wp2_with fail
      refine (needW_any ⟨#[125]⟩ (by decide) _ hO).mono ?_
      rintro e w8 ⟨rfl, h8, O8⟩
      have t8 := tO.trans (Trn.of O8)
      have K8 := KR.needW (en := en) (x := [125]) (by decide)
      have h8 : RdAt w0 fd W en w8 rb g1 (needWR W en [125] s1) := h8
      have hps8 : PsOK w0.F w8 (rb + 1) ⟨⟨24, [], 0, l⟩, q, cc⟩ := hps.keep fun b cs hb => O8.at hb (hO.off hb).1
      clear tO O8 hps
      go_wp2_with fail
      refine (node_any ⟨⟨24, [], 0, l⟩, q, cc⟩ _ h8 hps8 K8.room).mono ?_
      rintro e w9 ⟨g9, rfl, h9, T9⟩
      have t9 := t8.trans T9
      clear t8 T9 h8 hps8
      go_wp2_with fail
      go_ret
      unfold blockR
      dsimp only
      rw [← HP.out]
      exact ⟨g9, rfl, h9, t9⟩
set_option maxHeartbeats 1600000 in
theorem loop_walk {w0 : Ctx} {fd : Value} {W : List (Tx × Nat)} {en rb : Nat} {g : Option Nat} {s : RS} {n : Nat} (ex st : RS → Int × RS) (hF : Fng W n ex) (hS : Fng W n st) (HE : ∀ (c : Ctx) s g w, s.ar ≤ 21 → Dp n s → RdAt c fd W en w rb g s → Calls Tryz.prog 113 #[.pointer (some ⟨rb, 0, none⟩)] w (RP c fd W en rb g (ex s) w)) (HS : ∀ (c : Ctx) s g w, s.ar ≤ 20 → Dp n s → RdAt c fd W en w rb g s → Calls Tryz.prog 55 #[.pointer (some ⟨rb, 0, none⟩)] w (RP c fd W en rb g (st s) w)) (ha : s.ar ≤ 21) (hd : Dp n s) (w : World) (h : RdAt w0 fd W en w rb g s) : Calls Tryz.prog 83 #[.pointer (some ⟨rb, 0, none⟩)] w (RP w0 fd W en rb g (loopR W en ex st s) w) := by
  go_enter Tryz.func83, Tryz.ntmps83
  have K0 := Ok.refl h.inv hd
  have t0 := Trn.refl rb g w
  have h0 := h
  clear h
  go_wp2_with fail
  refine (needW_any ⟨#[119, 104, 105, 108, 101]⟩ (by decide) _ h0).mono ?_
  rintro e w1 ⟨rfl, h1, O1⟩
  have t1 := t0.trans (Trn.of O1)
  have K1 := K0.needW (en := en) (x := [119, 104, 105, 108, 101]) (by decide)
  clear t0 O1
  have h1 : RdAt w0 fd W en w1 rb g (needWR W en [119, 104, 105, 108, 101] s) := h1
  go_wp2_with fail
  refine (HE _ (needWR W en [119, 104, 105, 108, 101] s) g _ (by rw [K1.2.2.1.1]; exact ha) K1.2.2.2 h1).mono ?_
  rintro e w2 ⟨g2, rfl, h2, T2⟩
  have t2 := t1.trans T2
  have K2 := K1.fn hF
  clear t1 T2
  go_wp2_with fail
  refine (block_any st hS HS (by rw [K2.2.2.1.1]; exact ha) K2.2.2.2 _ h2).mono ?_
  rintro e w3 ⟨g3, rfl, h3, T3⟩
  have t3 := t2.trans T3
  have K3 := block_ok (en := en) hS K2
  clear t2 T3
  have hb := boxT w3 (.cells #[.int .i64 (ex (needWR W en [119, 104, 105, 108, 101] s)).1, .int .i64 (blockR W en st (ex (needWR W en [119, 104, 105, 108, 101] s)).2).1] 3)
  have hA := h3.grow hb
  have t3 := t3.trans (Trn.of (h3.onl hb))
  have hps := ps2_ok (op := 22) (name := []) (n := 0) (ex (needWR W en [119, 104, 105, 108, 101] s)).1 (blockR W en st (ex (needWR W en [119, 104, 105, 108, 101] s)).2).1 h3.lt h3.held
  clear hb
  go_wp2_with fail
  refine (node_any ⟨⟨22, [], 0, [(ex (needWR W en [119, 104, 105, 108, 101] s)).1, (blockR W en st (ex (needWR W en [119, 104, 105, 108, 101] s)).2).1]⟩, some ⟨w3.heap.size, 0, none⟩, 2⟩ _ hA hps K3.room).mono ?_
  rintro e w4 ⟨g4, rfl, h4, T4⟩
  have t4 := t3.trans T4
  clear t3 T4 hA hps
  go_wp2_with fail
  go_ret
  exact ⟨g4, rfl, h4, t4⟩
end Go.Proofs.YtkhklndmbfbnoaaGreatDoor

/- Package tree: choices. -/
namespace Go.Proofs.YtkhklndmbfbnoaaGreatDoor
open Go.ChangeShapes Go.WideShapes Go.ChangeAt Go.RowKit Go.Joins Go.Deep
set_option linter.unusedVariables false

set_option maxRecDepth 100000 in
set_option maxHeartbeats 3200000 in
theorem choice_any {w0 : Ctx} {fd : Value} {W : List (Tx × Nat)} {en rb : Nat} {g : Option Nat} {s : RS} {n : Nat} (ex st : RS → Int × RS) (hF : Fng W n ex) (hS : Fng W n st) (HE : ∀ (c : Ctx) s g w, s.ar ≤ 21 → Dp n s → RdAt c fd W en w rb g s → Calls Tryz.prog 113 #[.pointer (some ⟨rb, 0, none⟩)] w (RP c fd W en rb g (ex s) w)) (HS : ∀ (c : Ctx) s g w, s.ar ≤ 20 → Dp n s → RdAt c fd W en w rb g s → Calls Tryz.prog 55 #[.pointer (some ⟨rb, 0, none⟩)] w (RP c fd W en rb g (st s) w)) (ha : s.ar ≤ 21) (hd : Dp n s) (w : World) (h : RdAt w0 fd W en w rb g s) : Calls Tryz.prog 82 #[.pointer (some ⟨rb, 0, none⟩)] w (RP w0 fd W en rb g (choiceR W en ex st s) w) := by
  have hold := h.lt
  have helder := h.held
  go_enter Tryz.func82, Tryz.ntmps82
  have K0 := Ok.refl h.inv hd
  have t0 := Trn.refl rb g w
  have h0 := h
  clear h
  go_wp2_with fail
  refine (needW_any ⟨#[105, 102]⟩ (by decide) _ h0).mono ?_
  rintro e w1 ⟨rfl, h1, O1⟩
  have t1 := t0.trans (Trn.of O1)
  have K1 := K0.needW (en := en) (x := [105, 102]) (by decide)
  clear t0 O1
  have h1 : RdAt w0 fd W en w1 rb g (needWR W en [105, 102] s) := h1
  go_wp2_with fail
  refine (HE _ (needWR W en [105, 102] s) g _ (by rw [K1.2.2.1.1]; exact ha) K1.2.2.2 h1).mono ?_
  rintro e w2 ⟨g2, rfl, h2, T2⟩
  have t2 := t1.trans T2
  have K2 := K1.fn hF
  clear t1 T2
  go_wp2_with fail
  refine (block_any st hS HS (by rw [K2.2.2.1.1]; exact ha) K2.2.2.2 _ h2).mono ?_
  rintro e w3 ⟨g3, rfl, h3, T3⟩
  have t3 := t2.trans T3
  have K3 := block_ok (en := en) hS K2
  clear t2 T3
  have hR := RowIn.two (ex (needWR W en [105, 102] s)).1 (blockR W en st (ex (needWR W en [105, 102] s)).2).1 h3 t3 hold helder
  have hm1 : [(ex (needWR W en [105, 102] s)).1, (blockR W en st (ex (needWR W en [105, 102] s)).2).1].length + 1 ≤ maxLen := by show 2 + 1 ≤ maxLen; decide
  have hm2 : ([(ex (needWR W en [105, 102] s)).1, (blockR W en st (ex (needWR W en [105, 102] s)).2).1].length + 1) * 8 ≤ 140737488355328 := by show (2 + 1) * 8 ≤ _; omega
  have KR := K3
  have HC := Lib.hid (show choiceR W en ex st s = (if wdR W (blockR W en st (ex (needWR W en [105, 102] s)).2).2 = [101, 108, 115, 101] then nodeR W ⟨21, [], 0, [(ex (needWR W en [105, 102] s)).1, (blockR W en st (ex (needWR W en [105, 102] s)).2).1, (blockR W en st (passR (blockR W en st (ex (needWR W en [105, 102] s)).2).2)).1]⟩ (blockR W en st (passR (blockR W en st (ex (needWR W en [105, 102] s)).2).2)).2 else nodeR W ⟨21, [], 0, [(ex (needWR W en [105, 102] s)).1, (blockR W en st (ex (needWR W en [105, 102] s)).2).1]⟩ (blockR W en st (ex (needWR W en [105, 102] s)).2).2) from rfl)
  have ha1 : ((blockR W en st (ex (needWR W en [105, 102] s)).2).2).ar ≤ 21 := by rw [KR.2.2.1.1]; exact ha
  clear h3 t3 K3 K0 hold helder
  generalize (ex (needWR W en [105, 102] s)).1 = xa at *
  generalize (blockR W en st (ex (needWR W en [105, 102] s)).2).1 = xb at *
  generalize (blockR W en st (ex (needWR W en [105, 102] s)).2).2 = sb at *
  have K0 := Ok.refl hR.rd.inv KR.2.2.2
  have t0 := Trn.refl rb g3 (w3.alloc (.cells #[.int .i64 xa, .int .i64 xb] 3))
  have h0 := hR.rd
  go_wp2_with fail
  refine (word_any _ h0).mono ?_
  rintro e w1 ⟨rfl, h1, O1⟩
  have t1 := t0.trans (Trn.of O1)
  have K1 := K0
  clear t0 O1
  by_cases hw : wdR W sb = [101, 108, 115, 101]
  · have qw := wq_yes hw
    have hne : wdR W sb ≠ [] := by rw [hw]; decide
    have HW := Lib.hid hw
    clear hw
    go_wp2_with fail
    refine (tpass_any _ h1 hne).mono ?_
    rintro e w2 ⟨rfl, h2, O2⟩
    have t2 := t1.trans (Trn.of O2)
    have K2 := K1.pass hne
    clear t1 O2
    go_wp2_with fail
    refine (block_any st hS HS (by rw [K2.2.2.1.1]; exact ha1) K2.2.2.2 _ h2).mono ?_
    rintro e w3 ⟨g3, rfl, h3, T3⟩
    have t3 := t2.trans T3
    have K3 := block_ok (en := en) hS K2
    clear t2 T3
    have hR2 := hR.call h3 t3
    clear h3 t3
    obtain ⟨i0, hi0, hz0, hz1, hz2⟩ := info_parts Tryz.infoInt
    have hownP := ownsRow_belowT hR2.own (boxT w3 (.cells #[.int .i64 (blockR W en st (passR sb)).1] 3))
    have hszP : w.heap.size ≤ (w3.alloc (.cells #[.int .i64 (blockR W en st (passR sb)).1] 3)).heap.size := by have := hR2.trn.1.size; show _ ≤ (w3.heap.push _).size; simp; omega
    go_wp2_with ((at_builtin; refine wpList_append_lies _ rfl _ _ 23 rfl w.heap.size 3 i0 _ 1 8 Tryz.underlying23 hi0 hz0 hz1 hz2 rfl (by decide) _ [xa, xb].length (ints [xa, xb]) rfl hownP ⟨w3.heap.size, 0, none⟩ 1 1 [.int .i64 (blockR W en st (passR sb)).1] rfl rfl (World.news_of_block (cs := #[.int .i64 (blockR W en st (passR sb)).1]) (t := 3) (fr := (0, 0)) (heap_alloc_new w3 _)) (by simp [Value.oneCell']) (by omega) hm1 hm2 hszP _ rfl ?_; intro k2 cap2 wn hown3 hgrow hat hlt3))
    have hRn := Lib.hid (hR2.push hown3 hgrow hat hlt3)
    clear hown3 hgrow hat hlt3 hownP hszP hi0 hz0 hz1 hz2 hm1 hm2
    have hRm := hRn.out
    clear hRn hR2 hR
    obtain ⟨hO, q, cc, hv, hps⟩ := hRm.out 21 [] 0
    have tO := hRm.trn
    simp only [Value.slice.injEq] at hv
    obtain ⟨hv1, -, hv2⟩ := hv
    rw [← hv1, ← hv2] at hps
    clear hv1 hv2
    go_wp2_with fail
    refine (node_any ⟨⟨21, [], 0, [xa, xb, (blockR W en st (passR sb)).1]⟩, _, _⟩ _ hO hps K3.room).mono ?_
    rintro e w9 ⟨g9, rfl, h9, T9⟩
    have t9 := tO.trans T9
    clear tO T9 hO hps
    go_wp2_with fail
    go_ret
    rw [HC.out, if_pos HW.out]
    exact ⟨g9, rfl, h9, t9⟩
  · have qw := wq_no hw
    have HW := Lib.hid hw
    clear hw hm1 hm2
    have hRm := hR.call h1 t1
    clear h1 t1 hR
    obtain ⟨hO, q, cc, hv, hps⟩ := hRm.out 21 [] 0
    have tO := hRm.trn
    simp only [Value.slice.injEq] at hv
    obtain ⟨hv1, -, hv2⟩ := hv
    rw [← hv1, ← hv2] at hps
    clear hv1 hv2
    go_wp2_with fail
    refine (node_any ⟨⟨21, [], 0, [xa, xb]⟩, _, _⟩ _ hO hps KR.room).mono ?_
    rintro e w9 ⟨g9, rfl, h9, T9⟩
    have t9 := tO.trans T9
    clear tO T9 hO hps
    go_wp2_with fail
    go_ret
    rw [HC.out, if_neg HW.out]
    exact ⟨g9, rfl, h9, t9⟩
end Go.Proofs.YtkhklndmbfbnoaaGreatDoor

/- Package tree: a statement up to its semicolon. -/
namespace Go.Proofs.YtkhklndmbfbnoaaGreatDoor
open Go.ChangeShapes Go.WideShapes Go.ChangeAt Go.RowKit Go.Joins Go.Deep
set_option linter.unusedVariables false

/-- what a statement's plain part tells: a node, its parts laid -/
def SP (c : Ctx) (fd : Value) (W : List (Tx × Nat)) (en rb : Nat) (g : Option Nat) (r : ND × RS) (w : World) (e : Ending) (w' : World) : Prop := ∃ g' q cc, e = .returned (ndV ⟨r.1, q, cc⟩) ∧ RdAt c fd W en w' rb g' r.2 ∧ Trn rb g g' w w' ∧ PsOK c.F w' (rb + 1) ⟨r.1, q, cc⟩
section
variable {c : Ctx} {fd : Value} {W : List (Tx × Nat)} {en rb : Nat} {g g0 : Option Nat} {s : RS} {w w' w0 : World} {B : Nat}
theorem RdAt.gLt {b : Nat} (h : RdAt c fd W en w rb g s) (hg : g = some b) : b < w.heap.size := by
  obtain ⟨md, nv, X, h1, h2, h3, _⟩ := h.mem
  obtain ⟨cs', hc⟩ := row_typed h3 (h2.trans hg)
  exact hc.lt
/-- a block alone is another, none of the reader's -/
theorem RdAt.other {cs : Array Value} (h : RdAt c fd W en w rb g s) (hO : Onl B w w') (hA : At w B cs 83) (hB : rb < B) (hg : g ≠ some B) : RdAt c fd W en w' rb g s := by
  obtain ⟨⟨md, nv, X, h1, h2, h3, h4⟩, hi, hbl, hba, ht, hr, hsh, hhe⟩ := h
  refine ⟨⟨md, nv, X, hO.at h1 (by omega), h2, ⟨?_, fun x hx => (h3.2 x hx).keep fun b cs' hb => hO.at hb (at_other hb hA (by decide))⟩, h4⟩, hi, hbl.trans (hO.1.mono (by have := hba; omega)), hba, ht, hr, hsh, fun b hF => Nat.lt_of_lt_of_le (hhe b hF) hO.1.size⟩
  obtain ⟨hl, ⟨rfl, h0⟩ | ⟨k, cap, cur, rfl, hbb, hG, hn, hm, hc, hx⟩⟩ := h3.1
  · exact ⟨hl, Or.inl ⟨rfl, h0⟩⟩
  · exact ⟨hl, Or.inr ⟨k, cap, cur, rfl, hbb, hO.at (t := 83) hG (fun e => hg (by rw [← h2, ← e]; rfl)), hn, hm, hc, hx⟩⟩
theorem Trn.other (h : Trn rb g0 g w0 w) (hO : Onl B w w') (hB : w0.heap.size ≤ B) (hr : rb < w0.heap.size) : Trn rb g0 g w0 w' := by
  have hs := h.1.size
  exact ⟨h.1.trans (hO.1.mono (by omega)), fun b hb hrb hgb => (hO.2 b (by omega) (by omega)).trans (h.2.1 b hb hrb hgb), h.2.2⟩
theorem store4 {a0 a1 a2 a3 : Value} {t : TypeId} (h : At w B #[a0, a1, a2, a3] t) (x0 x1 x2 x3 : Value) : (w.cell? ⟨B, 0, none⟩ = some a0 ∧ w.frozen? ⟨B, 0, none⟩ = false) ∧ ((w.setCell ⟨B, 0, none⟩ x0).cell? ⟨B, 1, none⟩ = some a1 ∧ (w.setCell ⟨B, 0, none⟩ x0).frozen? ⟨B, 1, none⟩ = false) ∧ (((w.setCell ⟨B, 0, none⟩ x0).setCell ⟨B, 1, none⟩ x1).cell? ⟨B, 2, none⟩ = some a2 ∧ ((w.setCell ⟨B, 0, none⟩ x0).setCell ⟨B, 1, none⟩ x1).frozen? ⟨B, 2, none⟩ = false) ∧ ((((w.setCell ⟨B, 0, none⟩ x0).setCell ⟨B, 1, none⟩ x1).setCell ⟨B, 2, none⟩ x2).cell? ⟨B, 3, none⟩ = some a3 ∧ (((w.setCell ⟨B, 0, none⟩ x0).setCell ⟨B, 1, none⟩ x1).setCell ⟨B, 2, none⟩ x2).frozen? ⟨B, 3, none⟩ = false) ∧ At ((((w.setCell ⟨B, 0, none⟩ x0).setCell ⟨B, 1, none⟩ x1).setCell ⟨B, 2, none⟩ x2).setCell ⟨B, 3, none⟩ x3) B #[x0, x1, x2, x3] t ∧ Onl B w ((((w.setCell ⟨B, 0, none⟩ x0).setCell ⟨B, 1, none⟩ x1).setCell ⟨B, 2, none⟩ x2).setCell ⟨B, 3, none⟩ x3) := by
  have s1 : At (w.setCell ⟨B, 0, none⟩ x0) B #[x0, a1, a2, a3] t := At.set h 0 x0 (by simp)
  have s2 : At ((w.setCell ⟨B, 0, none⟩ x0).setCell ⟨B, 1, none⟩ x1) B #[x0, x1, a2, a3] t := At.set s1 1 x1 (by simp)
  have s3 : At (((w.setCell ⟨B, 0, none⟩ x0).setCell ⟨B, 1, none⟩ x1).setCell ⟨B, 2, none⟩ x2) B #[x0, x1, x2, a3] t := At.set s2 2 x2 (by simp)
  have s4 : At ((((w.setCell ⟨B, 0, none⟩ x0).setCell ⟨B, 1, none⟩ x1).setCell ⟨B, 2, none⟩ x2).setCell ⟨B, 3, none⟩ x3) B #[x0, x1, x2, x3] t := At.set s3 3 x3 (by simp)
  exact ⟨⟨h.cell 0 rfl, At.free h 0⟩, ⟨s1.cell 1 rfl, At.free s1 1⟩, ⟨s2.cell 2 rfl, At.free s2 2⟩, ⟨s3.cell 3 rfl, At.free s3 3⟩, s4, ((((Onl.refl B w).set 0 x0).set 1 x1).set 2 x2).set 3 x3⟩
/-- the node is stored into its box -/
theorem SP.fin {p : ND} {q : Option Addr} {cc : Nat} {cs : Array Value} (hr : rb < w0.heap.size) (h : RdAt c fd W en w rb g s) (t : Trn rb g0 g w0 w) (hA : At w B cs 83) (hB : w0.heap.size ≤ B) (hg : g ≠ some B) (hO : Onl B w w') (hp : PsOK c.F w (rb + 1) ⟨p, q, cc⟩) : SP c fd W en rb g0 (p, s) w0 (.returned (ndV ⟨p, q, cc⟩)) w' :=
  ⟨g, q, cc, rfl, h.other hO hA (by omega) hg, t.other hO hB hr, hp.keep fun b cs' hb => hO.at hb (at_other hb hA (by decide))⟩
end
set_option maxHeartbeats 3200000 in
theorem plainSt_any {w0 : Ctx} {fd : Value} {W : List (Tx × Nat)} {en rb : Nat} {g : Option Nat} {s : RS} {n : Nat} (ex : RS → Int × RS) (hF : Fng W n ex) (HE : ∀ (c : Ctx) s g w, s.ar ≤ 21 → Dp n s → RdAt c fd W en w rb g s → Calls Tryz.prog 113 #[.pointer (some ⟨rb, 0, none⟩)] w (RP c fd W en rb g (ex s) w)) (ha : s.ar ≤ 21) (hd : Dp n s) (w : World) (h : RdAt w0 fd W en w rb g s) : Calls Tryz.prog 84 #[.pointer (some ⟨rb, 0, none⟩)] w (SP w0 fd W en rb g (plainStR W en ex s) w) := by
  have hlt := h.lt
  have hBr : w.heap.size ≠ rb := by omega
  have hb := boxT w (.cells #[.int .i64 0, .string ⟨#[]⟩, .int .i64 0, .slice none 0 0] 83)
  have h0 := h.grow hb
  have t0 := Trn.of (g := g) (h.onl hb)
  have hX0 := At.new w #[.int .i64 0, .string ⟨#[]⟩, .int .i64 0, .slice none 0 0] 83
  have hG0 : g ≠ some w.heap.size := fun e => by have := h.gLt e; omega
  clear h hb
  go_enter Tryz.func84, Tryz.ntmps84
  have K0 := Ok.refl h0.inv hd
  go_wp2_with fail
  refine (word_any _ h0).mono ?_
  rintro e w1 ⟨rfl, h1, O1⟩
  have t1 := t0.trans (Trn.of O1)
  have K1 := K0
  have hX1 := O1.at hX0 hBr
  have hG1 := hG0
  clear t0 O1
  by_cases h1w : wdR W s = [114, 101, 97, 100]
  · have e : plainStR W en ex s = (⟨18, [], 0, [(placeR W en ex (passR s)).1]⟩, (placeR W en ex (passR s)).2) := by unfold plainStR; rw [if_pos h1w]
    have EQ := Lib.hid e
    have q0 := wq_yes h1w
    have hne : wdR W s ≠ [] := by rw [h1w]; decide
    clear e h1w
    go_wp2_with fail
    refine (tpass_any _ h1 hne).mono ?_
    rintro e w2 ⟨rfl, h2, O2⟩
    have t2 := t1.trans (Trn.of O2)
    have K2 := K1.pass hne
    have hX2 := O2.at hX1 hBr
    have hG2 := hG1
    clear hX1 hG1
    clear t1 O2
    go_wp2_with fail
    refine (place_any ex hF (fun _ => HE _) (by rw [K2.2.2.1.1]; omega) K2.2.2.2 _ h2).mono ?_
    rintro e w3 ⟨g3, rfl, h3, T3⟩
    have t3 := t2.trans T3
    have K3 := place_ok (en := en) hF K2
    have hX3 := T3.at hX2 hBr hG2
    have hG3 := T3.far hX2.lt hG2
    clear hX2 hG2
    clear t2 T3
    have hbx := boxT w3 (.cells #[.int .i64 (placeR W en ex (passR s)).1] 3)
    have hA := h3.grow hbx
    have tA := t3.trans (Trn.of (h3.onl hbx))
    have hXA := At.below' hbx hX3
    have hps := ps1_ok (op := 18) (name := []) (n := 0) (placeR W en ex (passR s)).1 h3.lt h3.held
    have hst := store4 hXA (.int .i64 18) (txV []) (.int .i64 0) (.slice (some ⟨w3.heap.size, 0, none⟩) 1 1)
    obtain ⟨⟨a0, b0⟩, ⟨a1, b1⟩, ⟨a2, b2⟩, ⟨a3, b3⟩, hXS, hOS⟩ := hst
    have fin := SP.fin hlt hA tA hXA (Nat.le_refl _) hG3 hOS hps
    have e0 := hXS.cell 0 rfl
    have e1 := hXS.cell 1 rfl
    have e2 := hXS.cell 2 rfl
    have e3 := hXS.cell 3 rfl
    have FIN := Lib.hid fin
    clear fin hXS hOS hps hXA tA hA hX3 hG3 t3
    go_wp2_with fail
    refine bodyPost_ret (v := (.agg #[.int .i64 18, txV [], .int .i64 0, (.slice (some ⟨w3.heap.size, 0, none⟩) 1 1)])) (by simp [results, Tryz.results84, go_sem, e0, e1, e2, e3]) rfl ?_
    rw [EQ.out]
    exact FIN.out
  · skip
    by_cases h2w : wdR W s = [110, 101, 119]
    · have e : plainStR W en ex s = (⟨19, [], (needNR W en (needWR W en [44] (placeR W en ex (passR s)).2)).1, [(placeR W en ex (passR s)).1]⟩, (needNR W en (needWR W en [44] (placeR W en ex (passR s)).2)).2) := by unfold plainStR; rw [if_neg h1w]; rw [if_pos h2w]
      have EQ := Lib.hid e
      have q0 := wq_no h1w
      have q1 := wq_yes h2w
      have hne : wdR W s ≠ [] := by rw [h2w]; decide
      clear e h1w h2w
      go_wp2_with fail
      refine (tpass_any _ h1 hne).mono ?_
      rintro e w2 ⟨rfl, h2, O2⟩
      have t2 := t1.trans (Trn.of O2)
      have K2 := K1.pass hne
      have hX2 := O2.at hX1 hBr
      have hG2 := hG1
      clear hX1 hG1
      clear t1 O2
      go_wp2_with fail
      refine (place_any ex hF (fun _ => HE _) (by rw [K2.2.2.1.1]; omega) K2.2.2.2 _ h2).mono ?_
      rintro e w3 ⟨g3, rfl, h3, T3⟩
      have t3 := t2.trans T3
      have K3 := place_ok (en := en) hF K2
      have hX3 := T3.at hX2 hBr hG2
      have hG3 := T3.far hX2.lt hG2
      clear hX2 hG2
      clear t2 T3
      go_wp2_with fail
      refine (needW_any ⟨#[44]⟩ (by decide) _ h3).mono ?_
      rintro e w4 ⟨rfl, h4, O4⟩
      have t4 := t3.trans (Trn.of O4)
      have K4 := K3.needW (en := en) (x := [44]) (by decide)
      have hX4 := O4.at hX3 hBr
      have hG4 := hG3
      clear hX3 hG3
      clear t3 O4
      have h4 : RdAt w0 fd W en w4 rb g3 (needWR W en [44] (placeR W en ex (passR s)).2) := h4
      go_wp2_with fail
      refine (needN_any _ h4).mono ?_
      rintro e w5 ⟨rfl, h5, O5⟩
      have t5 := t4.trans (Trn.of O5)
      have K5 := K4.need (en := en) (p := numB) (by decide)
      have hX5 := O5.at hX4 hBr
      have hG5 := hG4
      clear hX4 hG4
      clear t4 O5
      have hbx := boxT w5 (.cells #[.int .i64 (placeR W en ex (passR s)).1] 3)
      have hA := h5.grow hbx
      have tA := t5.trans (Trn.of (h5.onl hbx))
      have hXA := At.below' hbx hX5
      have hps := ps1_ok (op := 19) (name := []) (n := (needNR W en (needWR W en [44] (placeR W en ex (passR s)).2)).1) (placeR W en ex (passR s)).1 h5.lt h5.held
      have hst := store4 hXA (.int .i64 19) (txV []) (.int .i64 (needNR W en (needWR W en [44] (placeR W en ex (passR s)).2)).1) (.slice (some ⟨w5.heap.size, 0, none⟩) 1 1)
      obtain ⟨⟨a0, b0⟩, ⟨a1, b1⟩, ⟨a2, b2⟩, ⟨a3, b3⟩, hXS, hOS⟩ := hst
      have fin := SP.fin hlt hA tA hXA (Nat.le_refl _) hG5 hOS hps
      have e0 := hXS.cell 0 rfl
      have e1 := hXS.cell 1 rfl
      have e2 := hXS.cell 2 rfl
      have e3 := hXS.cell 3 rfl
      have FIN := Lib.hid fin
      clear fin hXS hOS hps hXA tA hA hX5 hG5 t5
      go_wp2_with fail
      refine bodyPost_ret (v := (.agg #[.int .i64 19, txV [], .int .i64 (needNR W en (needWR W en [44] (placeR W en ex (passR s)).2)).1, (.slice (some ⟨w5.heap.size, 0, none⟩) 1 1)])) (by simp [results, Tryz.results84, go_sem, e0, e1, e2, e3]) rfl ?_
      rw [EQ.out]
      exact FIN.out
    · skip
      by_cases h3w : wdR W s = [102, 114, 101, 101]
      · have e : plainStR W en ex s = (⟨20, [], 0, [(ex (passR s)).1]⟩, (ex (passR s)).2) := by unfold plainStR; rw [if_neg h1w]; rw [if_neg h2w]; rw [if_pos h3w]
        have EQ := Lib.hid e
        have q0 := wq_no h1w
        have q1 := wq_no h2w
        have q2 := wq_yes h3w
        have hne : wdR W s ≠ [] := by rw [h3w]; decide
        clear e h1w h2w h3w
        go_wp2_with fail
        refine (tpass_any _ h1 hne).mono ?_
        rintro e w2 ⟨rfl, h2, O2⟩
        have t2 := t1.trans (Trn.of O2)
        have K2 := K1.pass hne
        have hX2 := O2.at hX1 hBr
        have hG2 := hG1
        clear hX1 hG1
        clear t1 O2
        go_wp2_with fail
        refine (HE _ (passR s) g _ (by rw [K2.2.2.1.1]; exact ha) K2.2.2.2 h2).mono ?_
        rintro e w3 ⟨g3, rfl, h3, T3⟩
        have t3 := t2.trans T3
        have K3 := K2.fn hF
        have hX3 := T3.at hX2 hBr hG2
        have hG3 := T3.far hX2.lt hG2
        clear hX2 hG2
        clear t2 T3
        have hbx := boxT w3 (.cells #[.int .i64 (ex (passR s)).1] 3)
        have hA := h3.grow hbx
        have tA := t3.trans (Trn.of (h3.onl hbx))
        have hXA := At.below' hbx hX3
        have hps := ps1_ok (op := 20) (name := []) (n := 0) (ex (passR s)).1 h3.lt h3.held
        have hst := store4 hXA (.int .i64 20) (txV []) (.int .i64 0) (.slice (some ⟨w3.heap.size, 0, none⟩) 1 1)
        obtain ⟨⟨a0, b0⟩, ⟨a1, b1⟩, ⟨a2, b2⟩, ⟨a3, b3⟩, hXS, hOS⟩ := hst
        have fin := SP.fin hlt hA tA hXA (Nat.le_refl _) hG3 hOS hps
        have e0 := hXS.cell 0 rfl
        have e1 := hXS.cell 1 rfl
        have e2 := hXS.cell 2 rfl
        have e3 := hXS.cell 3 rfl
        have FIN := Lib.hid fin
        clear fin hXS hOS hps hXA tA hA hX3 hG3 t3
        go_wp2_with fail
        refine bodyPost_ret (v := (.agg #[.int .i64 20, txV [], .int .i64 0, (.slice (some ⟨w3.heap.size, 0, none⟩) 1 1)])) (by simp [results, Tryz.results84, go_sem, e0, e1, e2, e3]) rfl ?_
        rw [EQ.out]
        exact FIN.out
      · skip
        by_cases h4w : wdR W s = [115, 116, 111, 112]
        · have e : plainStR W en ex s = (⟨23, [], 0, []⟩, passR s) := by unfold plainStR; rw [if_neg h1w]; rw [if_neg h2w]; rw [if_neg h3w]; rw [if_pos h4w]
          have EQ := Lib.hid e
          have q0 := wq_no h1w
          have q1 := wq_no h2w
          have q2 := wq_no h3w
          have q3 := wq_yes h4w
          have hne : wdR W s ≠ [] := by rw [h4w]; decide
          clear e h1w h2w h3w h4w
          go_wp2_with fail
          refine (tpass_any _ h1 hne).mono ?_
          rintro e w2 ⟨rfl, h2, O2⟩
          have t2 := t1.trans (Trn.of O2)
          have K2 := K1.pass hne
          have hX2 := O2.at hX1 hBr
          have hG2 := hG1
          clear hX1 hG1
          clear t1 O2
          have hA := h2
          have tA := t2
          have hXA := hX2
          have hps : PsOK w0.F w2 (rb + 1) ⟨⟨23, [], 0, []⟩, none, 0⟩ := Or.inl ⟨rfl, rfl, rfl⟩
          have hst := store4 hXA (.int .i64 23) (txV []) (.int .i64 0) (.slice none 0 0)
          obtain ⟨⟨a0, b0⟩, ⟨a1, b1⟩, ⟨a2, b2⟩, ⟨a3, b3⟩, hXS, hOS⟩ := hst
          have fin := SP.fin hlt hA tA hXA (Nat.le_refl _) hG2 hOS hps
          have e0 := hXS.cell 0 rfl
          have e1 := hXS.cell 1 rfl
          have e2 := hXS.cell 2 rfl
          have e3 := hXS.cell 3 rfl
          have FIN := Lib.hid fin
          clear fin hXS hOS hps hXA tA hA hX2 hG2 t2
          go_wp2_with fail
          refine bodyPost_ret (v := (.agg #[.int .i64 23, txV [], .int .i64 0, (.slice none 0 0)])) (by simp [results, Tryz.results84, go_sem, e0, e1, e2, e3]) rfl ?_
          rw [EQ.out]
          exact FIN.out
        · have e : plainStR W en ex s = (⟨17, [], 0, [(placeR W en ex s).1, (ex (needWR W en [61] (placeR W en ex s).2)).1]⟩, (ex (needWR W en [61] (placeR W en ex s).2)).2) := by unfold plainStR; rw [if_neg h1w]; rw [if_neg h2w]; rw [if_neg h3w]; rw [if_neg h4w]; skip
          have EQ := Lib.hid e
          have q0 := wq_no h1w
          have q1 := wq_no h2w
          have q2 := wq_no h3w
          have q3 := wq_no h4w
          clear e h1w h2w h3w h4w
          go_wp2_with fail
          refine (place_any ex hF (fun _ => HE _) (by rw [K1.2.2.1.1]; omega) K1.2.2.2 _ h1).mono ?_
          rintro e w2 ⟨g2, rfl, h2, T2⟩
          have t2 := t1.trans T2
          have K2 := place_ok (en := en) hF K1
          have hX2 := T2.at hX1 hBr hG1
          have hG2 := T2.far hX1.lt hG1
          clear hX1 hG1
          clear t1 T2
          go_wp2_with fail
          refine (needW_any ⟨#[61]⟩ (by decide) _ h2).mono ?_
          rintro e w3 ⟨rfl, h3, O3⟩
          have t3 := t2.trans (Trn.of O3)
          have K3 := K2.needW (en := en) (x := [61]) (by decide)
          have hX3 := O3.at hX2 hBr
          have hG3 := hG2
          clear hX2 hG2
          clear t2 O3
          have h3 : RdAt w0 fd W en w3 rb g2 (needWR W en [61] (placeR W en ex s).2) := h3
          go_wp2_with fail
          refine (HE _ (needWR W en [61] (placeR W en ex s).2) g2 _ (by rw [K3.2.2.1.1]; exact ha) K3.2.2.2 h3).mono ?_
          rintro e w4 ⟨g4, rfl, h4, T4⟩
          have t4 := t3.trans T4
          have K4 := K3.fn hF
          have hX4 := T4.at hX3 hBr hG3
          have hG4 := T4.far hX3.lt hG3
          clear hX3 hG3
          clear t3 T4
          have hbx := boxT w4 (.cells #[.int .i64 (placeR W en ex s).1, .int .i64 (ex (needWR W en [61] (placeR W en ex s).2)).1] 3)
          have hA := h4.grow hbx
          have tA := t4.trans (Trn.of (h4.onl hbx))
          have hXA := At.below' hbx hX4
          have hps := ps2_ok (op := 17) (name := []) (n := 0) (placeR W en ex s).1 (ex (needWR W en [61] (placeR W en ex s).2)).1 h4.lt h4.held
          have hst := store4 hXA (.int .i64 17) (txV []) (.int .i64 0) (.slice (some ⟨w4.heap.size, 0, none⟩) 2 2)
          obtain ⟨⟨a0, b0⟩, ⟨a1, b1⟩, ⟨a2, b2⟩, ⟨a3, b3⟩, hXS, hOS⟩ := hst
          have fin := SP.fin hlt hA tA hXA (Nat.le_refl _) hG4 hOS hps
          have e0 := hXS.cell 0 rfl
          have e1 := hXS.cell 1 rfl
          have e2 := hXS.cell 2 rfl
          have e3 := hXS.cell 3 rfl
          have FIN := Lib.hid fin
          clear fin hXS hOS hps hXA tA hA hX4 hG4 t4
          go_wp2_with fail
          refine bodyPost_ret (v := (.agg #[.int .i64 17, txV [], .int .i64 0, (.slice (some ⟨w4.heap.size, 0, none⟩) 2 2)])) (by simp [results, Tryz.results84, go_sem, e0, e1, e2, e3]) rfl ?_
          rw [EQ.out]
          exact FIN.out
end Go.Proofs.YtkhklndmbfbnoaaGreatDoor
