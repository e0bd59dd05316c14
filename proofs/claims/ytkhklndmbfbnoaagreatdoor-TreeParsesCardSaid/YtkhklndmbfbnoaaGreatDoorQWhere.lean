/- The document's parser: a place. -/
import Derived.Test.YtkhklndmbfbnoaaGreatDoorQAdd3
import Derived.Test.YtkhklndmbfbnoaaGreatDoorTGram2
namespace Go.Proofs.YtkhklndmbfbnoaaGreatDoor
open Go.ChangeShapes Go.WideShapes Go.ChangeAt Go.RowKit Go.Joins Go.Deep
set_option linter.unusedVariables false

theorem needR_good {W : List (Tx × Nat)} {en : Nat} {p : Tx → Bool} {s : RS} (h : (needR W en p s).2.bad = none) : s.bad = none := by
  unfold needR at h
  split at h
  · exact h
  · exact absurd h fail_bad
theorem PdAt.anyB {B' : Nat} {w : World} {c : Ctx} {fd : Value} {W : List (Tx × Nat)} {en rb B : Nat} {g : Option Nat} {s : RS} (h : PdAt c fd W en w rb g B s) (hg : s.bad = none) (hm : B' ≤ 1000) : PdAt c fd W en w rb g B' s :=
  h.next h.inv hm (fun h => ⟨h, rfl⟩) h.room (Onl.refl rb w) fun k nv hA hk hkB => ⟨k, hA, hk, by have := hk hg; have := h.inv.1; omega⟩
theorem called_bad {W : List (Tx × Nat)} {en : Nat} {ex : RS → Int × RS} (hexb : ∀ s, Inv W s → s.bad ≠ none → ∃ v, ex s = (v, s)) (op : Int) (name : Tx) {s : RS} (hi : Inv W (needWR W en [40] s)) (hb : (needWR W en [40] s).bad ≠ none) : calledR W en ex op name s = (0, needWR W en [40] s) := by
  obtain ⟨v, hv⟩ := hexb _ hi hb
  unfold calledR
  dsimp only
  rw [hv]
  dsimp only
  rw [show needWR W en [41] (needWR W en [40] s) = needWR W en [40] s from by (conv => lhs; unfold needWR); rw [show (needR W en (fun y => y == [40]) s).2 = needWR W en [40] s from rfl, needR_bad _ (by decide) hi hb], nodeR_bad _ hb]
/-- how much is left, as memory has it -/
def mOf (n rb : Nat) (w : World) : Nat := if intOf ((w.cell? ⟨rb, 6, none⟩).getD undef) = 0 then n + 1 - (intOf ((w.cell? ⟨rb, 2, none⟩).getD undef)).toNat else 0
theorem mOf_at {w : World} {c : Ctx} {fd : Value} {W : List (Tx × Nat)} {en rb B : Nat} {g : Option Nat} {s : RS} (h : PdAt c fd W en w rb g B s) : mOf W.length rb w = if s.bad = none then W.length + 1 - s.k else 0 := by
  obtain ⟨k, nv, hA, hk, _⟩ := h.cells
  have c6 := h.err
  have c2 : w.cell? ⟨rb, 2, none⟩ = some (.int .i64 (k : Nat)) := hA.cell 2 rfl
  unfold mOf
  rw [c6, c2]
  by_cases hb : s.bad = none
  · rw [hb, hk hb]
    simp [intOf]
  · have := bad_err h.inv hb
    rw [beq_eq_false_iff_ne] at this
    rw [if_neg hb, if_neg (by simpa [intOf] using this)]
def RelQ (c : Ctx) (fd : Value) (W : List (Tx × Nat)) (en rb B n : Nat) (ex : RS → Int × RS) (g : Option Nat) (s : RS) (w : World) (v : Value) (wr : World) : Prop := ∃ f a s1 g1 v1, v = .int .i64 v1 ∧ (s1.bad = none → v1 = a) ∧ PdAt c fd W en wr rb g1 B s1 ∧ Trn rb g g1 w wr ∧ Ok W n 0 1 s s1 ∧ placeL W en ex f (a, s1) = placeR W en ex s ∧ W.length + 1 ≤ s1.k + f
def RelPf (c : Ctx) (fd : Value) (W : List (Tx × Nat)) (en rb B : Nat) (g : Option Nat) (r : Int × RS) (w : World) (v : Value) (wx : World) : Prop := ∃ v1 g1, v = .int .i64 v1 ∧ (r.2.bad = none → v1 = r.1) ∧ PdAt c fd W en wx rb g1 B r.2 ∧ Trn rb g g1 w wx
set_option maxHeartbeats 3200000 in
theorem where_first {c : Ctx} {fd : Value} {W : List (Tx × Nat)} {en rb B : Nat} {g : Option Nat} {s : RS} {n Bx : Nat} (hBx : Bx ≤ 900) (ex : RS → Int × RS) (hF : Fng W n ex) (hexb : ∀ s, Inv W s → s.bad ≠ none → ∃ v, ex s = (v, s)) (HQ : ∀ (c : Ctx) s g w, s.bad = none → s.ar ≤ 20 → Dp n s → PdAt c fd W en w rb g Bx s → Calls Tryz.prog 90 #[.pointer (some ⟨rb, 0, none⟩)] w (RQ c fd W en rb g Bx (ex s) w)) (hg : s.bad = none) (hd : Dp n s) (w : World) (h : PdAt c fd W en w rb g Bx s) : Calls Tryz.prog 89 #[.pointer (some ⟨rb, 0, none⟩)] w (RQ c fd W en rb g (Bx + 4) (placeR W en ex s) w) := by
  have hBx' : Bx ≤ 1000 := by omega
  have h0 := h
  have t0 := Trn.refl rb g w
  have K0 := Ok.refl h.inv hd
  clear h
  go_enter Tryz.func89, Tryz.ntmps89
  go_wp2_with fail
  refine (rsee_any _ h0).mono ?_
  rintro e w1 ⟨l, rfl, hl, _, _, hbw⟩
  obtain rfl := hl hg
  have h1 := h0.grow hbw
  have t1 := t0.trans (Trn.of (h0.onl hbw))
  have K1 := K0
  clear t0 hbw hl
  go_upto_if 12 with (fail)
  go_cut [3] from 4 to 54 (fun v wx => RelPf c fd W en rb (Bx + 2) g (plainPlaceR W en ex s) w v wx)
  case first =>
    by_cases hw : wdR W s = [42]
    · have qw := wq_yes hw
      rw [qw]
      have hne : wdR W s ≠ [] := by rw [hw]; decide
      have EQ := Lib.hid (show plainPlaceR W en ex s = calledR W en ex 11 (needR W en knB (passR s)).1 (needR W en knB (passR s)).2 from by unfold plainPlaceR; exact if_pos hw)
      clear hw
      obtain ⟨k, nv, hA, hk, _⟩ := h1.cells
      obtain rfl := hk hg
      have hWl : W.length ≤ 1000000 := by obtain ⟨_, _, _, hl, _⟩ := h1.toks; exact hl
      have hlt := wdR_lt hne
      have hk1 : s.k ≤ 1000000 := by omega
      have c2 : w1.cell? ⟨rb, 2, none⟩ = some (.int .i64 (s.k : Nat)) := hA.cell 2 rfl
      have f2 := At.free hA 2
      have h2 := h1.bumpG hg hlt
      have t2 := t1.trans (Trn.of ((Onl.refl rb w1).set 2 (.int .i64 ((s.k : Int) + 1))))
      have K2 := K1.pass hne
      have HX := Lib.hid (And.intro h2 t2)
      generalize hKK : s.k = kk at c2 hk1 HX
      clear hA hk hWl hlt h2 t2 t1 hKK
      go_wp2_with fail
      obtain ⟨h2, t2⟩ := HX.out
      clear HX c2 f2 hk1
      refine (rtakesKind_any (B := Bx) (by omega) _ h2).mono ?_
      rintro e w3 ⟨v3, rfl, hv3, h3, O3⟩
      have t3 := t2.trans (Trn.of O3)
      have K3 := K2.need (en := en) (p := knB) (by decide)
      clear t2 O3
      go_wp2_with fail
      refine (rtakes_any ⟨#[40]⟩ (by decide) _ h3).mono ?_
      rintro e w4 ⟨rfl, h4, O4⟩
      have t4 := t3.trans (Trn.of O4)
      have K4 := K3.needW (en := en) (x := [40]) (by decide)
      clear t3 O4
      have h4 : PdAt c fd W en w4 rb g (Bx + 1) (needWR W en [40] (needR W en knB (passR s)).2) := h4
      have EQ2 := Lib.hid (fun hb => EQ.out.trans (called_bad (W := W) (en := en) hexb 11 (needR W en knB (passR s)).1 h4.inv hb))
      by_cases hb : (needWR W en [40] (needR W en knB (passR s)).2).bad = none
      · have c6 : w4.cell? ⟨rb, 6, none⟩ = some (.int .i64 0) := by have := h4.err; rw [hb] at this; exact this
        have hQ := HQ c (needWR W en [40] (needR W en knB (passR s)).2) g w4 hb (K4.2.2.2 hb).2 K4.2.2.2 (h4.anyB hb (by omega))
        go_wp2_with fail
        refine hQ.mono ?_
        clear hQ c6
        rintro e w5 ⟨g5, v5, rfl, hv5, h5, T5⟩
        have t5 := t4.trans T5
        have K5 := K4.fn hF
        clear t4 T5
        go_wp2_with fail
        refine (rtakes_any ⟨#[41]⟩ (by decide) _ h5).mono ?_
        rintro e w6 ⟨rfl, h6, O6⟩
        have t6 := t5.trans (Trn.of O6)
        have K6 := K5.needW (en := en) (x := [41]) (by decide)
        clear t5 O6
        have h6 : PdAt c fd W en w6 rb g5 Bx (needWR W en [41] (ex (needWR W en [40] (needR W en knB (passR s)).2)).2) := h6
        by_cases hb2 : (needWR W en [41] (ex (needWR W en [40] (needR W en knB (passR s)).2)).2).bad = none
        · have c6 : w6.cell? ⟨rb, 6, none⟩ = some (.int .i64 0) := by have := h6.err; rw [hb2] at this; exact this
          have hy0 := needR_good (p := fun y => y == [41]) hb2
          have hn0 := needR_good (p := fun y => y == [40]) hb
          obtain rfl := hv3 hn0
          obtain rfl := hv5 hy0
          have hb := boxT w6 (.cells #[.int .i64 (ex (needWR W en [40] (needR W en knB (passR s)).2)).1] 3)
          have hA := h6.grow hb
          have tA := t6.trans (Trn.of (h6.onl hb))
          have hps := ps1_ok (op := 11) (name := (needR W en knB (passR s)).1) (n := 0) (ex (needWR W en [40] (needR W en knB (passR s)).2)).1 h6.lt h6.held
          clear hb
          go_wp2_with fail
          refine (radd_any ⟨⟨11, (needR W en knB (passR s)).1, 0, [(ex (needWR W en [40] (needR W en knB (passR s)).2)).1]⟩, some ⟨w6.heap.size, 0, none⟩, 1⟩ _ hA hps hb2 (K6.room hb2)).mono ?_
          rintro e w7 ⟨g7, v7, rfl, hv7, h7, T7⟩
          have t7 := tA.trans T7
          clear tA T7 hA hps t6 c6
          go_wp2_with fail
          go_meet
          exact ⟨v7, g7, rfl, fun h => hv7 (by rw [EQ.out] at h; exact h) |>.trans (by rw [EQ.out]; rfl), by rw [EQ.out]; exact h7.more (by omega) (by omega), t7⟩
        · have c6 := h6.err
          have q6 := bad_err h6.inv hb2
          generalize ((needWR W en [41] (ex (needWR W en [40] (needR W en knB (passR s)).2)).2).bad.getD (0, 0)).2 = er at c6 q6
          have e9 := EQ.out.trans (show calledR W en ex 11 (needR W en knB (passR s)).1 (needR W en knB (passR s)).2 = (0, (needWR W en [41] (ex (needWR W en [40] (needR W en knB (passR s)).2)).2)) from nodeR_bad _ hb2)
          go_wp2_with fail
          go_meet
          exact ⟨0, g5, rfl, fun h => absurd (by rw [e9] at h; exact h) hb2, by rw [e9]; exact h6.more (by omega) (by omega), t6⟩
      · have e9 := EQ2.out hb
        have c6 := h4.err
        have q6 := bad_err h4.inv hb
        generalize ((needWR W en [40] (needR W en knB (passR s)).2).bad.getD (0, 0)).2 = er at c6 q6
        have hbn : (needR W en (fun y => y == [41]) (needWR W en [40] (needR W en knB (passR s)).2)).2 = (needWR W en [40] (needR W en knB (passR s)).2) := by rw [needR_bad _ (by decide) h4.inv hb]
        go_wp2_with fail
        refine (rtakes_any ⟨#[41]⟩ (by decide) _ h4).mono ?_
        rintro e w5 ⟨rfl, h5, O5⟩
        have t5 := t4.trans (Trn.of O5)
        have K5 := K4.needW (en := en) (x := [41]) (by decide)
        clear t4 O5
        have h5 : PdAt c fd W en w5 rb g (Bx + 1) (needWR W en [41] (needWR W en [40] (needR W en knB (passR s)).2)) := h5
        have h5 : PdAt c fd W en w5 rb g (Bx + 1) (needWR W en [40] (needR W en knB (passR s)).2) := by have h := h5; unfold needWR at h; rw [show (needR W en (fun y => y == [40]) (needR W en knB (passR s)).2).2 = (needWR W en [40] (needR W en knB (passR s)).2) from rfl, hbn] at h; exact h
        clear c6 q6
        have c6 := h5.err
        have q6 := bad_err h5.inv hb
        generalize ((needWR W en [40] (needR W en knB (passR s)).2).bad.getD (0, 0)).2 = er at c6 q6
        go_wp2_with fail
        go_meet
        exact ⟨0, g, rfl, fun h => absurd (by rw [e9] at h; exact h) hb, by rw [e9]; exact h5.more (by omega) (by omega), t5⟩
    · have qw := wq_no hw
      rw [qw]
      have EQ := Lib.hid (show plainPlaceR W en ex s = nodeR W ⟨8, (needR W en nameB s).1, 0, []⟩ (needR W en nameB s).2 from by unfold plainPlaceR; exact if_neg hw)
      clear hw
      go_wp2_with fail
      refine (rtakesName_any (B := Bx) (by omega) _ h1).mono ?_
      rintro e w2 ⟨v2, rfl, hv2, h2, O2⟩
      have t2 := t1.trans (Trn.of O2)
      have K2 := K1.need (en := en) (p := nameB) (by decide)
      clear t1 O2
      by_cases hb : (needR W en nameB s).2.bad = none
      · have c6 : w2.cell? ⟨rb, 6, none⟩ = some (.int .i64 0) := by have := h2.err; rw [hb] at this; exact this
        obtain rfl := hv2 hb
        have hA := h2
        have tA := t2
        have hps : PsOK c.F w2 (rb + 1) ⟨⟨8, (needR W en nameB s).1, 0, []⟩, none, 0⟩ := Or.inl ⟨rfl, rfl, rfl⟩
        go_wp2_with fail
        refine (radd_any ⟨⟨8, (needR W en nameB s).1, 0, []⟩, none, 0⟩ _ hA hps hb (K2.room hb)).mono ?_
        rintro e w3 ⟨g3, v3, rfl, hv3, h3, T3⟩
        have t3 := tA.trans T3
        clear tA T3 hA hps t2 c6
        go_wp2_with fail
        go_meet
        exact ⟨v3, g3, rfl, fun h => hv3 (by rw [EQ.out] at h; exact h) |>.trans (by rw [EQ.out]), by rw [EQ.out]; exact h3.more (by omega) (by omega), t3⟩
      · have c6 := h2.err
        have q6 := bad_err h2.inv hb
        generalize ((needR W en nameB s).2.bad.getD (0, 0)).2 = er at c6 q6
        have e9 := EQ.out.trans (nodeR_bad _ hb)
        go_wp2_with fail
        go_meet
        exact ⟨0, g, rfl, fun h => absurd (by rw [e9] at h; exact h) hb, by rw [e9]; exact h2.more (by omega) (by omega), t2⟩
  case rest =>
    obtain ⟨v1, g1, rfl, hv1, h1, t1⟩ := hcut
    have KP := plainPlace_ok (en := en) hF K0
    go_wp2_with fail
    go_loopw [3] (fun v wr => RelQ c fd W en rb (Bx + 4) n ex g s w v wr) (fun _ wr => mOf W.length rb wr)
    case atStart => exact ⟨W.length + 1, (plainPlaceR W en ex s).1, (plainPlaceR W en ex s).2, g1, v1, rfl, hv1, h1.more (by omega) (by omega), t1, KP, rfl, by omega⟩
    case round =>
      clear h1 t1 KP hv1 g1 v1
      obtain ⟨f, a, s1, g1, v1, rfl, hv1, h0, t1, KR, hpl, hf⟩ := hrel
      have HMO := Lib.hid (mOf_at h0)
      have HPL := Lib.hid hpl
      have HF := Lib.hid hf
      have TR := Lib.hid t1
      clear hpl hf t1 K0
      have K0 := Ok.refl h0.inv KR.2.2.2
      have t0 := Trn.refl rb g1 wr
      by_cases hb : s1.bad = none
      · replace h0 := h0.anyB (B' := Bx) hb (by omega)
        have c6 : wr.cell? ⟨rb, 6, none⟩ = some (.int .i64 0) := by have := h0.err; rw [hb] at this; exact this
        obtain rfl := hv1 hb
        go_wp2_with fail
        refine (rsee_any _ h0).mono ?_
        rintro e w1 ⟨l, rfl, hl, _, _, hbw⟩
        obtain rfl := hl hb
        have h1 := h0.grow hbw
        have t1 := t0.trans (Trn.of (h0.onl hbw))
        have K1 := K0
        clear t0 hbw hl
        clear c6
        by_cases hw : wdR W s1 = [46]
        · have qw := wq_yes hw
          have hne : wdR W s1 ≠ [] := by rw [hw]; decide
          have HLT := Lib.hid (wdR_lt hne)
          have HGB := Lib.hid hb
          obtain ⟨f, rfl⟩ : ∃ f0, f = f0 + 1 := ⟨f - 1, by have := HF.out; have := wdR_lt hne; omega⟩
          have HW := Lib.hid hw
          clear hw
          go_wp2_with fail
          refine (rsee_any _ h1).mono ?_
          rintro e w2 ⟨l, rfl, hl, _, _, hbw⟩
          obtain rfl := hl hb
          have h2 := h1.grow hbw
          have t2 := t1.trans (Trn.of (h1.onl hbw))
          have K2 := K1
          clear t1 hbw hl
          obtain ⟨k, nv, hA, hk, _⟩ := h2.cells
          obtain rfl := hk hb
          have hWl : W.length ≤ 1000000 := by obtain ⟨_, _, _, hl, _⟩ := h2.toks; exact hl
          have hlt := wdR_lt hne
          have hk1 : s1.k ≤ 1000000 := by omega
          have c2 : w2.cell? ⟨rb, 2, none⟩ = some (.int .i64 (s1.k : Nat)) := hA.cell 2 rfl
          have f2 := At.free hA 2
          have h3 := h2.bumpG hb hlt
          have t3 := t2.trans (Trn.of ((Onl.refl rb w2).set 2 (.int .i64 ((s1.k : Int) + 1))))
          have K3 := K2.pass hne
          have HX := Lib.hid (And.intro h3 t3)
          generalize hKK : s1.k = kk at c2 hk1 HX
          clear hA hk hWl hlt h3 t3 t2 hKK
          go_wp2_with fail
          obtain ⟨h3, t3⟩ := HX.out
          clear HX c2 f2 hk1
          refine (rtakesName_any (B := Bx) (by omega) _ h3).mono ?_
          rintro e w4 ⟨v4, rfl, hv4, h4, O4⟩
          have t4 := t3.trans (Trn.of O4)
          have K4 := K3.need (en := en) (p := nameB) (by decide)
          clear t3 O4
          by_cases hb3 : (needR W en nameB (passR s1)).2.bad = none
          · have c6 : w4.cell? ⟨rb, 6, none⟩ = some (.int .i64 0) := by have := h4.err; rw [hb3] at this; exact this
            obtain rfl := hv4 hb3
            have hb := boxT w4 (.cells #[.int .i64 v1] 3)
            have hA := h4.grow hb
            have tA := t4.trans (Trn.of (h4.onl hb))
            have hps := ps1_ok (op := 9) (name := (needR W en nameB (passR s1)).1) (n := 0) v1 h4.lt h4.held
            clear hb
            go_wp2_with fail
            refine (radd_any ⟨⟨9, (needR W en nameB (passR s1)).1, 0, [v1]⟩, some ⟨w4.heap.size, 0, none⟩, 1⟩ _ hA hps hb3 (K4.room hb3)).mono ?_
            rintro e w5 ⟨g5, v5, rfl, hv5, h5, T5⟩
            have t5 := tA.trans T5
            clear tA T5 hA hps t4 c6
            have hpl2 := HPL.out
            rw [placeL_dot HW.out] at hpl2
            have HP2 := Lib.hid hpl2
            clear hpl2
            have KN := (K4.node ⟨9, (needR W en nameB (passR s1)).1, 0, [v1]⟩).less (c' := 0) (d' := 0 + 1) (by omega) (by omega)
            have HKN := Lib.hid KN
            clear KN
            go_wp2_with fail
            go_roundw
            case rel => (have KX := KR.call HKN.out; have hmo := HKN.out.more HLT.out; have := HF.out; exact ⟨f, (nodeR W ⟨9, (needR W en nameB (passR s1)).1, 0, [v1]⟩ (needR W en nameB (passR s1)).2).1, (nodeR W ⟨9, (needR W en nameB (passR s1)).1, 0, [v1]⟩ (needR W en nameB (passR s1)).2).2, g5, _, rfl, hv5, h5.more (by omega) (by omega), TR.out.trans t5, KX.less (by omega) (by omega), HP2.out, by omega⟩)
            case measure => (have h9 := HMO.out; rw [if_pos HGB.out] at h9; have hmo := HKN.out.more HLT.out; have := HLT.out; have := h5.inv.1; rw [h9, mOf_at h5]; split <;> omega)
          · have c6 := h4.err
            have q6 := bad_err h4.inv hb3
            generalize ((needR W en nameB (passR s1)).2.bad.getD (0, 0)).2 = er at c6 q6
            have hpl2 := HPL.out
            rw [placeL_dot HW.out, show (nodeR W ⟨9, (needR W en nameB (passR s1)).1, 0, [v1]⟩ (needR W en nameB (passR s1)).2) = (0, (needR W en nameB (passR s1)).2) from nodeR_bad _ hb3] at hpl2
            have HP2 := Lib.hid hpl2
            clear hpl2
            go_wp2_with fail
            go_roundw
            case rel => (have KX := KR.call K4; have := h4.inv.2.2.1 hb3; exact ⟨W.length + 1, 0, (needR W en nameB (passR s1)).2, g1, _, rfl, fun h => absurd h hb3, h4.more (by omega) (by omega), TR.out.trans t4, KX.less (by omega) (by omega), by rw [← HP2.out, placeL_end (by rw [wdR_end (by omega)]; decide) (by rw [wdR_end (by omega)]; decide), placeL_end (by rw [wdR_end (by omega)]; decide) (by rw [wdR_end (by omega)]; decide)], by omega⟩)
            case measure => (have h9 := HMO.out; rw [if_pos HGB.out] at h9; rw [h9, mOf_at h4, if_neg hb3]; have := HLT.out; omega)
        · by_cases hw2 : wdR W s1 = [91]
          · have qw := wq_no hw
            have qw2 := wq_yes hw2
            have hne : wdR W s1 ≠ [] := by rw [hw2]; decide
            have HLT := Lib.hid (wdR_lt hne)
            have HGB := Lib.hid hb
            obtain ⟨f, rfl⟩ : ∃ f0, f = f0 + 1 := ⟨f - 1, by have := HF.out; have := wdR_lt hne; omega⟩
            have HW := Lib.hid hw2
            clear hw hw2
            go_wp2_with fail
            refine (rsee_any _ h1).mono ?_
            rintro e w2 ⟨l, rfl, hl, _, _, hbw⟩
            obtain rfl := hl hb
            have h2 := h1.grow hbw
            have t2 := t1.trans (Trn.of (h1.onl hbw))
            have K2 := K1
            clear t1 hbw hl
            go_wp2_with fail
            refine (rsee_any _ h2).mono ?_
            rintro e w3 ⟨l, rfl, hl, _, _, hbw⟩
            obtain rfl := hl hb
            have h3 := h2.grow hbw
            have t3 := t2.trans (Trn.of (h2.onl hbw))
            have K3 := K2
            clear t2 hbw hl
            obtain ⟨k, nv, hA, hk, _⟩ := h3.cells
            obtain rfl := hk hb
            have hWl : W.length ≤ 1000000 := by obtain ⟨_, _, _, hl, _⟩ := h3.toks; exact hl
            have hlt := wdR_lt hne
            have hk1 : s1.k ≤ 1000000 := by omega
            have c2 : w3.cell? ⟨rb, 2, none⟩ = some (.int .i64 (s1.k : Nat)) := hA.cell 2 rfl
            have f2 := At.free hA 2
            have h4 := h3.bumpG hb hlt
            have t4 := t3.trans (Trn.of ((Onl.refl rb w3).set 2 (.int .i64 ((s1.k : Int) + 1))))
            have K4 := K3.pass hne
            have HX := Lib.hid (And.intro h4 t4)
            generalize hKK : s1.k = kk at c2 hk1 HX
            clear hA hk hWl hlt h4 t4 t3 hKK
            go_wp2_with fail
            obtain ⟨h4, t4⟩ := HX.out
            clear HX c2 f2 hk1
            have c6 : True := trivial
            have hbp : (passR s1).bad = none := hb
            refine (HQ c (passR s1) g1 _ hbp (K4.2.2.2 hbp).2 K4.2.2.2 (h4.anyB hbp (by omega))).mono ?_
            rintro e w5 ⟨g5, v5, rfl, hv5, h5, T5⟩
            have t5 := t4.trans T5
            have K5 := K4.fn hF
            clear t4 T5
            go_wp2_with fail
            refine (rtakes_any ⟨#[93]⟩ (by decide) _ h5).mono ?_
            rintro e w6 ⟨rfl, h6, O6⟩
            have t6 := t5.trans (Trn.of O6)
            have K6 := K5.needW (en := en) (x := [93]) (by decide)
            clear t5 O6
            have h6 : PdAt c fd W en w6 rb g5 Bx (needWR W en [93] (ex (passR s1)).2) := h6
            by_cases hb3 : (needWR W en [93] (ex (passR s1)).2).bad = none
            · have c6 : w6.cell? ⟨rb, 6, none⟩ = some (.int .i64 0) := by have := h6.err; rw [hb3] at this; exact this
              have hy0 := needR_good (p := fun y => y == [93]) hb3
              obtain rfl := hv5 hy0
              have hb := boxT w6 (.cells #[.int .i64 v1, .int .i64 (ex (passR s1)).1] 3)
              have hA := h6.grow hb
              have tA := t6.trans (Trn.of (h6.onl hb))
              have hps := ps2_ok (op := 10) (name := []) (n := 0) v1 (ex (passR s1)).1 h6.lt h6.held
              clear hb
              go_wp2_with fail
              refine (radd_any ⟨⟨10, [], 0, [v1, (ex (passR s1)).1]⟩, some ⟨w6.heap.size, 0, none⟩, 2⟩ _ hA hps hb3 (K6.room hb3)).mono ?_
              rintro e w7 ⟨g7, v7, rfl, hv7, h7, T7⟩
              have t7 := tA.trans T7
              clear tA T7 hA hps t6 c6
              have hpl2 := HPL.out
              rw [placeL_at HW.out] at hpl2
              have HP2 := Lib.hid hpl2
              clear hpl2
              have KN := (K6.node ⟨10, [], 0, [v1, (ex (passR s1)).1]⟩).less (c' := 0) (d' := 0 + 1) (by omega) (by omega)
              have HKN := Lib.hid KN
              clear KN
              go_wp2_with fail
              go_roundw
              case rel => (have KX := KR.call HKN.out; have hmo := HKN.out.more HLT.out; have := HF.out; exact ⟨f, (nodeR W ⟨10, [], 0, [v1, (ex (passR s1)).1]⟩ (needWR W en [93] (ex (passR s1)).2)).1, (nodeR W ⟨10, [], 0, [v1, (ex (passR s1)).1]⟩ (needWR W en [93] (ex (passR s1)).2)).2, g7, _, rfl, hv7, h7.more (by omega) (by omega), TR.out.trans t7, KX.less (by omega) (by omega), HP2.out, by omega⟩)
              case measure => (have h9 := HMO.out; rw [if_pos HGB.out] at h9; have hmo := HKN.out.more HLT.out; have := HLT.out; have := h7.inv.1; rw [h9, mOf_at h7]; split <;> omega)
            · have c6 := h6.err
              have q6 := bad_err h6.inv hb3
              generalize ((needWR W en [93] (ex (passR s1)).2).bad.getD (0, 0)).2 = er at c6 q6
              have hpl2 := HPL.out
              rw [placeL_at HW.out, show (nodeR W ⟨10, [], 0, [v1, (ex (passR s1)).1]⟩ (needWR W en [93] (ex (passR s1)).2)) = (0, (needWR W en [93] (ex (passR s1)).2)) from nodeR_bad _ hb3] at hpl2
              have HP2 := Lib.hid hpl2
              clear hpl2
              go_wp2_with fail
              go_roundw
              case rel => (have KX := KR.call K6; have := h6.inv.2.2.1 hb3; exact ⟨W.length + 1, 0, (needWR W en [93] (ex (passR s1)).2), g5, _, rfl, fun h => absurd h hb3, h6.more (by omega) (by omega), TR.out.trans t6, KX.less (by omega) (by omega), by rw [← HP2.out, placeL_end (by rw [wdR_end (by omega)]; decide) (by rw [wdR_end (by omega)]; decide), placeL_end (by rw [wdR_end (by omega)]; decide) (by rw [wdR_end (by omega)]; decide)], by omega⟩)
              case measure => (have h9 := HMO.out; rw [if_pos HGB.out] at h9; rw [h9, mOf_at h6, if_neg hb3]; have := HLT.out; omega)
          · have qw := wq_no hw
            have qw2 := wq_no hw2
            have hpl2 := HPL.out
            rw [placeL_end hw hw2] at hpl2
            have HP2 := Lib.hid hpl2
            clear hw hw2 hpl2
            go_wp2_with fail
            refine (rsee_any _ h1).mono ?_
            rintro e w2 ⟨l, rfl, hl, _, _, hbw⟩
            obtain rfl := hl hb
            have h2 := h1.grow hbw
            have t2 := t1.trans (Trn.of (h1.onl hbw))
            have K2 := K1
            clear t1 hbw hl
            go_wp2_with fail
            go_ret
            rw [← HP2.out]
            exact ⟨g1, v1, rfl, fun _ => rfl, h2.more (by omega) (by omega), TR.out.trans t2⟩
      · have c6 := h0.err
        have q6 := bad_err h0.inv hb
        generalize (s1.bad.getD (0, 0)).2 = er at c6 q6
        have hkb := h0.inv.2.2.1 hb
        have hpl2 := HPL.out
        rw [placeL_end (by rw [wdR_end (by omega)]; decide) (by rw [wdR_end (by omega)]; decide)] at hpl2
        have HP2 := Lib.hid hpl2
        clear hpl2
        go_wp2_with fail
        go_ret
        rw [← HP2.out]
        exact ⟨g1, v1, rfl, fun h => absurd h hb, h0, TR.out.trans t0⟩
end Go.Proofs.YtkhklndmbfbnoaaGreatDoor
