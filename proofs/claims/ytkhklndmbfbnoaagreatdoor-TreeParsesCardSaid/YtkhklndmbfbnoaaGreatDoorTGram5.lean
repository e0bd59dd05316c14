/- Package tree: types. -/
import Derived.Test.YtkhklndmbfbnoaaGreatDoorTGram3
namespace Go.Proofs.YtkhklndmbfbnoaaGreatDoor
open Go.ChangeShapes Go.WideShapes Go.ChangeAt Go.RowKit Go.Joins Go.Deep
set_option linter.unusedVariables false

set_option maxHeartbeats 1600000 in
theorem plainType_any {w0 : Ctx} {fd : Value} {W : List (Tx × Nat)} {en rb : Nat} {g : Option Nat} {s : RS} {n : Nat} (ty : RS → Int × RS) (hF : Fng W n ty) (HG : s.bad = none → ∀ (c : Ctx) s g w, s.ar ≤ 21 → Dp n s → RdAt c fd W en w rb g s → Calls Tryz.prog 111 #[.pointer (some ⟨rb, 0, none⟩)] w (RP c fd W en rb g (ty s) w)) (ha : s.ar ≤ 30) (hd : Dp n s) (w : World) (h : RdAt w0 fd W en w rb g s) : Calls Tryz.prog 142 #[.pointer (some ⟨rb, 0, none⟩)] w (RP w0 fd W en rb g (plainTypeR W en ty s) w) := by
  go_enter Tryz.func142, Tryz.ntmps142
  have K0 := Ok.refl h.inv hd
  have t0 := Trn.refl rb g w
  have h0 := h
  clear h
  go_wp2_with fail
  refine (word_any _ h0).mono ?_
  rintro e w1 ⟨rfl, h1, O1⟩
  have t1 := t0.trans (Trn.of O1)
  have K1 := K0
  clear t0 O1
  by_cases hw : wdR W s = [115, 116, 114, 117, 99, 116]
  · have e : plainTypeR W en ty s = fieldsR W en ty 5 (passR s) := by unfold plainTypeR; exact if_pos hw
    have EQ := Lib.hid e
    have hgd := wdR_good h1.inv (by rw [hw]; decide)
    have ha : s.ar ≤ 21 := by have := (hd hgd).2; omega
    have HT := HG hgd
    clear hgd
    have qhw := wq_yes hw
    have hne : wdR W s ≠ [] := by rw [hw]; decide
    clear HG e hw 
    go_wp2_with fail
    refine (tpass_any _ h1 hne).mono ?_
    rintro e w2 ⟨rfl, h2, O2⟩
    have t2 := t1.trans (Trn.of O2)
    have K2 := K1.pass hne
    clear t1 O2
    go_wp2_with fail
    refine (fields_any ty hF HT 5 (by rw [K2.2.2.1.1]; exact ha) K2.2.2.2 _ h2).mono ?_
    rintro e w3 ⟨g3, rfl, h3, T3⟩
    have t3 := t2.trans T3
    have K3 := fields_ok (en := en) hF 5 K2
    clear t2 T3
    go_wp2_with fail
    go_ret
    rw [EQ.out]
    exact ⟨g3, rfl, h3, t3⟩
  · by_cases hw2 : wdR W s = [117, 110, 105, 111, 110]
    · have e : plainTypeR W en ty s = fieldsR W en ty 6 (passR s) := by unfold plainTypeR; rw [if_neg hw]; exact if_pos hw2
      have EQ := Lib.hid e
      have hgd := wdR_good h1.inv (by rw [hw2]; decide)
      have ha : s.ar ≤ 21 := by have := (hd hgd).2; omega
      have HT := HG hgd
      clear hgd
      have qhw := wq_no hw
      have qhw2 := wq_yes hw2
      have hne : wdR W s ≠ [] := by rw [hw2]; decide
      clear HG e hw2 hw
      go_wp2_with fail
      refine (tpass_any _ h1 hne).mono ?_
      rintro e w2 ⟨rfl, h2, O2⟩
      have t2 := t1.trans (Trn.of O2)
      have K2 := K1.pass hne
      clear t1 O2
      go_wp2_with fail
      refine (fields_any ty hF HT 6 (by rw [K2.2.2.1.1]; exact ha) K2.2.2.2 _ h2).mono ?_
      rintro e w3 ⟨g3, rfl, h3, T3⟩
      have t3 := t2.trans T3
      have K3 := fields_ok (en := en) hF 6 K2
      clear t2 T3
      go_wp2_with fail
      go_ret
      rw [EQ.out]
      exact ⟨g3, rfl, h3, t3⟩
    · have e : plainTypeR W en ty s = nodeR W ⟨3, (needR W en knB s).1, 0, []⟩ (needR W en knB s).2 := by unfold plainTypeR; rw [if_neg hw, if_neg hw2]
      have EQ := Lib.hid e
      have q1 := wq_no hw
      have q2 := wq_no hw2
      clear HG e hw hw2
      go_wp2_with fail
      refine (needKind _ h1).mono ?_
      rintro e w2 ⟨rfl, h2, O2⟩
      have t2 := t1.trans (Trn.of O2)
      have K2 := K1.need (en := en) (p := knB) (by decide)
      clear t1 O2
      have hA := h2
      have hps : PsOK w0.F w2 (rb + 1) ⟨⟨3, (needR W en knB s).1, 0, []⟩, none, 0⟩ := Or.inl ⟨rfl, rfl, rfl⟩
      go_wp2_with fail
      refine (node_any ⟨⟨3, (needR W en knB s).1, 0, []⟩, none, 0⟩ _ hA hps K2.room).mono ?_
      rintro e w3 ⟨g3, rfl, h3, T3⟩
      have t3 := t2.trans T3
      clear t2 T3 hA hps
      go_wp2_with fail
      go_ret
      rw [EQ.out]
      exact ⟨g3, rfl, h3, t3⟩
def RelTy (w0 : Ctx) (fd : Value) (W : List (Tx × Nat)) (en rb n : Nat) (ty : RS → Int × RS) (g : Option Nat) (s : RS) (w : World) (v : Value) (wr : World) : Prop := ∃ f a s1 g1, v = .int .i64 a ∧ RdAt w0 fd W en wr rb g1 s1 ∧ Trn rb g g1 w wr ∧ Ok W n 0 1 s s1 ∧ typeL W en f (a, s1) = typeI W en ty s ∧ W.length + 1 ≤ s1.k + f
set_option maxHeartbeats 3200000 in
theorem fullType_step {w0 : Ctx} {fd : Value} {W : List (Tx × Nat)} {en rb : Nat} {g : Option Nat} {s : RS} {n : Nat} (ty : RS → Int × RS) (hF : Fng W n ty) (HG : (enterR W en s).bad = none → ∀ (c : Ctx) s g w, s.ar ≤ 21 → Dp n s → RdAt c fd W en w rb g s → Calls Tryz.prog 111 #[.pointer (some ⟨rb, 0, none⟩)] w (RP c fd W en rb g (ty s) w)) (ha : s.ar ≤ 21) (hd : Dp n (enterR W en s)) (w : World) (h : RdAt w0 fd W en w rb g s) : Calls Tryz.prog 111 #[.pointer (some ⟨rb, 0, none⟩)] w (RP w0 fd W en rb g (typeB W en ty s) w) := by
  have hB : typeB W en ty s = ((typeI W en ty (enterR W en s)).1, leaveR (typeI W en ty (enterR W en s)).2) := rfl
  have hn1 : 1 ≤ (enterR W en s).ar ∧ (enterR W en s).ar ≤ 30 := by unfold enterR; split <;> (show 1 ≤ s.ar + 1 ∧ s.ar + 1 ≤ 30; omega)
  rw [hB]
  clear hB
  go_enter_defers Tryz.func111, Tryz.ntmps111
  go_wp2_with fail
  refine (enter_any (by omega) _ h).mono ?_
  rintro e wa ⟨rfl, ha0, OA⟩
  have TA := Lib.hid (Trn.of (g := g) OA)
  clear h OA ha
  generalize enterR W en s = sa at *
  obtain ⟨hn1, hn2⟩ := hn1
  have K0 := Ok.refl ha0.inv hd
  have t0 := Trn.refl rb g wa
  have h0 := ha0
  clear ha0
  go_wp2_with fail
  go_wp2_with fail
  refine (plainType_any ty hF HG (by rw [K0.2.2.1.1]; exact hn2) K0.2.2.2 _ h0).mono ?_
  rintro e w1 ⟨g1, rfl, h1, T1⟩
  have t1 := t0.trans T1
  have K1 := plainType_ok (en := en) hF K0
  clear t0 T1
  go_wp2_with fail
  go_loopw [3] (fun v wr => RelTy w0 fd W en rb n ty g sa wa v wr) (fun _ wr => W.length + 1 - kOf rb wr)
  case atStart => exact ⟨W.length + 1, (plainTypeR W en ty sa).1, (plainTypeR W en ty sa).2, g1, rfl, h1, t1, K1, rfl, by omega⟩
  case round =>
    clear h1 t1 K1 K0 g1
    obtain ⟨f, a, s1, g1, rfl, h1, t1, KR, hpl, hf⟩ := hrel
    have HKO := Lib.hid (kOf_at h1)
    have ha1 : s1.ar ≤ 30 := by rw [KR.2.2.1.1]; exact hn2
    have HPL := Lib.hid hpl
    have HF := Lib.hid hf
    have TR := Lib.hid t1
    clear hpl hf t1
    have K0 := Ok.refl h1.inv KR.2.2.2
    have t0 := Trn.refl rb g1 wr
    have h0 := h1
    clear h1
    go_wp2_with fail
    refine (word_any _ h0).mono ?_
    rintro e w1 ⟨rfl, h1, O1⟩
    have t1 := t0.trans (Trn.of O1)
    have K1 := K0
    clear t0 O1
    by_cases hw : wdR W s1 = [91]
    · have qw := wq_yes hw
      have hne : wdR W s1 ≠ [] := by rw [hw]; decide
      obtain ⟨f, rfl⟩ : ∃ f0, f = f0 + 1 := ⟨f - 1, by have := HF.out; have := wdR_lt hne; omega⟩
      have HW := Lib.hid hw
      clear hw
      go_wp2_with fail
      refine (tpass_any _ h1 hne).mono ?_
      rintro e w2 ⟨rfl, h2, O2⟩
      have t2 := t1.trans (Trn.of O2)
      have K2 := K1.pass hne
      clear t1 O2
      go_wp2_with fail
      refine (needN_any _ h2).mono ?_
      rintro e w3 ⟨rfl, h3, O3⟩
      have t3 := t2.trans (Trn.of O3)
      have K3 := K2.need (en := en) (p := numB) (by decide)
      clear t2 O3
      go_wp2_with fail
      refine (needW_any ⟨#[93]⟩ (by decide) _ h3).mono ?_
      rintro e w4 ⟨rfl, h4, O4⟩
      have t4 := t3.trans (Trn.of O4)
      have K4 := K3.needW (en := en) (x := [93]) (by decide)
      clear t3 O4
      have h4 : RdAt w0 fd W en w4 rb g1 (needWR W en [93] (needNR W en (passR s1)).2) := h4
      have hb := boxT w4 (.cells #[.int .i64 a] 3)
      have hA := h4.grow hb
      have t4 := t4.trans (Trn.of (h4.onl hb))
      have hps := ps1_ok (op := 4) (name := []) (n := (needNR W en (passR s1)).1) a h4.lt h4.held
      clear hb
      go_wp2_with fail
      refine (node_any ⟨⟨4, [], (needNR W en (passR s1)).1, [a]⟩, some ⟨w4.heap.size, 0, none⟩, 1⟩ _ hA hps K4.room).mono ?_
      rintro e w5 ⟨g5, rfl, h5, T5⟩
      have t5 := t4.trans T5
      clear t4 T5 hA hps
      have KN : Ok W n 0 (0 + 1) s1 (nodeR W ⟨4, [], (needNR W en (passR s1)).1, [a]⟩ (needWR W en [93] (needNR W en (passR s1)).2)).2 := (K4.node ⟨4, [], (needNR W en (passR s1)).1, [a]⟩).less (by omega) (by omega)
      have hpl2 := HPL.out
      rw [typeL_more HW.out] at hpl2
      have hmore := KN.more (wdR_lt hne)
      have hf2 := HF.out
      have hko := HKO.out
      have HM := Lib.hid (And.intro hmore (And.intro hf2 hko))
      have HP2 := Lib.hid hpl2
      have HK2 := Lib.hid (kOf_at h5)
      clear hmore hf2 hko hpl2
      go_wp2_with fail
      go_roundw
      case rel => exact ⟨f, (nodeR W ⟨4, [], (needNR W en (passR s1)).1, [a]⟩ (needWR W en [93] (needNR W en (passR s1)).2)).1, (nodeR W ⟨4, [], (needNR W en (passR s1)).1, [a]⟩ (needWR W en [93] (needNR W en (passR s1)).2)).2, g5, rfl, h5, TR.out.trans t5, by have KX := KR.call KN; exact KX.less (by omega) (by omega), HP2.out, by have := HM.out; omega⟩
      case measure => (have := HM.out; have := HK2.out; have := h5.inv.1; rw [HK2.out]; omega)
    · have qw2 := wq_no hw
      have hpl2 := HPL.out
      rw [typeL_end hw] at hpl2
      have HP2 := Lib.hid hpl2
      have t2 := (TA.out.trans TR.out).trans t1
      clear hw HPL hpl2 HG
      go_wp2_with fail
      have hl1 : 1 ≤ s1.ar := by rw [KR.2.2.1.1]; exact hn1
      refine leaves_cons (f := 81) (args := #[.pointer (some ⟨rb, 0, none⟩)]) (by simp) (by simp [go_sem]) ?_
      refine (leave_deferred hl1 _ _ h1).mono ?_
      rintro e u' w9 ⟨rfl, rfl, hL, OL⟩
      have fin : RP w0 fd W en rb g ((typeI W en ty sa).1, leaveR (typeI W en ty sa).2) w (.returned (.int .i64 a)) w9 := by
        rw [← HP2.out]
        exact ⟨_, rfl, hL, t2.trans (Trn.of OL)⟩
      simpa [Leaves, settle, results, Tryz.results111] using fin
theorem type_any {fd : Value} {W : List (Tx × Nat)} {en rb : Nat} : ∀ n, ∀ (c : Ctx) s g w, s.ar ≤ 21 → Dp n s → RdAt c fd W en w rb g s → Calls Tryz.prog 111 #[.pointer (some ⟨rb, 0, none⟩)] w (RP c fd W en rb g (typeR W en n s) w) := by
  intro n
  induction n with
  | zero =>
    intro c s g w ha hd h
    have hb : (enterR W en s).bad ≠ none := fun hg => by
      obtain ⟨_, _, _, m, hm, _⟩ := enter_good hd hg
      omega
    have e : typeR W en 0 s = typeB W en (typeR W en 0) s := by
      show typeB W en (fun s => (0, s)) s = _
      rw [typeB_bad h.inv hb, typeB_bad h.inv hb]
    rw [e]
    exact fullType_step (typeR W en 0) (type_ok 0) (fun hg => absurd hg hb) ha (fun hg => absurd hg hb) w h
  | succ n ih =>
    intro c s g w ha hd h
    by_cases hb : (enterR W en s).bad = none
    · obtain ⟨_, _, _, m, hm, hdm⟩ := enter_good hd hb
      obtain rfl : m = n := by omega
      exact fullType_step (typeR W en m) (type_ok m) (fun _ => ih) ha hdm w h
    · exact fullType_step (typeR W en n) (type_ok n) (fun hg => absurd hg hb) ha (fun hg => absurd hg hb) w h
end Go.Proofs.YtkhklndmbfbnoaaGreatDoor

/- Package tree: expressions. -/
namespace Go.Proofs.YtkhklndmbfbnoaaGreatDoor
open Go.ChangeShapes Go.WideShapes Go.ChangeAt Go.RowKit Go.Joins Go.Deep
set_option linter.unusedVariables false

set_option maxHeartbeats 3200000 in
theorem expression_step {w0 : Ctx} {fd : Value} {W : List (Tx × Nat)} {en rb : Nat} {g : Option Nat} {s : RS} {n : Nat} (ex : RS → Int × RS) (hF : Fng W n ex) (HG : (enterR W en s).bad = none → ∀ (c : Ctx) s g w, s.ar ≤ 21 → Dp n s → RdAt c fd W en w rb g s → Calls Tryz.prog 113 #[.pointer (some ⟨rb, 0, none⟩)] w (RP c fd W en rb g (ex s) w)) (ha : s.ar ≤ 21) (hd : Dp n (enterR W en s)) (w : World) (h : RdAt w0 fd W en w rb g s) : Calls Tryz.prog 113 #[.pointer (some ⟨rb, 0, none⟩)] w (RP w0 fd W en rb g (exprB W en ex s) w) := by
  have hB : exprB W en ex s = ((exprI W en ex (enterR W en s)).1, leaveR (exprI W en ex (enterR W en s)).2) := rfl
  have hn1 : 1 ≤ (enterR W en s).ar ∧ (enterR W en s).ar ≤ 30 := by unfold enterR; split <;> (show 1 ≤ s.ar + 1 ∧ s.ar + 1 ≤ 30; omega)
  rw [hB]
  clear hB
  go_enter_defers Tryz.func113, Tryz.ntmps113
  go_wp2_with fail
  refine (enter_any (by omega) _ h).mono ?_
  rintro e wa ⟨rfl, ha0, OA⟩
  have TA := Lib.hid (Trn.of (g := g) OA)
  clear h OA ha
  generalize enterR W en s = sa at *
  obtain ⟨hn1, hn2⟩ := hn1
  have hsz := short_size ha0
  have cN : ∀ w, Calls Tryz.prog 143 #[txV (wdR W sa)] w (BP (numB (wdR W sa)) w) := fun w => isNumber_any ⟨(wdR W sa).toArray⟩ hsz w
  have cK : ∀ w, Calls Tryz.prog 145 #[txV (wdR W sa)] w (BP (numKB (wdR W sa)) w) := fun w => isKindN_any ⟨(wdR W sa).toArray⟩ w
  have cT : ∀ w, Calls Tryz.prog 147 #[txV (wdR W sa)] w (BP (turnB (wdR W sa)) w) := fun w => isTurn_any ⟨(wdR W sa).toArray⟩ w
  have K0 := Ok.refl ha0.inv hd
  have t0 := Trn.refl rb g wa
  have h0 := ha0
  clear ha0
  go_wp2_with fail
  refine (word_any _ h0).mono ?_
  rintro e w1 ⟨rfl, h1, O1⟩
  have t1 := t0.trans (Trn.of O1)
  have K1 := K0
  clear t0 O1
  go_wp2_with fail
  refine (cN _).mono ?_
  rintro e w2 ⟨rfl, hb⟩
  have h2 := h1.grow hb
  have t2 := t1.trans (Trn.of (h1.onl hb))
  have K2 := K1
  clear hb h1 t1 K1
  by_cases hn : numB (wdR W sa) = true
  · have e : exprI W en ex sa = numberR W en sa := by unfold exprI; rw [if_pos hn]
    have EQ := Lib.hid e
    clear e
    have hne : wdR W sa ≠ [] := (fun h0 => by rw [h0] at hn; revert hn; decide)
    have hgd := wdR_good h2.inv hne
    have ha : sa.ar ≤ 21 := by have := (hd hgd).2; omega
    have HE := HG hgd
    clear hgd HG cN cK cT
    go_wp2_with fail
    refine (number_walk (by rw [K2.2.2.1.1]; exact ha) K2.2.2.2 _ h2).mono ?_
    rintro e w3 ⟨g3, rfl, h3, T3⟩
    have t3 := t2.trans T3
    have K3 := number_ok (en := en) K2
    clear t2 T3
    have hl1 : 1 ≤ (numberR W en sa).2.ar := by rw [(K3).2.2.1.1]; exact hn1
    go_wp2_with fail
    refine leaves_cons (f := 81) (args := #[.pointer (some ⟨rb, 0, none⟩)]) (by simp) (by simp [go_sem]) ?_
    refine (leave_deferred hl1 _ _ h3).mono ?_
    rintro e u' w9 ⟨rfl, rfl, hL, OL⟩
    have fin : RP w0 fd W en rb g ((exprI W en ex sa).1, leaveR (exprI W en ex sa).2) w (.returned (.int .i64 (numberR W en sa).1)) w9 := by
      rw [EQ.out]
      exact ⟨_, rfl, hL, (TA.out.trans t3).trans (Trn.of OL)⟩
    simpa [Leaves, settle, results, Tryz.results113] using fin
  · have hn := Bool.eq_false_iff.mpr hn
    go_wp2_with fail
    refine (cK _).mono ?_
    rintro e w3 ⟨rfl, hb⟩
    have h3 := h2.grow hb
    have t3 := t2.trans (Trn.of (h2.onl hb))
    have K3 := K2
    clear hb h2 t2 K2
    by_cases hk : numKB (wdR W sa) = true
    · have e : exprI W en ex sa = calledR W en ex 14 (wdR W sa) (passR sa) := by unfold exprI; rw [if_neg (by rw [hn]; decide)]; rw [if_pos hk]
      have EQ := Lib.hid e
      clear e
      have hne : wdR W sa ≠ [] := (fun h0 => by rw [h0] at hk; revert hk; decide)
      have hgd := wdR_good h3.inv hne
      have ha : sa.ar ≤ 21 := by have := (hd hgd).2; omega
      have HE := HG hgd
      clear hgd HG cN cK cT
      go_wp2_with fail
      refine (tpass_any _ h3 hne).mono ?_
      rintro e w4 ⟨rfl, h4, O4⟩
      have t4 := t3.trans (Trn.of O4)
      have K4 := K3.pass hne
      clear t3 O4
      go_wp2_with fail
      refine (called_any ex hF (HE _) 14 (wdR W sa) (by rw [K4.2.2.1.1]; exact ha) K4.2.2.2 _ h4).mono ?_
      rintro e w5 ⟨g5, rfl, h5, T5⟩
      have t5 := t4.trans T5
      have K5 := called_ok (en := en) hF 14 (wdR W sa) K4
      clear t4 T5
      have hl1 : 1 ≤ (calledR W en ex 14 (wdR W sa) (passR sa)).2.ar := by rw [(K5).2.2.1.1]; exact hn1
      go_wp2_with fail
      refine leaves_cons (f := 81) (args := #[.pointer (some ⟨rb, 0, none⟩)]) (by simp) (by simp [go_sem]) ?_
      refine (leave_deferred hl1 _ _ h5).mono ?_
      rintro e u' w9 ⟨rfl, rfl, hL, OL⟩
      have fin : RP w0 fd W en rb g ((exprI W en ex sa).1, leaveR (exprI W en ex sa).2) w (.returned (.int .i64 (calledR W en ex 14 (wdR W sa) (passR sa)).1)) w9 := by
        rw [EQ.out]
        exact ⟨_, rfl, hL, (TA.out.trans t5).trans (Trn.of OL)⟩
      simpa [Leaves, settle, results, Tryz.results113] using fin
    · have hk := Bool.eq_false_iff.mpr hk
      go_wp2_with fail
      refine (cT _).mono ?_
      rintro e w4 ⟨rfl, hb⟩
      have h4 := h3.grow hb
      have t4 := t3.trans (Trn.of (h3.onl hb))
      have K4 := K3
      clear hb h3 t3 K3
      by_cases ht : turnB (wdR W sa) = true
      · have e : exprI W en ex sa = nodeR W ⟨15, wdR W sa, 0, [(ex (passR sa)).1]⟩ (ex (passR sa)).2 := by unfold exprI; rw [if_neg (by rw [hn]; decide)]; rw [if_neg (by rw [hk]; decide)]; rw [if_pos ht]
        have EQ := Lib.hid e
        clear e
        have hne : wdR W sa ≠ [] := (fun h0 => by rw [h0] at ht; revert ht; decide)
        have hgd := wdR_good h4.inv hne
        have ha : sa.ar ≤ 21 := by have := (hd hgd).2; omega
        have HE := HG hgd
        clear hgd HG cN cK cT
        go_wp2_with fail
        refine (tpass_any _ h4 hne).mono ?_
        rintro e w5 ⟨rfl, h5, O5⟩
        have t5 := t4.trans (Trn.of O5)
        have K5 := K4.pass hne
        clear t4 O5
        go_wp2_with fail
        refine (HE _ (passR sa) g _ (by rw [K5.2.2.1.1]; exact ha) K5.2.2.2 h5).mono ?_
        rintro e w6 ⟨g6, rfl, h6, T6⟩
        have t6 := t5.trans T6
        have K6 := K5.fn hF
        clear t5 T6
        have hb := boxT w6 (.cells #[.int .i64 (ex (passR sa)).1] 3)
        have hA := h6.grow hb
        have t6 := t6.trans (Trn.of (h6.onl hb))
        have hps := ps1_ok (op := 15) (name := (wdR W sa)) (n := 0) (ex (passR sa)).1 h6.lt h6.held
        clear hb
        go_wp2_with fail
        refine (node_any ⟨⟨15, (wdR W sa), 0, [(ex (passR sa)).1]⟩, some ⟨w6.heap.size, 0, none⟩, 1⟩ _ hA hps K6.room).mono ?_
        rintro e w7 ⟨g7, rfl, h7, T7⟩
        have t7 := t6.trans T7
        clear t6 T7 hA hps
        have hl1 : 1 ≤ (nodeR W ⟨15, wdR W sa, 0, [(ex (passR sa)).1]⟩ (ex (passR sa)).2).2.ar := by rw [(K6.node ⟨15, wdR W sa, 0, [(ex (passR sa)).1]⟩).2.2.1.1]; exact hn1
        go_wp2_with fail
        refine leaves_cons (f := 81) (args := #[.pointer (some ⟨rb, 0, none⟩)]) (by simp) (by simp [go_sem]) ?_
        refine (leave_deferred hl1 _ _ h7).mono ?_
        rintro e u' w9 ⟨rfl, rfl, hL, OL⟩
        have fin : RP w0 fd W en rb g ((exprI W en ex sa).1, leaveR (exprI W en ex sa).2) w (.returned (.int .i64 (nodeR W ⟨15, wdR W sa, 0, [(ex (passR sa)).1]⟩ (ex (passR sa)).2).1)) w9 := by
          rw [EQ.out]
          exact ⟨_, rfl, hL, (TA.out.trans t7).trans (Trn.of OL)⟩
        simpa [Leaves, settle, results, Tryz.results113] using fin
      · have ht := Bool.eq_false_iff.mpr ht
        by_cases hr : wdR W sa = [38]
        · have e : exprI W en ex sa = nodeR W ⟨13, [], 0, [(placeR W en ex (passR sa)).1]⟩ (placeR W en ex (passR sa)).2 := by unfold exprI; rw [if_neg (by rw [hn]; decide)]; rw [if_neg (by rw [hk]; decide)]; rw [if_neg (by rw [ht]; decide)]; rw [if_pos hr]
          have EQ := Lib.hid e
          clear e
          have hne : wdR W sa ≠ [] := (by rw [hr]; decide)
          have hgd := wdR_good h4.inv hne
          have ha : sa.ar ≤ 21 := by have := (hd hgd).2; omega
          have HE := HG hgd
          clear hgd HG cN cK cT
          have qr := wq_yes hr
          clear hr
          go_wp2_with fail
          refine (tpass_any _ h4 hne).mono ?_
          rintro e w5 ⟨rfl, h5, O5⟩
          have t5 := t4.trans (Trn.of O5)
          have K5 := K4.pass hne
          clear t4 O5
          go_wp2_with fail
          refine (place_any ex hF (fun _ => HE _) (by rw [K5.2.2.1.1]; exact hn2) K5.2.2.2 _ h5).mono ?_
          rintro e w6 ⟨g6, rfl, h6, T6⟩
          have t6 := t5.trans T6
          have K6 := place_ok (en := en) hF K5
          clear t5 T6
          have hb := boxT w6 (.cells #[.int .i64 (placeR W en ex (passR sa)).1] 3)
          have hA := h6.grow hb
          have t6 := t6.trans (Trn.of (h6.onl hb))
          have hps := ps1_ok (op := 13) (name := []) (n := 0) (placeR W en ex (passR sa)).1 h6.lt h6.held
          clear hb
          go_wp2_with fail
          refine (node_any ⟨⟨13, [], 0, [(placeR W en ex (passR sa)).1]⟩, some ⟨w6.heap.size, 0, none⟩, 1⟩ _ hA hps K6.room).mono ?_
          rintro e w7 ⟨g7, rfl, h7, T7⟩
          have t7 := t6.trans T7
          clear t6 T7 hA hps
          have hl1 : 1 ≤ (nodeR W ⟨13, [], 0, [(placeR W en ex (passR sa)).1]⟩ (placeR W en ex (passR sa)).2).2.ar := by rw [(K6.node ⟨13, [], 0, [(placeR W en ex (passR sa)).1]⟩).2.2.1.1]; exact hn1
          go_wp2_with fail
          refine leaves_cons (f := 81) (args := #[.pointer (some ⟨rb, 0, none⟩)]) (by simp) (by simp [go_sem]) ?_
          refine (leave_deferred hl1 _ _ h7).mono ?_
          rintro e u' w9 ⟨rfl, rfl, hL, OL⟩
          have fin : RP w0 fd W en rb g ((exprI W en ex sa).1, leaveR (exprI W en ex sa).2) w (.returned (.int .i64 (nodeR W ⟨13, [], 0, [(placeR W en ex (passR sa)).1]⟩ (placeR W en ex (passR sa)).2).1)) w9 := by
            rw [EQ.out]
            exact ⟨_, rfl, hL, (TA.out.trans t7).trans (Trn.of OL)⟩
          simpa [Leaves, settle, results, Tryz.results113] using fin
        · by_cases hp : wdR W sa = [40]
          · have e : exprI W en ex sa = twoR W en ex sa := by unfold exprI; rw [if_neg (by rw [hn]; decide)]; rw [if_neg (by rw [hk]; decide)]; rw [if_neg (by rw [ht]; decide)]; rw [if_neg hr]; rw [if_pos hp]
            have EQ := Lib.hid e
            clear e
            have hne : wdR W sa ≠ [] := (by rw [hp]; decide)
            have hgd := wdR_good h4.inv hne
            have ha : sa.ar ≤ 21 := by have := (hd hgd).2; omega
            have HE := HG hgd
            clear hgd HG cN cK cT
            have qr := wq_no hr
            have qp := wq_yes hp
            clear hr hp
            go_wp2_with fail
            refine (two_any ex hF (HE _) (by rw [K4.2.2.1.1]; exact ha) K4.2.2.2 _ h4).mono ?_
            rintro e w5 ⟨g5, rfl, h5, T5⟩
            have t5 := t4.trans T5
            have K5 := two_ok (en := en) hF K4
            clear t4 T5
            have hl1 : 1 ≤ (twoR W en ex sa).2.ar := by rw [(K5).2.2.1.1]; exact hn1
            go_wp2_with fail
            refine leaves_cons (f := 81) (args := #[.pointer (some ⟨rb, 0, none⟩)]) (by simp) (by simp [go_sem]) ?_
            refine (leave_deferred hl1 _ _ h5).mono ?_
            rintro e u' w9 ⟨rfl, rfl, hL, OL⟩
            have fin : RP w0 fd W en rb g ((exprI W en ex sa).1, leaveR (exprI W en ex sa).2) w (.returned (.int .i64 (twoR W en ex sa).1)) w9 := by
              rw [EQ.out]
              exact ⟨_, rfl, hL, (TA.out.trans t5).trans (Trn.of OL)⟩
            simpa [Leaves, settle, results, Tryz.results113] using fin
          · have e : exprI W en ex sa = placeR W en ex sa := by unfold exprI; rw [if_neg (by rw [hn]; decide)]; rw [if_neg (by rw [hk]; decide)]; rw [if_neg (by rw [ht]; decide)]; rw [if_neg hr]; rw [if_neg hp]; skip
            have EQ := Lib.hid e
            clear e
            have qr := wq_no hr
            have qp := wq_no hp
            clear hr hp cN cK cT
            go_wp2_with fail
            refine (place_any ex hF (fun hb => HG hb _) (by rw [K4.2.2.1.1]; exact hn2) K4.2.2.2 _ h4).mono ?_
            rintro e w5 ⟨g5, rfl, h5, T5⟩
            have t5 := t4.trans T5
            have K5 := place_ok (en := en) hF K4
            clear t4 T5
            have hl1 : 1 ≤ (placeR W en ex sa).2.ar := by rw [(K5).2.2.1.1]; exact hn1
            go_wp2_with fail
            refine leaves_cons (f := 81) (args := #[.pointer (some ⟨rb, 0, none⟩)]) (by simp) (by simp [go_sem]) ?_
            refine (leave_deferred hl1 _ _ h5).mono ?_
            rintro e u' w9 ⟨rfl, rfl, hL, OL⟩
            have fin : RP w0 fd W en rb g ((exprI W en ex sa).1, leaveR (exprI W en ex sa).2) w (.returned (.int .i64 (placeR W en ex sa).1)) w9 := by
              rw [EQ.out]
              exact ⟨_, rfl, hL, (TA.out.trans t5).trans (Trn.of OL)⟩
            simpa [Leaves, settle, results, Tryz.results113] using fin
theorem expr_any {fd : Value} {W : List (Tx × Nat)} {en rb : Nat} : ∀ n, ∀ (c : Ctx) s g w, s.ar ≤ 21 → Dp n s → RdAt c fd W en w rb g s → Calls Tryz.prog 113 #[.pointer (some ⟨rb, 0, none⟩)] w (RP c fd W en rb g (exprR W en n s) w) := by
  intro n
  induction n with
  | zero =>
    intro c s g w ha hd h
    have hb : (enterR W en s).bad ≠ none := fun hg => by
      obtain ⟨_, _, _, m, hm, _⟩ := enter_good hd hg
      omega
    have e : exprR W en 0 s = exprB W en (exprR W en 0) s := by
      show exprB W en (fun s => (0, s)) s = _
      rw [exprB_bad h.inv hb, exprB_bad h.inv hb]
    rw [e]
    exact expression_step (exprR W en 0) (expr_ok 0) (fun hg => absurd hg hb) ha (fun hg => absurd hg hb) w h
  | succ n ih =>
    intro c s g w ha hd h
    by_cases hb : (enterR W en s).bad = none
    · obtain ⟨_, _, _, m, hm, hdm⟩ := enter_good hd hb
      obtain rfl : m = n := by omega
      exact expression_step (exprR W en m) (expr_ok m) (fun _ => ih) ha hdm w h
    · exact expression_step (exprR W en n) (expr_ok n) (fun hg => absurd hg hb) ha (fun hg => absurd hg hb) w h
end Go.Proofs.YtkhklndmbfbnoaaGreatDoor
