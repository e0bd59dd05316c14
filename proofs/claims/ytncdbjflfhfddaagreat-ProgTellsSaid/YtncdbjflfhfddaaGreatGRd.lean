/- The document on programs: Program. -/
import Derived.Test.YtncdbjflfhfddaaGreatGRc
import Derived.Test.YtncdbjflfhfddaaGreatGRu
import Derived.Test.YtncdbjflfhfddaaGreatGC
namespace Go.Proofs.YtncdbjflfhfddaaGreat
open Go.ChangeShapes Go.WideShapes Go.ChangeAt Go.RowKit Go.Joins Go.Deep
set_option linter.unusedVariables false

theorem form_parts {P : PX} (h1 : ((P.ptr == 2) || (P.ptr == 4)) = true) (h2 : szB P.vars 4 = true) (h3 : szB P.news 2 = true) (h4 : P.exs.length ≤ 120) (h5 : P.sts.length ≤ 40)
    (h6 : ∀ (j : Nat) (x : EX), P.exs[j]? = some x → isExprB P x (j : Nat) = true) (h7 : ∀ (j : Nat) (x : SX), P.sts[j]? = some x → isStmtB P x = true) : formB P = true := by
  rw [form_eq, h1, h2, h3, decide_eq_true h4, decide_eq_true h5, all_get h7]
  have : ((List.range P.exs.length).all fun i => isExprB P (exAt P i) i) = true := all_get fun j x hx => by
    have hj := (List.getElem?_eq_some_iff.1 hx).1
    have : j = x := by simpa using (List.getElem?_eq_some_iff.1 hx).2
    subst this
    have hj2 : j < P.exs.length := by simpa using hj
    have hy : P.exs[j]? = some (exAt P (j : Nat)) := by simp [exAt, List.getD_eq_getElem?_getD, List.getElem?_eq_getElem hj2]
    exact h6 j _ hy
  rw [this]
  rfl
theorem form_bad {P : PX} {j : Nat} {x : EX} (hx : P.exs[j]? = some x) (h : isExprB P x (j : Nat) = false) : formB P = false := by
  rw [form_eq]
  have hj := (List.getElem?_eq_some_iff.1 hx).1
  have he : exAt P (j : Nat) = x := by simp [exAt, List.getD_eq_getElem?_getD, hx]
  rw [all_bad (j := j) (x := j) (by simp [hj]) (by rw [he]; exact h)]
  simp
theorem form_badS {P : PX} {j : Nat} {x : SX} (hx : P.sts[j]? = some x) (h : isStmtB P x = false) : formB P = false := by
  rw [form_eq, all_bad hx h]
  simp
theorem prog_bad {P : PX} (h : formB P = false) : progB P = false := by unfold progB; rw [h]; rfl
def RProgP (P : PX) (w : World) (e : Ending) (w' : World) : Prop := e = .returned (.bool (progB P)) ∧ Below w.heap.size w w'
set_option maxRecDepth 100000 in
set_option maxHeartbeats 12800000 in
theorem rProg_any (P : PX) (v1 v2 v3 v4 v5 : Value) (w : World) (h : IsPr w v1 v2 v3 v4 v5 P) : Calls Tryz.prog 10 #[.agg #[.bool P.big, .int .i64 P.ptr, v1, v2, v3, v4, v5]] w (RProgP P w) := by
  have hb0 := below_box1 w (.cells #[.bool P.big, .int .i64 P.ptr, v1, v2, v3, v4, v5] 33)
  have hA := At.new w #[.bool P.big, .int .i64 P.ptr, v1, v2, v3, v4, v5] 33
  obtain ⟨w1, hw1⟩ : ∃ w1, w.alloc (.cells #[.bool P.big, .int .i64 P.ptr, v1, v2, v3, v4, v5] 33) = w1 := ⟨_, rfl⟩
  rw [hw1] at hb0 hA
  have h1 := h.below hb0
  have HH1 := Lib.hid h1
  have cA := fun w => Abi_any P.big P.ptr w
  have cV : ∀ w2, Below w1.heap.size w1 w2 → Calls Tryz.prog 29 #[v1, .int .i64 4] w2 fun e w' => e = .returned (.bool (szB P.vars 4)) ∧ w2 = w' := fun w2 hb => rSizes_any v1 P.vars 4 (by decide) w2 (h1.1.below hb)
  have cN : ∀ w2, Below w1.heap.size w1 w2 → Calls Tryz.prog 29 #[v2, .int .i64 2] w2 fun e w' => e = .returned (.bool (szB P.news 2)) ∧ w2 = w' := fun w2 hb => rSizes_any v2 P.news 2 (by decide) w2 (h1.2.1.below hb)
  have cX := fun (i : Nat) x hx w2 (hb : Below w1.heap.size w1 w2) => rExpr_any P v1 v2 v3 v4 v5 i x hx w2 (h1.below hb)
  have cZ := fun hF w2 (hb : Below w1.heap.size w1 w2) => seats_any P v1 v2 v3 v4 v5 hF w2 (h1.below hb)
  have hS4 := h1.2.2.2.1
  obtain ⟨q1, k1, rfl, _⟩ := id h.1
  obtain ⟨q2, k2, rfl, _⟩ := id h.2.1
  obtain ⟨q3, k3, rfl, _⟩ := id h.2.2.1
  obtain ⟨q4, k4, rfl, _⟩ := id h.2.2.2.1
  obtain ⟨q5, k5, rfl, _⟩ := id h.2.2.2.2
  have HA := Lib.hid hA
  have HB0 := Lib.hid hb0
  have a0 : w1.cell? ⟨w.heap.size, 0, none⟩ = some (.bool P.big) := hA.cell 0 rfl
  have a1 : w1.cell? ⟨w.heap.size, 1, none⟩ = some (.int .i64 P.ptr) := hA.cell 1 rfl
  have a2 : w1.cell? ⟨w.heap.size, 2, none⟩ = some (.slice q1 P.vars.length k1) := hA.cell 2 rfl
  have a3 : w1.cell? ⟨w.heap.size, 3, none⟩ = some (.slice q2 P.news.length k2) := hA.cell 3 rfl
  have a4 : w1.cell? ⟨w.heap.size, 4, none⟩ = some (.slice q3 P.exs.length k3) := hA.cell 4 rfl
  have a5 : w1.cell? ⟨w.heap.size, 5, none⟩ = some (.slice q4 P.sts.length k4) := hA.cell 5 rfl
  have a6 : w1.cell? ⟨w.heap.size, 6, none⟩ = some (.slice q5 P.main.length k5) := hA.cell 6 rfl
  have hf := form_eq P
  have HN : Hid (∀ b w2, formB P = false → Below w1.heap.size w1 w2 → b = false → RProgP P w (.returned (.bool b)) w2) := Lib.hid fun b w2 h2 hb hb2 => ⟨by rw [prog_bad h2, hb2], HB0.out.trans (hb.mono HB0.out.size)⟩
  clear h h1 hA hb0
  go_enter Tryz.func10, Tryz.ntmps10
  go_upto_region 1 with (fail)
  clear hw1
  go_wp2_with fail
  refine (cA _).mono ?_
  rintro e w2 ⟨rfl, hb2⟩
  have cV2 := cV w2 hb2
  have cN2 := cN w2 hb2
  have b2 := cell_below a2 hb2
  have b3 := cell_below a3 hb2
  have b4 := cell_below a4 hb2
  have b5 := cell_below a5 hb2
  clear cA cV cN
  cases hp : ((P.ptr == 2) || (P.ptr == 4))
  · have FIN : Hid (RProgP P w (.returned (.bool false)) w2) := Lib.hid (HN.out false w2 (by rw [hf, hp]; rfl) hb2 rfl)
    clear hf cV2 cN2 b2 b3 b4 b5 a0 a1 a2 a3 a4 a5 a6
    go_wp2_with fail
    go_ret
    exact FIN.out
  cases hv : szB P.vars 4
  · rw [hv] at cV2
    have FIN : Hid (RProgP P w (.returned (.bool false)) w2) := Lib.hid (HN.out false w2 (by rw [hf, hv]; simp) hb2 rfl)
    clear hf cN2 b3 b4 b5 a0 a1 a2 a3 a4 a5 a6
    go_wp2_with (go_at_call 29; refine cV2.mono ?_; rintro e w3 ⟨rfl, rfl⟩)
    go_ret
    exact FIN.out
  rw [hv] at cV2
  go_wp2_with fail
  refine cV2.mono ?_
  rintro e w3 ⟨rfl, rfl⟩
  cases hn : szB P.news 2
  · rw [hn] at cN2
    have FIN : Hid (RProgP P w (.returned (.bool false)) w2) := Lib.hid (HN.out false w2 (by rw [hf, hn]; simp) hb2 rfl)
    clear hf cV2 b4 b5 a0 a1 a2 a3 a4 a5 a6
    go_wp2_with (go_at_call 29; refine cN2.mono ?_; rintro e w3 ⟨rfl, rfl⟩)
    go_ret
    exact FIN.out
  rw [hn] at cN2
  go_wp2_with fail
  refine cN2.mono ?_
  rintro e w3 ⟨rfl, rfl⟩
  clear cV2 cN2 b2 b3
  by_cases hx120 : P.exs.length ≤ 120
  rotate_left
  · have hxg : (120 : Int) < (P.exs.length : Int) := by omega
    have FIN : Hid (RProgP P w (.returned (.bool false)) w2) := Lib.hid (HN.out false w2 (by rw [hf, decide_eq_false hx120]; simp) hb2 rfl)
    clear hf a0 a1 a2 a3 a4 a5 a6
    go_wp2_with fail
    go_ret
    exact FIN.out
  have hxg : ¬ (120 : Int) < (P.exs.length : Int) := by omega
  have hxgd : decide ((120 : Int) < (P.exs.length : Int)) = false := decide_eq_false hxg
  by_cases hs40 : P.sts.length ≤ 40
  rotate_left
  · have hsg : (40 : Int) < (P.sts.length : Int) := by omega
    have FIN : Hid (RProgP P w (.returned (.bool false)) w2) := Lib.hid (HN.out false w2 (by rw [hf, decide_eq_false hs40]; simp) hb2 rfl)
    clear hf a0 a1 a2 a3 a4 a5 a6
    go_wp2_with fail
    go_ret
    exact FIN.out
  have hsg : ¬ (40 : Int) < (P.sts.length : Int) := by omega
  have hsgd : decide ((40 : Int) < (P.sts.length : Int)) = false := decide_eq_false hsg
  have hvl : P.vars.length ≤ 4 := by simp only [szB, Bool.and_eq_true, decide_eq_true_eq] at hv; exact hv.1
  have hnl : P.news.length ≤ 2 := by simp only [szB, Bool.and_eq_true, decide_eq_true_eq] at hn; exact hn.1
  have HF0 := Lib.hid (And.intro hp (And.intro hv (And.intro hn (And.intro hx120 hs40))))
  have HB2 := Lib.hid hb2
  have cSt := fun (x : SX) (vb ve : Value) (w3 : World) (hb : IsIs w3 vb x.body) (he : IsIs w3 ve x.els) (hb3 : Below w1.heap.size w1 w3) => rStmt_any P _ _ _ _ _ vb ve hvl hnl x.op x.to x.kind x.e x.n x.body x.els w3 (HH1.out.below hb3) hb he
  clear hf hp hv hn hb2
  go_wp2_with fail
  go_loopw [3] (fun v wr => ∃ i : Nat, i ≤ P.exs.length ∧ v = .int .i64 (i : Nat) ∧ (∀ (j : Nat) (x : EX), j < i → P.exs[j]? = some x → isExprB P x (j : Nat) = true) ∧ Below w1.heap.size w1 wr) (fun v _ => P.exs.length - (intOf v).toNat)
  case atStart => exact ⟨0, Nat.zero_le _, rfl, fun j x hj => absurd hj (Nat.not_lt_zero _), HB2.out⟩
  case round =>
    obtain ⟨i, hi, rfl, hall, hbr⟩ := hrel
    have HBR := Lib.hid hbr
    obtain ⟨wo, hwo⟩ : ∃ wo, wo = wr := ⟨_, rfl⟩
    subst hwo
    have c4 := cell_below a4 hbr
    by_cases hlt : i < P.exs.length
    · have hj3 : (i : Int) < (P.exs.length : Int) := by omega
      obtain ⟨x, hx⟩ : ∃ x, P.exs[i]? = some x := ⟨_, List.getElem?_eq_getElem hlt⟩
      have cE := cX i x hx wo hbr
      rw [rExpr_eq] at cE
      have c0 := cell_below a0 hbr
      have c1 := cell_below a1 hbr
      have c2 := cell_below a2 hbr
      have c3 := cell_below a3 hbr
      have c5 := cell_below a5 hbr
      have c6 := cell_below a6 hbr
      have HX := Lib.hid (And.intro hx hall)
      clear hx hall hbr a0 a1 a2 a3 a4 a5 a6 cX cZ cSt b4 b5
      cases he : isExprB P x (i : Nat)
      · rw [he] at cE
        have FIN : Hid (∀ w9, Below wo.heap.size wo w9 → RProgP P w (.returned (.bool false)) w9) := Lib.hid fun w9 hb9 => HN.out false w9 (form_bad HX.out.1 he) (HBR.out.trans (hb9.mono HBR.out.size)) rfl
        clear he
        go_wp2_with (go_at_call 30; refine cE.mono ?_; rintro e w9 ⟨rfl, hb9⟩)
        go_ret
        exact FIN.out _ hb9
      · rw [he] at cE
        have HE := Lib.hid he
        clear he
        go_wp2_with (go_at_call 30; refine cE.mono ?_; rintro e w9 ⟨rfl, hb9⟩)
        go_roundw
        case rel =>
          refine ⟨i + 1, by omega, by go_num, fun j y hj hy => ?_, HBR.out.trans (hb9.mono HBR.out.size)⟩
          by_cases hji : j = i
          · subst hji
            rw [HX.out.1] at hy
            injection hy with hy
            rw [← hy]; exact HE.out
          · exact HX.out.2 j y (by omega) hy
        case measure => simp [intOf]; omega
    · obtain rfl : i = P.exs.length := by omega
      have HEX : Hid (∀ (j : Nat) (x : EX), P.exs[j]? = some x → isExprB P x (j : Nat) = true) := Lib.hid fun j x hx => hall j x (List.getElem?_eq_some_iff.1 hx).1 hx
      clear hall hbr cX b4 b5
      go_wp2_with fail
      go_loopw [4] (fun v wr => ∃ i : Nat, i ≤ P.sts.length ∧ v = .int .i64 (i : Nat) ∧ (∀ (j : Nat) (x : SX), j < i → P.sts[j]? = some x → isStmtB P x = true) ∧ Below w1.heap.size w1 wr) (fun v _ => P.sts.length - (intOf v).toNat)
      case atStart => exact ⟨0, Nat.zero_le _, rfl, fun j x hj => absurd hj (Nat.not_lt_zero _), HBR.out⟩
      case round =>
        obtain ⟨i, hi, rfl, hall, hbr⟩ := hrel
        have HBR2 := Lib.hid hbr
        obtain ⟨wp, hwp⟩ : ∃ wp, wp = wr := ⟨_, rfl⟩
        subst hwp
        have c0 := cell_below a0 hbr
        have c1 := cell_below a1 hbr
        have c2 := cell_below a2 hbr
        have c3 := cell_below a3 hbr
        have c4 := cell_below a4 hbr
        have c5 := cell_below a5 hbr
        have c6 := cell_below a6 hbr
        by_cases hlt : i < P.sts.length
        · have hj3 : (i : Int) < (P.sts.length : Int) := by omega
          obtain ⟨x, hx⟩ : ∃ x, P.sts[i]? = some x := ⟨_, List.getElem?_eq_getElem hlt⟩
          obtain ⟨_, _, hve, _, _, hvc⟩ := hS4
          obtain ⟨sb, so, hvq, hsb, hscell⟩ := hvc (by omega)
          injection hve with he1 he2 he3
          subst he1 he3
          subst hvq
          obtain ⟨vb, ve, s0, s1, s2, s3, s4, s5, s6, ib, ie⟩ := QS.below _ _ _ _ _ hbr (hscell i x hx)
          have cSx := fun p : BelowBy wp => cSt x vb ve p.world (ib.below p.below) (ie.below p.below) (hbr.trans (p.below.mono hbr.size))
          obtain ⟨qb, cb, rfl, _⟩ := id ib
          obtain ⟨qe, ce, rfl, _⟩ := id ie
          have hsx : rStmtB P ⟨x.op, x.to, x.kind, x.e, x.n, x.body, x.els⟩ = isStmtB P x := rStmt_eq P x
          rw [hsx] at cSx
          have HX := Lib.hid (And.intro hx hall)
          have z0 := fun p : BelowBy wp => p.cell c0
          have z1 := fun p : BelowBy wp => p.cell c1
          have z2 := fun p : BelowBy wp => p.cell c2
          have z3 := fun p : BelowBy wp => p.cell c3
          have z4 := fun p : BelowBy wp => p.cell c4
          have z5 := fun p : BelowBy wp => p.cell c5
          have z6 := fun p : BelowBy wp => p.cell c6
          have y0 := fun p : BelowBy wp => p.cell s0
          have y1 := fun p : BelowBy wp => p.cell s1
          have y2 := fun p : BelowBy wp => p.cell s2
          have y3 := fun p : BelowBy wp => p.cell s3
          have y4 := fun p : BelowBy wp => p.cell s4
          have y5 := fun p : BelowBy wp => p.cell s5
          have y6 := fun p : BelowBy wp => p.cell s6
          clear hx hall hbr a0 a1 a2 a3 a4 a5 a6 cZ cSt hscell hvc ib ie hsx
          obtain ⟨bt, hbt⟩ : ∃ bt, bt = isStmtB P x := ⟨_, rfl⟩
          rw [← hbt] at cSx
          have HBT := Lib.hid hbt
          clear hbt
          generalize x.op = xo at *
          generalize x.to = xt at *
          generalize x.kind = xk at *
          generalize x.e = xe at *
          generalize x.n = xn at *
          generalize x.body.length = nbd at *
          generalize x.els.length = nel at *
          go_wp2_with fail
          refine wp_region_quiet_below (by kernel_rfl) (by kernel_rfl) ?_
          repeat (go_big_quiet_step ((go_at_call 31; (with_reducible exact Calls.below_of (cSx _)))))
          refine wpQuiet_nil ?_
          intro w9 hw'
          have hb9 : Below wp.heap.size wp w9 := by (obtain ⟨⟨_, h⟩, h2⟩ := hw'; rw [h2]; exact h)
          clear hw' c0 c1 c2 c3 c4 c5 c6 s0 s1 s2 s3 s4 s5 s6 z0 z1 z2 z3 z4 z5 z6 y0 y1 y2 y3 y4 y5 y6 cSx
          have HB9 := Lib.hid (HBR2.out.trans (hb9.mono HBR2.out.size))
          clear hb9
          cases bt
          · have FIN : Hid (RProgP P w (.returned (.bool false)) w9) := Lib.hid (HN.out false w9 (form_badS HX.out.1 HBT.out.symm) HB9.out rfl)
            go_wp2_with fail
            go_ret
            exact FIN.out
          · go_wp2_with fail
            go_roundw
            case rel =>
              refine ⟨i + 1, by omega, by go_num, fun j y hj hy => ?_, HB9.out⟩
              by_cases hji : j = i
              · subst hji
                rw [HX.out.1] at hy
                injection hy with hy
                rw [← hy]; exact HBT.out.symm
              · exact HX.out.2 j y (by omega) hy
            case measure => simp [intOf]; omega
        · obtain rfl : i = P.sts.length := by omega
          have hF : formB P = true := form_parts HF0.out.1 HF0.out.2.1 HF0.out.2.2.1 HF0.out.2.2.2.1 HF0.out.2.2.2.2 HEX.out fun j x hx => hall j x (List.getElem?_eq_some_iff.1 hx).1 hx
          have cS := cZ hF wp hbr
          unfold SeatsP at cS
          have hag := (stands_agree P (form_sts hF).2.2.2).1
          have FIN : Hid (∀ w9, Below wp.heap.size wp w9 → RProgP P w (.returned (.bool (boA P).isSome)) w9) := Lib.hid fun w9 hb9 => ⟨by unfold progB; rw [hF, hag]; rfl, HB0.out.trans ((HBR2.out.trans (hb9.mono HBR2.out.size)).mono HB0.out.size)⟩
          clear hall hbr cZ cSt hF hag a0 a1 a2 a3 a4 a5 a6
          generalize (boA P).isSome = bz at *
          go_wp2_with (go_at_call 32; refine cS.mono ?_; rintro e w9 ⟨wb, ib, rs, rfl, hb9, _, _, _, _⟩)
          go_ret
          exact FIN.out _ hb9
end Go.Proofs.YtncdbjflfhfddaaGreat
