/- Package prog: all sizes, all expressions, all statements. -/
import Derived.Test.YtncdbjflfhfddaaGreatGS
namespace Go.Proofs.YtncdbjflfhfddaaGreat
open Go.ChangeShapes Go.WideShapes Go.ChangeAt Go.RowKit Go.Joins Go.Deep
set_option linter.unusedVariables false

theorem all_get {α : Type} {p : α → Bool} {l : List α} (h : ∀ (j : Nat) (x : α), l[j]? = some x → p x = true) : l.all p = true := by
  rw [List.all_eq_true]
  intro x hx
  obtain ⟨j, hj⟩ := List.mem_iff_getElem?.1 hx
  exact h j x hj
theorem all_bad {α : Type} {p : α → Bool} {l : List α} {j : Nat} {x : α} (h : l[j]? = some x) (hp : p x = false) : l.all p = false := by
  rw [Bool.eq_false_iff]
  intro ha
  have := List.all_eq_true.1 ha x (List.mem_of_getElem? h)
  rw [hp] at this
  cases this
def szN (n : Int) : Bool := decide (1 ≤ n) && decide (n ≤ 32)
set_option maxHeartbeats 1600000 in
theorem areSizes_any (v : Value) (l : List Int) (most : Nat) (w : World) (h : IsIs w v l) : Calls Tryz.prog 56 #[v, .int .i64 (most : Nat)] w fun e w' => e = .returned (.bool (szB l most)) ∧ w = w' := by
  obtain ⟨q, cap, rfl, hl, hcap, hc⟩ := h
  obtain ⟨n, hn⟩ : ∃ n, n = l.length := ⟨_, rfl⟩
  have es : szB l most = (decide (n ≤ most) && l.all szN) := by rw [hn]; rfl
  rw [es, ← hn]
  rw [← hn] at hl hcap hc
  have HN := Lib.hid hn
  unfold maxLen at hl
  clear hn es
  by_cases hm : n ≤ most
  · have hm2 : ¬ (most : Int) < (n : Int) := by omega
    have hmd : decide (n ≤ most) = true := decide_eq_true hm
    rw [hmd]
    go_enter Tryz.func56, Tryz.ntmps56
    go_wp2
    go_loopw [13] (fun v wr => ∃ i : Nat, i ≤ n ∧ v = .int .i64 (i : Nat) ∧ (∀ j x, j < i → l[j]? = some x → szN x = true) ∧ w = wr) (fun v _ => n - (intOf v).toNat)
    case atStart => exact ⟨0, Nat.zero_le _, rfl, fun j x hj => absurd hj (Nat.not_lt_zero _), rfl⟩
    case round =>
      obtain ⟨i, hi, rfl, hall, rfl⟩ := hrel
      by_cases hlt : i < n
      · obtain ⟨b, o, rfl, hbs, hcell⟩ := hc (by omega)
        obtain ⟨x, hx⟩ : ∃ x, l[i]? = some x := ⟨_, List.getElem?_eq_getElem (by rw [← HN.out]; exact hlt)⟩
        have c1 : w.cell? ⟨b, o + i, none⟩ = some (.int .i64 x) := by have := hcell i x hx; simpa [QI] using this
        have hj3 : (i : Int) < (n : Int) := by omega
        have HA := Lib.hid hall
        have HX := Lib.hid hx
        clear hcell hc hall hx hm hm2 hmd
        by_cases h1 : 1 ≤ x
        · have h1b : decide (x < 1) = false := decide_eq_false (by omega)
          by_cases h2 : x ≤ 32
          · have h2b : decide (32 < x) = false := decide_eq_false (by omega)
            have HS : Hid (szN x = true) := Lib.hid (by simp [szN]; omega)
            clear h1 h2
            go_wp2
            go_roundw
            case rel =>
              refine ⟨i + 1, by omega, by go_num, fun j y hj hy => ?_, by first | rfl | trivial⟩
              by_cases hji : j = i
              · subst hji
                rw [HX.out] at hy
                injection hy with hy
                rw [← hy]; exact HS.out
              · exact HA.out j y (by omega) hy
            case measure => simp [intOf]; omega
          · have h2b : (32 : Int) < x := by omega
            have HS : Hid (l.all szN = false) := Lib.hid (all_bad HX.out (by simp [szN]; omega))
            clear h1 h2
            go_wp2
            go_ret
            exact ⟨ret_b (by rw [HS.out]; rfl), rfl⟩
        · have h1b : x < 1 := by omega
          have HS : Hid (l.all szN = false) := Lib.hid (all_bad HX.out (by simp [szN]; omega))
          clear h1
          go_wp2
          go_ret
          exact ⟨ret_b (by rw [HS.out]; rfl), rfl⟩
      · obtain rfl : i = n := by omega
        have HS : Hid (l.all szN = true) := Lib.hid (all_get fun j x hx => hall j x (by have := (List.getElem?_eq_some_iff.1 hx).1; rw [← HN.out] at this; exact this) hx)
        clear hc hall hm hm2 hmd
        go_wp2
        go_ret
        exact ⟨ret_b (by rw [HS.out]; rfl), rfl⟩
  · have hm2 : (most : Int) < (n : Int) := by omega
    clear hc
    go_enter Tryz.func56, Tryz.ntmps56
    go_wp2
    go_ret
    exact ⟨ret_b (by simp [hm]), rfl⟩
theorem haveSizes_any (pb : Nat) (P : PX) (w : World) (h : QP w pb 0 P) : Calls Tryz.prog 37 #[.pointer (some ⟨pb, 0, none⟩)] w fun e w' => e = .returned (.bool (szB P.vars 4 && szB P.news 2)) ∧ w = w' := by
  obtain ⟨v1, v2, v3, v4, v5, h0, h1, h2, h3, h4, h5, h6, h7⟩ := h.cells
  have cV : ∀ w, IsIs w v1 P.vars → Calls Tryz.prog 56 #[v1, .int .i64 4] w fun e w' => e = .returned (.bool (szB P.vars 4)) ∧ w = w' := fun w h => areSizes_any v1 P.vars 4 w h
  have cN : ∀ w, IsIs w v2 P.news → Calls Tryz.prog 56 #[v2, .int .i64 2] w fun e w' => e = .returned (.bool (szB P.news 2)) ∧ w = w' := fun w h => areSizes_any v2 P.news 2 w h
  have hV := h7.1
  have hN := h7.2.1
  obtain ⟨q1, c1, rfl, _⟩ := id hV
  obtain ⟨q2, c2, rfl, _⟩ := id hN
  generalize szB P.news 2 = b2 at *
  cases hb : szB P.vars 4
  · rw [hb] at cV
    clear h h7 hb
    go_enter Tryz.func37, Tryz.ntmps37
    go_wp2_with (go_at_call 56; (with_reducible refine (cV _ hV).mono ?_); rintro e w' ⟨rfl, rfl⟩)
    go_ret
    exact ⟨rfl, rfl⟩
  · rw [hb] at cV
    clear h h7 hb
    go_enter Tryz.func37, Tryz.ntmps37
    go_wp2_with (go_at_call 56; (first | (with_reducible refine (cV _ hV).mono ?_) | (with_reducible refine (cN _ hN).mono ?_)); rintro e w' ⟨rfl, rfl⟩)
    go_ret
    exact ⟨rfl, rfl⟩
set_option maxHeartbeats 3200000 in
theorem haveExprs_any (pb : Nat) (P : PX) (w : World) (h : QP w pb 0 P) : Calls Tryz.prog 38 #[.pointer (some ⟨pb, 0, none⟩)] w fun e w' => e = .returned (.bool (decide (P.exs.length ≤ 120) && (List.range P.exs.length).all fun i => isExprB P (exAt P i) i)) ∧ Below w.heap.size w w' := by
  obtain ⟨v1, v2, v3, v4, v5, h0, h1, h2, h3, h4, h5, h6, h7⟩ := h.cells
  obtain ⟨q, cap, rfl, hl, hcap, hc⟩ := h7.2.2.1
  obtain ⟨n, hn⟩ : ∃ n, n = P.exs.length := ⟨_, rfl⟩
  have HB := Lib.hid (And.intro hn h)
  rw [← hn]
  rw [← hn] at h4 hl hcap hc
  unfold maxLen at hl
  clear hn h h7
  by_cases hm : n ≤ 120
  · have hm2 : ¬ (120 : Int) < (n : Int) := by omega
    have hmd : decide (n ≤ 120) = true := decide_eq_true hm
    rw [hmd]
    go_enter Tryz.func38, Tryz.ntmps38
    go_wp2
    go_loopw [18] (fun v wr => ∃ i : Nat, i ≤ n ∧ v = .int .i64 (i : Nat) ∧ (∀ j, j < i → isExprB P (exAt P (j : Nat)) (j : Nat) = true) ∧ Below w.heap.size w wr) (fun v _ => n - (intOf v).toNat)
    case atStart => exact ⟨0, Nat.zero_le _, rfl, fun j hj => absurd hj (Nat.not_lt_zero _), Below.refl _ _⟩
    case round =>
      obtain ⟨i, hi, rfl, hall, hbr⟩ := hrel
      by_cases hlt : i < n
      · obtain ⟨b, o, rfl, hbs, hcell⟩ := hc (by omega)
        obtain ⟨x, hx⟩ : ∃ x, P.exs[i]? = some x := ⟨_, List.getElem?_eq_getElem (by rw [← HB.out.1]; exact hlt)⟩
        have hxe : exAt P (i : Nat) = x := by simp [exAt, List.getD_eq_getElem?_getD, hx]
        obtain ⟨c0, c1, c2, c3, c4⟩ := (QE.below _ _ _ _ _ hbr (hcell i x hx)).cells
        have hj3 : (i : Int) < (n : Int) := by omega
        have cE := fun w2 (hb2 : Below wr.heap.size wr w2) => isExpr_any pb P x.op x.kind x.n x.a x.b (i : Nat) (by rw [← HB.out.1]; omega) w2 (QP.below _ _ _ _ _ (hbr.trans (hb2.mono hbr.size)) HB.out.2)
        have cX := cE _ (below_box1 wr (.cells #[.int .i64 x.op, .int .i64 x.kind, .int .i64 x.n, .int .i64 x.a, .int .i64 x.b] 50))
        have HA := Lib.hid hall
        have HR := Lib.hid hbr
        obtain ⟨xo, xk, xn, xa, xb⟩ := x
        dsimp only at *
        have HX : Hid (exAt P (i : Nat) = ⟨xo, xk, xn, xa, xb⟩) := Lib.hid hxe
        generalize hbb : isExprB P ⟨xo, xk, xn, xa, xb⟩ (i : Nat) = bb at cX
        have HBB := Lib.hid hbb
        clear hcell hc hall hm hm2 hmd hxe hbr cE hx hbb h0 h1 h2 h3 h5 h6 h4
        cases bb
        · go_wp2_with (go_at_call 57; refine cX.mono ?_; rintro e w' ⟨rfl, hb9⟩)
          go_ret
          refine ⟨ret_b ?_, (HR.out.trans ((below_box1 _ _).mono HR.out.size)).trans (hb9.mono (Nat.le_trans HR.out.size (below_box1 _ _).size))⟩
          rw [all_bad (j := i) (x := i) (by simp [hlt]) (by rw [HX.out]; exact HBB.out)]
          rfl
        · go_wp2_with (go_at_call 57; refine cX.mono ?_; rintro e w' ⟨rfl, hb9⟩)
          go_roundw
          case rel =>
            refine ⟨i + 1, by omega, by go_num, fun j hj => ?_, (HR.out.trans ((below_box1 _ _).mono HR.out.size)).trans (hb9.mono (Nat.le_trans HR.out.size (below_box1 _ _).size))⟩
            by_cases hji : j = i
            · subst hji
              rw [HX.out]; exact HBB.out
            · exact HA.out j (by omega)
          case measure => simp [intOf]; omega
      · obtain rfl : i = n := by omega
        have HS : Hid (((List.range i).all fun i => isExprB P (exAt P i) i) = true) := Lib.hid (all_get fun j x hx => by
          have hj := (List.getElem?_eq_some_iff.1 hx).1
          have : j = x := by simpa using (List.getElem?_eq_some_iff.1 hx).2
          subst this
          exact hall j (by simpa using hj))
        clear hc hall hm hm2 hmd
        go_wp2
        go_ret
        exact ⟨ret_b (by rw [HS.out]; rfl), hbr⟩
  · have hm2 : (120 : Int) < (n : Int) := by omega
    clear hc
    go_enter Tryz.func38, Tryz.ntmps38
    go_wp2
    go_ret
    exact ⟨ret_b (by simp [hm]), Below.refl _ _⟩
set_option maxHeartbeats 3200000 in
theorem haveStmts_any (pb : Nat) (P : PX) (hV : P.vars.length ≤ 4) (hN : P.news.length ≤ 2) (w : World) (h : QP w pb 0 P) : Calls Tryz.prog 39 #[.pointer (some ⟨pb, 0, none⟩)] w fun e w' => e = .returned (.bool (decide (P.sts.length ≤ 40) && P.sts.all (isStmtB P))) ∧ Below w.heap.size w w' := by
  obtain ⟨v1, v2, v3, v4, v5, h0, h1, h2, h3, h4, h5, h6, h7⟩ := h.cells
  obtain ⟨q, cap, rfl, hl, hcap, hc⟩ := h7.2.2.2.1
  obtain ⟨n, hn⟩ : ∃ n, n = P.sts.length := ⟨_, rfl⟩
  have HB := Lib.hid (And.intro hn h)
  rw [← hn]
  rw [← hn] at h5 hl hcap hc
  unfold maxLen at hl
  clear hn h h7
  by_cases hm : n ≤ 40
  · have hm2 : ¬ (40 : Int) < (n : Int) := by omega
    have hmd : decide (n ≤ 40) = true := decide_eq_true hm
    rw [hmd]
    go_enter Tryz.func39, Tryz.ntmps39
    go_wp2
    go_loopw [18] (fun v wr => ∃ i : Nat, i ≤ n ∧ v = .int .i64 (i : Nat) ∧ (∀ j x, j < i → P.sts[j]? = some x → isStmtB P x = true) ∧ Below w.heap.size w wr) (fun v _ => n - (intOf v).toNat)
    case atStart => exact ⟨0, Nat.zero_le _, rfl, fun j x hj => absurd hj (Nat.not_lt_zero _), Below.refl _ _⟩
    case round =>
      obtain ⟨i, hi, rfl, hall, hbr⟩ := hrel
      by_cases hlt : i < n
      · obtain ⟨b, o, rfl, hbs, hcell⟩ := hc (by omega)
        obtain ⟨x, hx⟩ : ∃ x, P.sts[i]? = some x := ⟨_, List.getElem?_eq_getElem (by rw [← HB.out.1]; exact hlt)⟩
        obtain ⟨vb, ve, c0, c1, c2, c3, c4, c5, c6, ib, ie⟩ := QS.below _ _ _ _ _ hbr (hcell i x hx)
        have hj3 : (i : Int) < (n : Int) := by omega
        have hbx := below_box1 wr (.cells #[.int .i64 x.op, .int .i64 x.to, .int .i64 x.kind, .int .i64 x.e, .int .i64 x.n, vb, ve] 53)
        have cX := isStmt_any pb P x vb ve hV hN _ (QP.below _ _ _ _ _ (hbr.trans (hbx.mono hbr.size)) HB.out.2) (ib.below hbx) (ie.below hbx)
        have HA := Lib.hid hall
        have HR := Lib.hid hbr
        have HX := Lib.hid hx
        obtain ⟨qb, cb, rfl, _⟩ := id ib
        obtain ⟨qe, ce, rfl, _⟩ := id ie
        generalize x.body.length = nb at *
        generalize x.els.length = ne at *
        obtain ⟨bb, hbb⟩ : ∃ bb, bb = isStmtB P x := ⟨_, rfl⟩
        rw [← hbb] at cX
        have HBB := Lib.hid hbb
        clear hcell hc hall hm hm2 hmd hbr hx hbb h0 h1 h2 h3 h5 h6 h4 ib ie hbx
        generalize x.op = xo at *
        generalize x.to = xt at *
        generalize x.kind = xk at *
        generalize x.e = xe at *
        generalize x.n = xn at *
        cases bb
        · go_wp2_with (go_at_call 58; refine cX.mono ?_; rintro e w' ⟨rfl, hb9⟩)
          go_ret
          refine ⟨ret_b ?_, (HR.out.trans ((below_box1 _ _).mono HR.out.size)).trans (hb9.mono (Nat.le_trans HR.out.size (below_box1 _ _).size))⟩
          rw [all_bad HX.out HBB.out.symm]
          rfl
        · go_wp2_with (go_at_call 58; refine cX.mono ?_; rintro e w' ⟨rfl, hb9⟩)
          go_roundw
          case rel =>
            refine ⟨i + 1, by omega, by go_num, fun j y hj hy => ?_, (HR.out.trans ((below_box1 _ _).mono HR.out.size)).trans (hb9.mono (Nat.le_trans HR.out.size (below_box1 _ _).size))⟩
            by_cases hji : j = i
            · subst hji
              rw [HX.out] at hy
              injection hy with hy
              rw [← hy]; exact HBB.out.symm
            · exact HA.out j y (by omega) hy
          case measure => simp [intOf]; omega
      · obtain rfl : i = n := by omega
        have HS : Hid (P.sts.all (isStmtB P) = true) := Lib.hid (all_get fun j x hx => hall j x (by have := (List.getElem?_eq_some_iff.1 hx).1; rw [← HB.out.1] at this; exact this) hx)
        clear hc hall hm hm2 hmd
        go_wp2
        go_ret
        exact ⟨ret_b (by rw [HS.out]; rfl), hbr⟩
  · have hm2 : (40 : Int) < (n : Int) := by omega
    clear hc
    go_enter Tryz.func39, Tryz.ntmps39
    go_wp2
    go_ret
    exact ⟨ret_b (by simp [hm]), Below.refl _ _⟩
end Go.Proofs.YtncdbjflfhfddaaGreat
