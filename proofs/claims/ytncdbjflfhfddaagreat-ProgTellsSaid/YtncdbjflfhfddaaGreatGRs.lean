/- The document on programs: statements. -/
import Derived.Test.YtncdbjflfhfddaaGreatGRx
import Derived.Test.YtncdbjflfhfddaaGreatGL
namespace Go.Proofs.YtncdbjflfhfddaaGreat
open Go.ChangeShapes Go.WideShapes Go.ChangeAt Go.RowKit Go.Joins Go.Deep
set_option linter.unusedVariables false
set_option linter.unusedSimpArgs false


theorem ext_get {l l2 : List Int} (h : l.length = l2.length) (h2 : ∀ (j : Nat), j < l.length → l[j]? = l2[j]?) : l = l2 := by
  apply List.ext_getElem?
  intro j
  rcases Nat.lt_or_ge j l.length with hj | hj
  · exact h2 j hj
  · rw [List.getElem?_eq_none hj, List.getElem?_eq_none (by omega)]
def EqP (l l2 : List Int) (w : World) (e : Ending) (w' : World) : Prop := e = .returned (.bool (decide (l = l2))) ∧ Below w.heap.size w w'
set_option maxHeartbeats 1600000 in
theorem eqNumsG (v v2 : Value) (l l2 : List Int) (w : World) (h : IsIs w v l) (h2 : IsIs w v2 l2) :
    Calls Tryz.prog 16 #[v, v2] w (EqP l l2 w) := by
  obtain ⟨q, cap, rfl, hl, _, hc⟩ := h
  obtain ⟨q2, cap2, rfl, hl2, _, hc2⟩ := h2
  obtain ⟨n, hn⟩ : ∃ n, n = l.length := ⟨_, rfl⟩
  obtain ⟨n2, hn2⟩ : ∃ n2, n2 = l2.length := ⟨_, rfl⟩
  rw [← hn] at hc hl ⊢
  rw [← hn2] at hc2 hl2 ⊢
  unfold maxLen at hl hl2
  have HN := Lib.hid (And.intro hn hn2)
  have HC := Lib.hid (And.intro hc hc2)
  clear hn hn2 hc hc2
  by_cases hnn : n = n2
  · subst hnn
    go_enter Tryz.func16, Tryz.ntmps16
    go_wp2
    go_loopw [5] (fun v wr => ∃ i : Nat, i ≤ n ∧ v = .int .i64 (i : Nat) ∧ (∀ (j : Nat), j < i → l[j]? = l2[j]?) ∧ Below w.heap.size w wr) (fun v _ => n - (intOf v).toNat)
    case atStart => exact ⟨0, Nat.zero_le _, rfl, fun j hj => absurd hj (Nat.not_lt_zero _), Below.refl _ _⟩
    case round =>
      obtain ⟨i, hi, rfl, hall, hbr⟩ := hrel
      by_cases hlt : i < n
      · obtain ⟨g, o, rfl, hg, hcell⟩ := HC.out.1 (by omega)
        obtain ⟨g2, o2, rfl, hg2, hcell2⟩ := HC.out.2 (by omega)
        obtain ⟨x, hx⟩ : ∃ x, l[i]? = some x := ⟨_, List.getElem?_eq_getElem (by rw [← HN.out.1]; exact hlt)⟩
        obtain ⟨y, hy⟩ : ∃ y, l2[i]? = some y := ⟨_, List.getElem?_eq_getElem (by rw [← HN.out.2]; exact hlt)⟩
        have c1 : wr.cell? ⟨g, o + i, none⟩ = some (.int .i64 x) := by have := cell_below (hcell i x hx) hbr; simpa [QI] using this
        have d1 : wr.cell? ⟨g2, o2 + i, none⟩ = some (.int .i64 y) := by have := cell_below (hcell2 i y hy) hbr; simpa [QI] using this
        have hj3 : (i : Int) < (n : Int) := by omega
        by_cases hxy : x = y
        · subst hxy
          have HA : Hid (∀ (j : Nat), j < i + 1 → l[j]? = l2[j]?) := Lib.hid fun j hj => by
            by_cases hji : j = i
            · subst hji; rw [hx, hy]
            · exact hall j (by omega)
          clear hcell hcell2 hall hx hy
          go_wp2
          go_quiet (fail)
          go_wp2
          go_roundw
          case rel => exact ⟨i + 1, by omega, by go_num, HA.out, hbr.trans (Joins.below_draws _ _ _)⟩
          case measure => simp [intOf]; omega
        · have hxb : (x != y) = true := bne_iff_ne.2 hxy
          have HF : Hid (decide (l = l2) = false) := Lib.hid (decide_eq_false fun h => by rw [h, hy] at hx; injection hx with hx; exact hxy hx.symm)
          clear hcell hcell2 hall hx hy hxy
          go_wp2
          go_quiet (fail)
          go_wp2
          go_ret
          exact ⟨ret_b HF.out.symm, hbr.trans (Joins.below_draws _ _ _)⟩
      · obtain rfl : i = n := by omega
        have HF : Hid (decide (l = l2) = true) := Lib.hid (decide_eq_true (ext_get (by rw [← HN.out.1, ← HN.out.2]) fun j hj => hall j (by rw [HN.out.1]; exact hj)))
        clear hall
        go_wp2
        go_ret
        exact ⟨ret_b HF.out.symm, hbr⟩
  · have hne : ((n : Int) != (n2 : Int)) = true := bne_iff_ne.2 (by omega)
    have HF : Hid (decide (l = l2) = false) := Lib.hid (decide_eq_false fun h => by apply hnn; rw [HN.out.1, HN.out.2, h])
    clear hnn
    go_enter Tryz.func16, Tryz.ntmps16
    go_wp2
    go_ret
    exact ⟨ret_b HF.out.symm, Below.refl _ _⟩
def eqSX (s t : SX) : Bool := (s.op == t.op) && (s.to == t.to) && (s.kind == t.kind) && (s.e == t.e) && (s.n == t.n) && decide (s.body = t.body) && decide (s.els = t.els)
theorem below_box2' (w : World) (o o2 : Obj) : Below w.heap.size w ((w.alloc o).alloc o2) := (below_box1 w o).alloc (below_box1 w o).size _
set_option maxHeartbeats 3200000 in
theorem eqStmt_any (op tt k e n op2 tt2 k2 e2 n2 : Int) (vb ve vb2 ve2 : Value) (bd el bd2 el2 : List Int) (w : World) (h1 : IsIs w vb bd) (h2 : IsIs w ve el) (h3 : IsIs w vb2 bd2) (h4 : IsIs w ve2 el2) :
    Calls Tryz.prog 51 #[.agg #[.int .i64 op, .int .i64 tt, .int .i64 k, .int .i64 e, .int .i64 n, vb, ve], .agg #[.int .i64 op2, .int .i64 tt2, .int .i64 k2, .int .i64 e2, .int .i64 n2, vb2, ve2]] w fun e' w' => e' = .returned (.bool (eqSX ⟨op, tt, k, e, n, bd, el⟩ ⟨op2, tt2, k2, e2, n2, bd2, el2⟩)) ∧ Below w.heap.size w w' := by
  have hbx := below_box2' w (.cells #[.int .i64 op, .int .i64 tt, .int .i64 k, .int .i64 e, .int .i64 n, vb, ve] 53) (.cells #[.int .i64 op2, .int .i64 tt2, .int .i64 k2, .int .i64 e2, .int .i64 n2, vb2, ve2] 53)
  have cB := fun w' (hb : Below w.heap.size w w') => eqNumsG vb vb2 bd bd2 w' (h1.below hb) (h3.below hb)
  have cE := fun w' (hb : Below w.heap.size w w') => eqNumsG ve ve2 el el2 w' (h2.below hb) (h4.below hb)
  unfold EqP at cB cE
  obtain ⟨qb, cb, rfl, _⟩ := id h1
  obtain ⟨qe, ce, rfl, _⟩ := id h2
  obtain ⟨qb2, cb2, rfl, _⟩ := id h3
  obtain ⟨qe2, ce2, rfl, _⟩ := id h4
  have cB1 := cB _ hbx
  have e0 : eqSX ⟨op, tt, k, e, n, bd, el⟩ ⟨op2, tt2, k2, e2, n2, bd2, el2⟩ = ((op == op2) && (tt == tt2) && (k == k2) && (e == e2) && (n == n2) && decide (bd = bd2) && decide (el = el2)) := rfl
  rw [e0]
  generalize decide (bd = bd2) = eb at *
  generalize decide (el = el2) = ee at *
  have HBX := Lib.hid hbx
  generalize bd.length = nb at *
  generalize el.length = ne at *
  generalize bd2.length = nb2 at *
  generalize el2.length = ne2 at *
  clear h1 h2 h3 h4 e0 hbx cB
  by_cases hop : op = op2
  rotate_left
  · have hopb : (op == op2) = false := beq_eq_false_iff_ne.2 hop
    go_enter Tryz.func51, Tryz.ntmps51
    go_wp2_with fail
    go_ret
    exact ⟨ret_b (by simp [*]), HBX.out⟩
  subst hop
  by_cases htt : tt = tt2
  rotate_left
  · have httb : (tt == tt2) = false := beq_eq_false_iff_ne.2 htt
    go_enter Tryz.func51, Tryz.ntmps51
    go_wp2_with fail
    go_ret
    exact ⟨ret_b (by simp [*]), HBX.out⟩
  subst htt
  by_cases hk : k = k2
  rotate_left
  · have hkb : (k == k2) = false := beq_eq_false_iff_ne.2 hk
    go_enter Tryz.func51, Tryz.ntmps51
    go_wp2_with fail
    go_ret
    exact ⟨ret_b (by simp [*]), HBX.out⟩
  subst hk
  by_cases he : e = e2
  rotate_left
  · have heb : (e == e2) = false := beq_eq_false_iff_ne.2 he
    go_enter Tryz.func51, Tryz.ntmps51
    go_wp2_with fail
    go_ret
    exact ⟨ret_b (by simp [*]), HBX.out⟩
  subst he
  by_cases hn : n = n2
  rotate_left
  · have hnb : (n == n2) = false := beq_eq_false_iff_ne.2 hn
    go_enter Tryz.func51, Tryz.ntmps51
    go_wp2_with fail
    go_ret
    exact ⟨ret_b (by simp [*]), HBX.out⟩
  subst hn
  cases eb
  · go_enter Tryz.func51, Tryz.ntmps51
    go_wp2_with fail
    refine cB1.mono ?_
    rintro e' w2 ⟨rfl, hb2⟩
    have HB2 := Lib.hid (HBX.out.trans (hb2.mono HBX.out.size))
    clear cB1 cE hb2
    go_wp2_with fail
    go_ret
    exact ⟨ret_b (by simp [*]), HB2.out⟩
  · go_enter Tryz.func51, Tryz.ntmps51
    go_wp2_with fail
    refine cB1.mono ?_
    rintro e' w2 ⟨rfl, hb2⟩
    have HB2 := Lib.hid (HBX.out.trans (hb2.mono HBX.out.size))
    have cE1 := cE w2 HB2.out
    have hbb := hb2
    have hA1 := At.below' hb2 ((At.new w #[.int .i64 op, .int .i64 tt, .int .i64 k, .int .i64 e, .int .i64 n, .slice qb nb cb, .slice qe ne ce] 53).alloc (.cells #[.int .i64 op, .int .i64 tt, .int .i64 k, .int .i64 e, .int .i64 n, .slice qb2 nb2 cb2, .slice qe2 ne2 ce2] 53))
    have hA2 := At.below' hb2 (At.new (w.alloc (.cells #[.int .i64 op, .int .i64 tt, .int .i64 k, .int .i64 e, .int .i64 n, .slice qb nb cb, .slice qe ne ce] 53)) #[.int .i64 op, .int .i64 tt, .int .i64 k, .int .i64 e, .int .i64 n, .slice qb2 nb2 cb2, .slice qe2 ne2 ce2] 53)
    rw [World.size_alloc] at hA2
    have z1 : w2.cell? ⟨w.heap.size, 6, none⟩ = some (.slice qe ne ce) := hA1.cell 6 rfl
    have z2 : w2.cell? ⟨w.heap.size + 1, 6, none⟩ = some (.slice qe2 ne2 ce2) := hA2.cell 6 rfl
    clear cB1 cE hb2 hA1 hA2 hbb
    go_wp2_with (go_at_call 16; refine cE1.mono ?_; rintro e' w3 ⟨rfl, hb3⟩)
    go_ret
    exact ⟨ret_b (by simp [*]), HB2.out.trans (hb3.mono HB2.out.size)⟩
def ofB (P : PX) (e k : Int) : Bool := upTo e 0 ((P.exs.length : Int) - 1) && ((exAt P e).kind == k)
theorem of_eq (P : PX) (e k : Int) (hk : k ≠ 0) : ofB P e k = (kindI P e P.exs.length == k) := by
  unfold ofB
  cases h : upTo e 0 ((P.exs.length : Int) - 1)
  · rw [kindI_out h]
    have : ((0 : Int) == k) = false := beq_eq_false_iff_ne.2 (Ne.symm hk)
    rw [this]; rfl
  · rw [kindI_in h]; rfl
set_option maxHeartbeats 1600000 in
theorem rOf_any (P : PX) (v1 v2 v3 v4 v5 : Value) (e k : Int) (w : World) (h : IsPr w v1 v2 v3 v4 v5 P) : Calls Tryz.prog 50 #[.agg #[.bool P.big, .int .i64 P.ptr, v1, v2, v3, v4, v5], .int .i64 e, .int .i64 k] w fun e' w' => e' = .returned (.bool (ofB P e k)) ∧ Below w.heap.size w w' := by
  have hb0 := below_box1 w (.cells #[.bool P.big, .int .i64 P.ptr, v1, v2, v3, v4, v5] 33)
  have hA := At.new w #[.bool P.big, .int .i64 P.ptr, v1, v2, v3, v4, v5] 33
  obtain ⟨w1, hw1⟩ : ∃ w1, w.alloc (.cells #[.bool P.big, .int .i64 P.ptr, v1, v2, v3, v4, v5] 33) = w1 := ⟨_, rfl⟩
  rw [hw1] at hb0 hA
  obtain ⟨q1, k1, rfl, _⟩ := id h.1
  obtain ⟨q2, k2, rfl, _⟩ := id h.2.1
  obtain ⟨q4, k4, rfl, _⟩ := id h.2.2.2.1
  obtain ⟨q5, k5, rfl, _⟩ := id h.2.2.2.2
  obtain ⟨q3, k3, rfl, hl3, hk3, hc3⟩ := id (h.below hb0).2.2.1
  have a4 : w1.cell? ⟨w.heap.size, 4, none⟩ = some (.slice q3 P.exs.length k3) := hA.cell 4 rfl
  unfold maxLen at hl3
  have ei : IntKind.i64.wrap ((P.exs.length : Int) - 1) = (P.exs.length : Int) - 1 := by rw [IntKind.wrap_i64]; omega
  have cN := fun w => Num_any e ((P.exs.length : Int) - 1) w
  have HB := Lib.hid hb0
  unfold ofB
  cases hu : upTo e 0 ((P.exs.length : Int) - 1)
  · rw [hu] at cN
    clear hc3 h hA hb0 hu
    go_enter Tryz.func50, Tryz.ntmps50
    go_wp2_with (go_at_call 45; refine (cN _).mono ?_; rintro e' w' ⟨rfl, rfl⟩)
    go_ret
    exact ⟨rfl, HB.out⟩
  · rw [hu] at cN
    have hh : 0 ≤ e ∧ e ≤ (P.exs.length : Int) - 1 := by simpa [upTo] using hu
    obtain ⟨a, rfl⟩ : ∃ a : Nat, e = (a : Int) := ⟨e.toNat, by omega⟩
    obtain ⟨eb, eo, rfl, heb, hec⟩ := hc3 (by omega)
    obtain ⟨y, hy⟩ : ∃ y, P.exs[a]? = some y := ⟨_, List.getElem?_eq_getElem (by omega)⟩
    have hyk : (exAt P (a : Nat)).kind = y.kind := by simp [exAt, List.getD_eq_getElem?_getD, hy]
    have ca := (hec a y hy).cells.2.1
    rw [hyk]
    generalize y.kind = yk at *
    have hal : (a : Int) < (P.exs.length : Int) := by omega
    clear hc3 h hA hb0 hu hec hy hyk hh
    generalize P.exs.length = nx at *
    go_enter Tryz.func50, Tryz.ntmps50
    go_wp2_with (go_at_call 45; refine (cN _).mono ?_; rintro e' w' ⟨rfl, rfl⟩)
    go_ret
    exact ⟨rfl, HB.out⟩
end Go.Proofs.YtncdbjflfhfddaaGreat
