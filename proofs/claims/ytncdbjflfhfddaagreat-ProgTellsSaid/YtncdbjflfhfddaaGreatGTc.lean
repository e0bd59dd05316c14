/- A copied program in its box, and what is changed in it. -/
import Derived.Test.YtncdbjflfhfddaaGreatGTs
namespace Go.Proofs.YtncdbjflfhfddaaGreat
open Go.ChangeShapes Go.WideShapes Go.ChangeAt Go.RowKit Go.Joins Go.Deep
set_option linter.unusedVariables false

structure CpA (B bx R : Nat) (w : World) (big : Bool) (ptr : Int) (v1 v2 v3 v4 v5 : Value) (V N : List Int) (E : List EX) (r : List TT) (M : List Int) : Prop where
  box : At w bx #[.bool big, .int .i64 ptr, v1, v2, v3, v4, v5] 33
  ge : B ≤ bx
  z1 : RowZ B V v1 w
  z2 : RowZ B N v2 w
  z3 : RowE B E v3 w
  z4 : RowT B r v4 w
  z5 : RowZ B M v5 w
  l1 : V.length ≤ R
  l2 : N.length ≤ R
  l3 : E.length ≤ R
  l4 : LeT R r
  l5 : M.length ≤ R
/-- whatever program lies in the box -/
def CpS (B bx R : Nat) (w : World) : Prop := ∃ big ptr v1 v2 v3 v4 v5 V N E r M, CpA B bx R w big ptr v1 v2 v3 v4 v5 V N E r M
section
variable {B bx R : Nat} {w w' : World} {big : Bool} {ptr : Int} {v1 v2 v3 v4 v5 : Value} {V N : List Int} {E : List EX} {r : List TT} {M : List Int}
theorem CpA.mk' (h : CpA B bx R w big ptr v1 v2 v3 v4 v5 V N E r M) : CpS B bx R w := ⟨_, _, _, _, _, _, _, _, _, _, _, _, h⟩
theorem CpA.bel (h : CpA B bx R w big ptr v1 v2 v3 v4 v5 V N E r M) (hb : Below w.heap.size w w') : CpA B bx R w' big ptr v1 v2 v3 v4 v5 V N E r M :=
  ⟨At.below' hb h.box, h.ge, h.z1.bel hb, h.z2.bel hb, h.z3.bel hb, h.z4.bel hb, h.z5.bel hb, h.l1, h.l2, h.l3, h.l4, h.l5⟩
theorem CpA.step (h : CpA B bx R w big ptr v1 v2 v3 v4 v5 V N E r M) (s : IntStep w w') : ∃ V' N' r' M', V'.length = V.length ∧ N'.length = N.length ∧ r'.length = r.length ∧ M'.length = M.length ∧ CpA B bx R w' big ptr v1 v2 v3 v4 v5 V' N' E r' M' := by
  obtain ⟨V', e1, z1⟩ := s.row h.z1
  obtain ⟨N', e2, z2⟩ := s.row h.z2
  obtain ⟨r', e4, z4, l4⟩ := s.rowT h.z4 h.l4
  obtain ⟨M', e5, z5⟩ := s.row h.z5
  exact ⟨V', N', r', M', e1, e2, e4, e5, ⟨s.2 _ _ _ (by decide) h.box, h.ge, z1, z2, s.rowE h.z3, z4, z5, by rw [e1]; exact h.l1, by rw [e2]; exact h.l2, h.l3, l4, by rw [e5]; exact h.l5⟩⟩
theorem CpA.setMain (h : CpA B bx R w big ptr v1 v2 v3 v4 v5 V N E r M) {M' : List Int} {v : Value} (hz : RowZ B M' v w) (hl : M'.length ≤ R) : CpA B bx R (w.setCell ⟨bx, 6, none⟩ v) big ptr v1 v2 v3 v4 v V N E r M' :=
  ⟨At.set h.box 6 v (by simp), h.ge, own_setT (by decide) h.box h.z1, own_setT (by decide) h.box h.z2, own_setT (by decide) h.box h.z3, rowT_setT h.box h.z4, own_setT (by decide) h.box hz, h.l1, h.l2, h.l3, h.l4, hl⟩
theorem CpA.setVars (h : CpA B bx R w big ptr v1 v2 v3 v4 v5 V N E r M) {M' : List Int} {v : Value} (hz : RowZ B M' v w) (hl : M'.length ≤ R) : CpA B bx R (w.setCell ⟨bx, 2, none⟩ v) big ptr v v2 v3 v4 v5 M' N E r M :=
  ⟨At.set h.box 2 v (by simp), h.ge, own_setT (by decide) h.box hz, own_setT (by decide) h.box h.z2, own_setT (by decide) h.box h.z3, rowT_setT h.box h.z4, own_setT (by decide) h.box h.z5, hl, h.l2, h.l3, h.l4, h.l5⟩
theorem CpA.setPtr (h : CpA B bx R w big ptr v1 v2 v3 v4 v5 V N E r M) (k : Int) : CpA B bx R (w.setCell ⟨bx, 1, none⟩ (.int .i64 k)) big k v1 v2 v3 v4 v5 V N E r M :=
  ⟨At.set h.box 1 (.int .i64 k) (by simp), h.ge, own_setT (by decide) h.box h.z1, own_setT (by decide) h.box h.z2, own_setT (by decide) h.box h.z3, rowT_setT h.box h.z4, own_setT (by decide) h.box h.z5, h.l1, h.l2, h.l3, h.l4, h.l5⟩
end
theorem exC_set (l : List EX) (i j : Nat) (k : Int) (hi : i < l.length) (hj : j < 5) : ∃ l' : List EX, l'.length = l.length ∧ (l.flatMap exC).set (i * 5 + j) (.int .i64 k) = l'.flatMap exC := by
  induction l generalizing i with
  | nil => exact absurd hi (Nat.not_lt_zero _)
  | cons y r ih =>
    cases i with
    | zero =>
      have h1 : ∃ y', (exC y).set j (.int .i64 k) = exC y' := by
        obtain ⟨a, b, c, d, e⟩ := y
        match j, hj with
        | 0, _ => exact ⟨⟨k, b, c, d, e⟩, rfl⟩
        | 1, _ => exact ⟨⟨a, k, c, d, e⟩, rfl⟩
        | 2, _ => exact ⟨⟨a, b, k, d, e⟩, rfl⟩
        | 3, _ => exact ⟨⟨a, b, c, k, e⟩, rfl⟩
        | 4, _ => exact ⟨⟨a, b, c, d, k⟩, rfl⟩
      obtain ⟨y', hy⟩ := h1
      refine ⟨y' :: r, rfl, ?_⟩
      rw [List.flatMap_cons, List.flatMap_cons, Nat.zero_mul, Nat.zero_add, List.set_append_left _ _ (by simpa [exC] using hj), hy]
    | succ i =>
      obtain ⟨l', h1, h2⟩ := ih i (by simpa using hi)
      refine ⟨y :: l', by simp [h1], ?_⟩
      rw [List.flatMap_cons, List.flatMap_cons, List.set_append_right _ _ (by simp [exC]; omega)]
      rw [show (i + 1) * 5 + j - (exC y).length = i * 5 + j by simp [exC]; omega, h2]
theorem tsC_set (l : List TT) (i j : Nat) (k : Int) (hi : i < l.length) (hj : j < 5) : ∃ l' : List TT, l'.length = l.length ∧ (l.flatMap tsC).set (i * 7 + j) (.int .i64 k) = l'.flatMap tsC ∧ ∀ t ∈ l', ∃ u ∈ l, t.1.body = u.1.body ∧ t.1.els = u.1.els ∧ t.2 = u.2 := by
  induction l generalizing i with
  | nil => exact absurd hi (Nat.not_lt_zero _)
  | cons y r ih =>
    cases i with
    | zero =>
      have h1 : ∃ y' : TT, (tsC y).set j (.int .i64 k) = tsC y' ∧ y'.1.body = y.1.body ∧ y'.1.els = y.1.els ∧ y'.2 = y.2 := by
        obtain ⟨⟨a, b, c, d, e, bd, el⟩, u1, u2⟩ := y
        match j, hj with
        | 0, _ => exact ⟨(⟨k, b, c, d, e, bd, el⟩, u1, u2), rfl, rfl, rfl, rfl⟩
        | 1, _ => exact ⟨(⟨a, k, c, d, e, bd, el⟩, u1, u2), rfl, rfl, rfl, rfl⟩
        | 2, _ => exact ⟨(⟨a, b, k, d, e, bd, el⟩, u1, u2), rfl, rfl, rfl, rfl⟩
        | 3, _ => exact ⟨(⟨a, b, c, k, e, bd, el⟩, u1, u2), rfl, rfl, rfl, rfl⟩
        | 4, _ => exact ⟨(⟨a, b, c, d, k, bd, el⟩, u1, u2), rfl, rfl, rfl, rfl⟩
      obtain ⟨y', hy, hy2⟩ := h1
      refine ⟨y' :: r, rfl, ?_, fun t ht => ?_⟩
      · rw [List.flatMap_cons, List.flatMap_cons, Nat.zero_mul, Nat.zero_add, List.set_append_left _ _ (by simp [tsC]; omega), hy]
      · rcases List.mem_cons.1 ht with rfl | ht
        · exact ⟨y, List.mem_cons_self, hy2⟩
        · exact ⟨t, List.mem_cons_of_mem _ ht, rfl, rfl, rfl⟩
    | succ i =>
      obtain ⟨l', h1, h2, h3⟩ := ih i (by simpa using hi)
      refine ⟨y :: l', by simp [h1], ?_, fun t ht => ?_⟩
      · rw [List.flatMap_cons, List.flatMap_cons, List.set_append_right _ _ (by simp [tsC]; omega)]
        rw [show (i + 1) * 7 + j - (tsC y).length = i * 7 + j by simp [tsC]; omega, h2]
      · rcases List.mem_cons.1 ht with rfl | ht
        · exact ⟨t, List.mem_cons_self, rfl, rfl, rfl⟩
        · obtain ⟨u, hu, hh⟩ := h3 t ht
          exact ⟨u, List.mem_cons_of_mem _ hu, hh⟩
theorem tsC_setB (l : List TT) (i : Nat) (v : Value) (bd : List Int) (hi : i < l.length) : ∃ l' : List TT, l'.length = l.length ∧ (l.flatMap tsC).set (i * 7 + 5) v = l'.flatMap tsC ∧ ∀ t ∈ l', ∃ u ∈ l, t.1.els = u.1.els ∧ t.2.2 = u.2.2 ∧ ((t.1.body = u.1.body ∧ t.2.1 = u.2.1) ∨ (t.1.body = bd ∧ t.2.1 = v)) := by
  induction l generalizing i with
  | nil => exact absurd hi (Nat.not_lt_zero _)
  | cons y r ih =>
    cases i with
    | zero =>
      refine ⟨({ y.1 with body := bd }, v, y.2.2) :: r, rfl, ?_, fun t ht => ?_⟩
      · rw [List.flatMap_cons, List.flatMap_cons, Nat.zero_mul, Nat.zero_add, List.set_append_left _ _ (by simp [tsC])]
        rfl
      · rcases List.mem_cons.1 ht with rfl | ht
        · exact ⟨y, List.mem_cons_self, rfl, rfl, Or.inr ⟨rfl, rfl⟩⟩
        · exact ⟨t, List.mem_cons_of_mem _ ht, rfl, rfl, Or.inl ⟨rfl, rfl⟩⟩
    | succ i =>
      obtain ⟨l', h1, h2, h3⟩ := ih i (by simpa using hi)
      refine ⟨y :: l', by simp [h1], ?_, fun t ht => ?_⟩
      · rw [List.flatMap_cons, List.flatMap_cons, List.set_append_right _ _ (by simp [tsC]; omega)]
        rw [show (i + 1) * 7 + 5 - (tsC y).length = i * 7 + 5 by simp [tsC]; omega, h2]
      · rcases List.mem_cons.1 ht with rfl | ht
        · exact ⟨t, List.mem_cons_self, rfl, rfl, Or.inl ⟨rfl, rfl⟩⟩
        · obtain ⟨u, hu, hh⟩ := h3 t ht
          exact ⟨u, List.mem_cons_of_mem _ hu, hh⟩
theorem row_at {w : World} {base e size g n c : Nat} {xs : List Value} (h : w.ownsRow base e size (.slice (some ⟨g, 0, none⟩) n c) n xs) : ∃ cur, At w g cur e ∧ cur.size = c * size ∧ n ≤ c := by
  obtain ⟨_, ⟨h0, _⟩ | ⟨g', cap, cur, he, hbb, hg, hn, hm, hc, hx⟩⟩ := h
  · cases h0
  · injection he with e1 e2 e3
    injection e1 with e1
    injection e1 with e1
    subst e1 e3
    exact ⟨cur, hg, hc, hn⟩
theorem row_some {w : World} {base e size n : Nat} {v : Value} {xs : List Value} (h : w.ownsRow base e size v n xs) (hn : 0 < n) : ∃ g c, v = .slice (some ⟨g, 0, none⟩) n c := by
  obtain ⟨g, c, hv, _⟩ := h.form hn
  exact ⟨g, c, hv⟩
section
variable {B bx R : Nat} {w w' : World} {big : Bool} {ptr : Int} {v1 v2 v3 v4 v5 : Value} {V N : List Int} {E : List EX} {r : List TT} {M : List Int}
theorem CpA.setE {g n c : Nat} (h : CpA B bx R w big ptr v1 v2 (.slice (some ⟨g, 0, none⟩) n c) v4 v5 V N E r M) (hn : E.length = n) {i j : Nat} (hi : i < n) (hj : j < 5) (k : Int) :
    (∃ a, w.cell? ⟨g, i * 5 + j, none⟩ = some a) ∧ w.frozen? ⟨g, i * 5 + j, none⟩ = false ∧ B ≤ g ∧ CpS B bx R (w.setCell ⟨g, i * 5 + j, none⟩ (.int .i64 k)) := by
  have z3 := h.z3
  unfold RowE at z3
  rw [hn] at z3
  obtain ⟨cur, hA, hcs, hnc⟩ := row_at z3
  obtain ⟨E', e1, e2⟩ := exC_set E i j k (by omega) hj
  have hst := z3.stored (i * 5 + j) (.int .i64 k)
  have hlt : i * 5 + j < cur.size := by rw [hcs]; omega
  refine ⟨⟨_, hA.cell _ (Array.getElem?_eq_getElem hlt)⟩, At.free hA _, own_geG z3 rfl, ?_⟩
  refine CpA.mk' ⟨(heap_setCell_lt w g (i * 5 + j) bx _ (fun e => by subst e; exact absurd (at_uniq hA h.box).2 (by decide))).trans h.box, h.ge, own_setT (by decide) hA h.z1, own_setT (by decide) hA h.z2, (by unfold RowE; rw [e1, hn, ← e2]; exact hst.1 : RowE B E' (.slice (some ⟨g, 0, none⟩) n c) _), ?_, own_setT (by decide) hA h.z5, h.l1, h.l2, by rw [e1]; exact h.l3, h.l4, h.l5⟩
  exact ⟨fun t ht => ⟨own_setT (by decide) hA (h.z4.1 t ht).1, own_setT (by decide) hA (h.z4.1 t ht).2⟩, own_setT (by decide) hA h.z4.2⟩
theorem CpA.setT {g n c : Nat} (h : CpA B bx R w big ptr v1 v2 v3 (.slice (some ⟨g, 0, none⟩) n c) v5 V N E r M) (hn : r.length = n) {i j : Nat} (hi : i < n) (hj : j < 5) (k : Int) :
    (∃ a, w.cell? ⟨g, i * 7 + j, none⟩ = some a) ∧ w.frozen? ⟨g, i * 7 + j, none⟩ = false ∧ B ≤ g ∧ CpS B bx R (w.setCell ⟨g, i * 7 + j, none⟩ (.int .i64 k)) := by
  have z4 := h.z4.2
  rw [hn] at z4
  obtain ⟨cur, hA, hcs, hnc⟩ := row_at z4
  obtain ⟨r', e1, e2, e3⟩ := tsC_set r i j k (by omega) hj
  have hst := z4.stored (i * 7 + j) (.int .i64 k)
  have hlt : i * 7 + j < cur.size := by rw [hcs]; omega
  refine ⟨⟨_, hA.cell _ (Array.getElem?_eq_getElem hlt)⟩, At.free hA _, own_geG z4 rfl, ?_⟩
  refine CpA.mk' (r := r') ⟨(heap_setCell_lt w g (i * 7 + j) bx _ (fun e => by subst e; exact absurd (at_uniq hA h.box).2 (by decide))).trans h.box, h.ge, own_setT (by decide) hA h.z1, own_setT (by decide) hA h.z2, own_setT (by decide) hA h.z3, (⟨fun t ht => ?_, ?_⟩ : RowT B r' (.slice (some ⟨g, 0, none⟩) n c) _), own_setT (by decide) hA h.z5, h.l1, h.l2, h.l3, ⟨by rw [e1]; exact h.l4.1, fun t ht => ?_⟩, h.l5⟩
  · obtain ⟨u, hu, a1, a2, a3⟩ := e3 t ht
    rw [a1, a2, a3]
    exact ⟨own_setT (by decide) hA (h.z4.1 u hu).1, own_setT (by decide) hA (h.z4.1 u hu).2⟩
  · rw [e1, hn, ← e2]; exact hst.1
  · obtain ⟨u, hu, a1, a2, a3⟩ := e3 t ht
    rw [a1, a2]
    exact h.l4.2 u hu
theorem CpA.setB {g n c : Nat} (h : CpA B bx R w big ptr v1 v2 v3 (.slice (some ⟨g, 0, none⟩) n c) v5 V N E r M) (hn : r.length = n) {i : Nat} (hi : i < n) {v : Value} {bd : List Int} (hz : RowZ B bd v w) (hl : bd.length ≤ R) :
    (∃ a, w.cell? ⟨g, i * 7 + 5, none⟩ = some a) ∧ w.frozen? ⟨g, i * 7 + 5, none⟩ = false ∧ B ≤ g ∧ CpS B bx R (w.setCell ⟨g, i * 7 + 5, none⟩ v) := by
  have z4 := h.z4.2
  rw [hn] at z4
  obtain ⟨cur, hA, hcs, hnc⟩ := row_at z4
  obtain ⟨r', e1, e2, e3⟩ := tsC_setB r i v bd (by omega)
  have hst := z4.stored (i * 7 + 5) v
  have hlt : i * 7 + 5 < cur.size := by rw [hcs]; omega
  refine ⟨⟨_, hA.cell _ (Array.getElem?_eq_getElem hlt)⟩, At.free hA _, own_geG z4 rfl, ?_⟩
  refine CpA.mk' (r := r') ⟨(heap_setCell_lt w g (i * 7 + 5) bx _ (fun e => by subst e; exact absurd (at_uniq hA h.box).2 (by decide))).trans h.box, h.ge, own_setT (by decide) hA h.z1, own_setT (by decide) hA h.z2, own_setT (by decide) hA h.z3, (⟨fun t ht => ?_, ?_⟩ : RowT B r' (.slice (some ⟨g, 0, none⟩) n c) _), own_setT (by decide) hA h.z5, h.l1, h.l2, h.l3, ⟨by rw [e1]; exact h.l4.1, fun t ht => ?_⟩, h.l5⟩
  · obtain ⟨u, hu, a1, a2, ⟨a3, a4⟩ | ⟨a3, a4⟩⟩ := e3 t ht
    · rw [a1, a2, a3, a4]
      exact ⟨own_setT (by decide) hA (h.z4.1 u hu).1, own_setT (by decide) hA (h.z4.1 u hu).2⟩
    · rw [a1, a2, a3, a4]
      exact ⟨own_setT (by decide) hA hz, own_setT (by decide) hA (h.z4.1 u hu).2⟩
  · rw [e1, hn, ← e2]; exact hst.1
  · obtain ⟨u, hu, a1, a2, ⟨a3, a4⟩ | ⟨a3, a4⟩⟩ := e3 t ht
    · rw [a1, a3]
      exact h.l4.2 u hu
    · rw [a1, a3]
      exact ⟨hl, (h.l4.2 u hu).2⟩
/-- the i-th statement's body -/
theorem CpA.body {g n c : Nat} (h : CpA B bx R w big ptr v1 v2 v3 (.slice (some ⟨g, 0, none⟩) n c) v5 V N E r M) (hn : r.length = n) {i : Nat} (hi : i < n) : ∃ bd q cb, w.cell? ⟨g, i * 7 + 5, none⟩ = some (.slice q bd.length cb) ∧ RowZ B bd (.slice q bd.length cb) w ∧ bd.length ≤ R := by
  obtain ⟨t, ht⟩ : ∃ t, r[i]? = some t := ⟨_, List.getElem?_eq_getElem (by omega)⟩
  have hm := List.mem_of_getElem? ht
  have hz := (h.z4.1 t hm).1
  obtain ⟨q, cb, hv⟩ := hz.form
  have z4 := h.z4.2
  rw [hn] at z4
  have hc := z4.cellAt (i * 7 + 5) (by omega)
  rw [tsC_get r i 5 t ht (by decide)] at hc
  refine ⟨t.1.body, q, cb, ?_, ?_, (h.l4.2 t hm).1⟩
  · rw [hc, ← hv]; rfl
  · rw [← hv]; exact hz
end
end Go.Proofs.YtncdbjflfhfddaaGreat
