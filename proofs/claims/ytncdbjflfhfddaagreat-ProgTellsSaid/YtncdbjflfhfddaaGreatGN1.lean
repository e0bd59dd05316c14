/- The program that ProgNested copies, and its copies. -/
import Derived.Test.YtncdbjflfhfddaaGreatGN0
namespace Go.Proofs.YtncdbjflfhfddaaGreat
open Go.ChangeShapes Go.WideShapes Go.ChangeAt Go.RowKit Go.Joins Go.Deep
set_option linter.unusedVariables false

def gE : List EX := [⟨2, 7, 1, 0, 0⟩, ⟨1, 6, 1, 0, 0⟩]
def gS1 : SX := ⟨5, 0, 0, 1, 0, [1], []⟩
def gS2 : SX := ⟨3, 0, 0, 0, 2, [], []⟩
def gS3 : SX := ⟨7, 0, 0, 0, 0, [], []⟩
def gP : PX := ⟨false, 4, [4], [4], gE, [gS1, gS2], [0]⟩
def lP : PX := ⟨false, 4, [4], [4], gE, [{ gS1 with op := 6 }, gS2], [0]⟩
def tP : PX := ⟨false, 4, [4], [4], gE, [gS1, gS2, gS2], [0, 2]⟩
def aP : PX := ⟨false, 4, [4], [4], gE, [gS1, gS2], [0, 1]⟩
def oP : PX := ⟨false, 4, [4], [4], gE, [gS1, gS2, gS3], [0]⟩
set_option maxRecDepth 100000 in
theorem gP_ok : progB gP = true := by decide
set_option maxRecDepth 100000 in
theorem lP_no : progB lP = false := by decide
set_option maxRecDepth 100000 in
theorem tP_no : progB tP = false := by decide
set_option maxRecDepth 100000 in
theorem aP_no : progB aP = false := by decide
set_option maxRecDepth 100000 in
theorem oP_no : progB oP = false := by decide
theorem isE_two {w : World} {b : Nat} (h : At w b #[.int .i64 2, .int .i64 7, .int .i64 1, .int .i64 0, .int .i64 0, .int .i64 1, .int .i64 6, .int .i64 1, .int .i64 0, .int .i64 0] 50) : IsEs w (.slice (some ⟨b, 0, none⟩) 2 2) gE :=
  RowE.is (base := 0) ⟨rfl, Or.inr ⟨b, 2, _, rfl, Nat.zero_le _, h, Nat.le_refl _, by unfold maxLen; omega, rfl, rfl⟩⟩ (by simp [maxLen, gE])
theorem isI_two {w : World} {b : Nat} {x y : Int} (h : At w b #[.int .i64 x, .int .i64 y] 3) : IsIs w (.slice (some ⟨b, 0, none⟩) 2 2) [x, y] :=
  RowZ.is (base := 0) ⟨rfl, Or.inr ⟨b, 2, _, rfl, Nat.zero_le _, h, Nat.le_refl _, by unfold maxLen; omega, rfl, rfl⟩⟩ (by simp [maxLen])
theorem isS_good {w : World} {b c : Nat} (h : At w b #[.int .i64 5, .int .i64 0, .int .i64 0, .int .i64 1, .int .i64 0, .slice (some ⟨c, 0, none⟩) 1 1, .slice none 0 0, .int .i64 3, .int .i64 0, .int .i64 0, .int .i64 0, .int .i64 2, .slice none 0 0, .slice none 0 0] 53)
    (hc : At w c #[.int .i64 1] 3) : IsSs w (.slice (some ⟨b, 0, none⟩) 2 2) [gS1, gS2] :=
  RowT.is (base := 0) (r := [(gS1, .slice (some ⟨c, 0, none⟩) 1 1, .slice none 0 0), (gS2, .slice none 0 0, .slice none 0 0)])
    ⟨fun t ht => by
      rcases List.mem_cons.1 ht with rfl | ht
      · exact ⟨rowZ_one hc (Nat.zero_le _), RowZ.nil _ _⟩
      · obtain rfl := List.mem_singleton.1 ht
        exact ⟨RowZ.nil _ _, RowZ.nil _ _⟩, rfl, Or.inr ⟨b, 2, _, rfl, Nat.zero_le _, h, Nat.le_refl _, by unfold maxLen; omega, rfl, rfl⟩⟩
    (by simp [maxLen]) (fun t ht => by
      rcases List.mem_cons.1 ht with rfl | ht
      · simp [maxLen, gS1]
      · obtain rfl := List.mem_singleton.1 ht
        simp [maxLen, gS2])
/-- rows of other things keep, what is stored in a row of statements -/
theorem rowZ_set {base g j : Nat} {l : List Int} {v x : Value} {w : World} {cur : Array Value} (hg : At w g cur 53) (h : RowZ base l v w) : RowZ base l v (w.setCell ⟨g, j, none⟩ x) := by
  obtain ⟨hl2, ⟨h0, h1⟩ | ⟨g2, cap2, cur2, he2, hb2, hg2, hr2⟩⟩ := h
  · exact ⟨hl2, Or.inl ⟨h0, h1⟩⟩
  · refine ⟨hl2, Or.inr ⟨g2, cap2, cur2, he2, hb2, ?_, hr2⟩⟩
    have hne : g2 ≠ g := fun e => by
      subst e
      have := hg2.symm.trans hg
      simp at this
    exact (heap_setCell_lt w g j g2 _ hne).trans hg2
theorem rowE_set {base g j : Nat} {l : List EX} {v x : Value} {w : World} {cur : Array Value} (hg : At w g cur 53) (h : RowE base l v w) : RowE base l v (w.setCell ⟨g, j, none⟩ x) := by
  obtain ⟨hl2, ⟨h0, h1⟩ | ⟨g2, cap2, cur2, he2, hb2, hg2, hr2⟩⟩ := h
  · exact ⟨hl2, Or.inl ⟨h0, h1⟩⟩
  · refine ⟨hl2, Or.inr ⟨g2, cap2, cur2, he2, hb2, ?_, hr2⟩⟩
    have hne : g2 ≠ g := fun e => by
      subst e
      have := hg2.symm.trans hg
      simp at this
    exact (heap_setCell_lt w g j g2 _ hne).trans hg2
theorem rowE_keptS {base b2 : Nat} {l : List EX} {v u : Value} {n : Nat} {xs : List Value} {w w' : World} (h : RowE base l v w) (hown : w.ownsRow b2 53 7 u n xs) (hg : w.grownBy w' u.ownBlock) : RowE base l v w' := by
  refine World.ownsRow.kept h hg ?_
  obtain ⟨_, ⟨rfl, _⟩ | ⟨g, cap, cur, rfl, _, hgc, _⟩⟩ := h
  · exact Or.inl rfl
  · refine Or.inr fun hh => ?_
    obtain ⟨_, ⟨rfl, _⟩ | ⟨g', cap', cur', rfl, _, hg', _⟩⟩ := hown
    · simp [Value.ownBlock] at hh
    · simp [Value.ownBlock] at hh
      subst hh
      have := hgc.symm.trans hg'
      simp at this
/-- rows keep, what is stored in a box of another type -/
theorem own_setT {base e size g j n : Nat} {xs : List Value} {v x : Value} {w : World} {cur : Array Value} {t : TypeId} (ht : e ≠ t) (hg : At w g cur t) (h : w.ownsRow base e size v n xs) : (w.setCell ⟨g, j, none⟩ x).ownsRow base e size v n xs := by
  obtain ⟨hl2, ⟨h0, h1⟩ | ⟨g2, cap2, cur2, he2, hb2, hg2, hr2⟩⟩ := h
  · exact ⟨hl2, Or.inl ⟨h0, h1⟩⟩
  · refine ⟨hl2, Or.inr ⟨g2, cap2, cur2, he2, hb2, ?_, hr2⟩⟩
    have hne : g2 ≠ g := fun e9 => by
      subst e9
      have := hg2.symm.trans hg
      simp only [Option.some.injEq, Obj.cells.injEq] at this
      exact ht this.2.1
    exact (heap_setCell_lt w g j g2 _ hne).trans hg2
theorem rowT_setT {base g j : Nat} {r : List (SX × Value × Value)} {v x : Value} {w : World} {cur : Array Value} (hg : At w g cur 33) (h : RowT base r v w) : RowT base r v (w.setCell ⟨g, j, none⟩ x) :=
  ⟨fun t ht => ⟨own_setT (by decide) hg (h.1 t ht).1, own_setT (by decide) hg (h.1 t ht).2⟩, own_setT (by decide) hg h.2⟩
theorem RowT.at0 {base : Nat} {t : SX × Value × Value} {r : List (SX × Value × Value)} {g n k : Nat} {w : World} (h : RowT base (t :: r) (.slice (some ⟨g, 0, none⟩) n k) w) : ∃ cur, At w g cur 53 := by
  obtain ⟨hz, hlen, ⟨h0, _⟩ | ⟨g', cap, cur, he, hbb, hg, hn, hm, hc, hx⟩⟩ := h
  · cases h0
  · simp only [Value.slice.injEq, Option.some.injEq, Addr.mk.injEq, and_true] at he
    obtain ⟨rfl, hnn, rfl⟩ := he
    exact ⟨cur, hg⟩
/-- the first statement's kind is set in place -/
theorem rowT_op {base : Nat} {t : SX × Value × Value} {r : List (SX × Value × Value)} {g n k : Nat} {w : World} (h : RowT base (t :: r) (.slice (some ⟨g, 0, none⟩) n k) w) (x : Int) :
    base ≤ g ∧ g < w.heap.size ∧ w.cell? ⟨g, 0, none⟩ = some (.int .i64 t.1.op) ∧ w.frozen? ⟨g, 0, none⟩ = false ∧ RowT base (({ t.1 with op := x }, t.2) :: r) (.slice (some ⟨g, 0, none⟩) n k) (w.setCell ⟨g, 0, none⟩ (.int .i64 x)) := by
  obtain ⟨hz, hlen, ⟨h0, _⟩ | ⟨g', cap, cur, he, hbb, hg, hn, hm, hc, hx⟩⟩ := h
  · cases h0
  · simp only [Value.slice.injEq, Option.some.injEq, Addr.mk.injEq, and_true] at he
    obtain ⟨rfl, hnn, rfl⟩ := he
    have hA : At w g cur 53 := hg
    obtain ⟨c0, cr, hcur⟩ : ∃ c0 cr, cur.toList = c0 :: cr := by
      cases hcl : cur.toList with
      | nil =>
        rw [hcl] at hx
        simp [tsC] at hx
      | cons a b => exact ⟨a, b, rfl⟩
    have hx2 := hx
    rw [hcur] at hx2
    have hl1 : (t :: r).length * 7 = (r.length * 7 + 6) + 1 := by rw [List.length_cons]; omega
    rw [hl1, List.take_succ_cons] at hx2
    have hfl : (t :: r).flatMap tsC = .int .i64 t.1.op :: ([.int .i64 t.1.to, .int .i64 t.1.kind, .int .i64 t.1.e, .int .i64 t.1.n, t.2.1, t.2.2] ++ r.flatMap tsC) := rfl
    rw [hfl] at hx2
    obtain ⟨hc0, hcr⟩ := List.cons.inj hx2
    subst hc0
    have hcs : 0 < cur.size := by rw [← Array.length_toList, hcur]; simp
    have hc00 : cur[0]? = some (.int .i64 t.1.op) := by rw [← Array.getElem?_toList, hcur]; rfl
    refine ⟨hbb, hA.lt, hA.cell 0 hc00, At.free hA 0, fun u hu => ?_, ?_⟩
    · have hkeep : ∀ {l : List Int} {v : Value}, RowZ base l v w → RowZ base l v (w.setCell ⟨g, 0, none⟩ (.int .i64 x)) := fun {l v} hR => by
        obtain ⟨hl2, ⟨h0, h1⟩ | ⟨g2, cap2, cur2, he2, hb2, hg2, hr2⟩⟩ := hR
        · exact ⟨hl2, Or.inl ⟨h0, h1⟩⟩
        · refine ⟨hl2, Or.inr ⟨g2, cap2, cur2, he2, hb2, ?_, hr2⟩⟩
          have hne : g2 ≠ g := fun e => by
            subst e
            have := hg2.symm.trans hg
            simp at this
          exact (heap_setCell_lt w g 0 g2 _ hne).trans hg2
      rcases List.mem_cons.1 hu with rfl | hu
      · exact ⟨hkeep (hz t List.mem_cons_self).1, hkeep (hz t List.mem_cons_self).2⟩
      · exact ⟨hkeep (hz u (List.mem_cons_of_mem _ hu)).1, hkeep (hz u (List.mem_cons_of_mem _ hu)).2⟩
    · have hA2 := At.set hA 0 (.int .i64 x) hcs
      refine ⟨by simpa [tsC] using hlen, Or.inr ⟨g, k, _, by rw [hnn]; rfl, hbb, hA2, hn, hm, by simpa using hc, ?_⟩⟩
      rw [show (({ t.1 with op := x }, t.2) :: r : List (SX × Value × Value)).length * 7 = (r.length * 7 + 6) + 1 from hl1]
      rw [show ((({ t.1 with op := x }, t.2) :: r : List (SX × Value × Value)).flatMap tsC) = .int .i64 x :: ([.int .i64 t.1.to, .int .i64 t.1.kind, .int .i64 t.1.e, .int .i64 t.1.n, t.2.1, t.2.2] ++ r.flatMap tsC) from rfl]
      rw [← hcr]
      simp [Array.toList_setIfInBounds, hcur]
theorem two_of {r : List (SX × Value × Value)} {a b : SX} (h : r.map (fun t => t.1) = [a, b]) : ∃ t1 t2, r = [t1, t2] := by
  cases r with
  | nil => simp at h
  | cons t1 r => cases r with
    | nil => simp at h
    | cons t2 r => cases r with
      | nil => exact ⟨t1, t2, rfl⟩
      | cons t3 r => simp at h
def CpyP (w : World) (e : Ending) (w' : World) : Prop :=
  ∃ q1 k1 q2 k2 q3 k3 g4 k4 q5 k5 u1 u2, e = .returned (.agg #[.bool false, .int .i64 4, .slice q1 1 k1, .slice q2 1 k2, .slice q3 2 k3, .slice (some ⟨g4, 0, none⟩) 2 k4, .slice q5 1 k5]) ∧
    RowZ w.heap.size [4] (.slice q1 1 k1) w' ∧ RowZ w.heap.size [4] (.slice q2 1 k2) w' ∧ RowE w.heap.size gE (.slice q3 2 k3) w' ∧ RowT w.heap.size [(gS1, u1), (gS2, u2)] (.slice (some ⟨g4, 0, none⟩) 2 k4) w' ∧ RowZ w.heap.size [0] (.slice q5 1 k5) w' ∧ Below w.heap.size w w'
theorem cpy_any (v1 v2 v3 v4 v5 : Value) (w : World) (h : IsPr w v1 v2 v3 v4 v5 gP) : Calls Tryz.prog 6 #[.agg #[.bool false, .int .i64 4, v1, v2, v3, v4, v5]] w (CpyP w) := by
  refine (copyProgram_any false 4 v1 v2 v3 v4 v5 [4] [4] gE [gS1, gS2] [0] (by decide) (by decide) (by decide) (by decide) (by decide) (by decide) w h.1 h.2.1 h.2.2.1 h.2.2.2.1 h.2.2.2.2).mono ?_
  rintro e w' ⟨a1, a2, a3, a4, a5, rfl, z1, z2, z3, ⟨r, hr, z4⟩, z5, hb⟩
  obtain ⟨q1, k1, rfl⟩ := z1.form
  obtain ⟨q2, k2, rfl⟩ := z2.form
  obtain ⟨q3, k3, rfl⟩ := z3.form
  obtain ⟨q5, k5, rfl⟩ := z5.form
  obtain ⟨t1, t2, rfl⟩ : ∃ t1 t2, r = [t1, t2] := two_of hr
  obtain ⟨s1, u1⟩ := t1
  obtain ⟨s2, u2⟩ := t2
  simp only [List.map_cons, List.map_nil, List.cons.injEq, and_true] at hr
  obtain ⟨rfl, rfl⟩ := hr
  obtain ⟨g4, k4, rfl⟩ : ∃ g k, a4 = .slice (some ⟨g, 0, none⟩) 2 k := by
    rcases z4.2.2 with ⟨_, h1⟩ | ⟨g, cap, cur, h0, _⟩
    · cases h1
    · exact ⟨g, cap, h0⟩
  exact ⟨q1, k1, q2, k2, q3, k3, g4, k4, q5, k5, u1, u2, rfl, z1, z2, z3, z4, z5, hb⟩
end Go.Proofs.YtncdbjflfhfddaaGreat
