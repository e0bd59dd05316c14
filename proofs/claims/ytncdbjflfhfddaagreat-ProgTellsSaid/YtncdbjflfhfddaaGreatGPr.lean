/- Programs as plain data, in memory; rows of anything that came in, opened. Nothing here speaks of one translation. -/
import Derived.Test.YtncdbjflfhfddaaGreatBY
import Derived.Deep.Slices
namespace Go.Proofs.YtncdbjflfhfddaaGreat
open Go.ChangeShapes Go.WideShapes Go.ChangeAt Go.RowKit Go.Joins Go.Deep
set_option linter.unusedVariables false

/-- an expression; a statement; a program -/
structure EX where
  op : Int
  kind : Int
  n : Int
  a : Int
  b : Int
instance : Inhabited EX := ⟨⟨0, 0, 0, 0, 0⟩⟩
structure SX where
  op : Int
  to : Int
  kind : Int
  e : Int
  n : Int
  body : List Int
  els : List Int
instance : Inhabited SX := ⟨⟨0, 0, 0, 0, 0, [], []⟩⟩
structure PX where
  big : Bool
  ptr : Int
  vars : List Int
  news : List Int
  exs : List EX
  sts : List SX
  main : List Int
instance : Inhabited PX := ⟨⟨false, 0, [], [], [], [], []⟩⟩
/-- a row in memory, of things of so many cells -/
def IsRow {α : Type} (Q : World → Nat → Nat → α → Prop) (k : Nat) (w : World) (v : Value) (xs : List α) : Prop :=
  ∃ q cap, v = .slice q xs.length cap ∧ xs.length ≤ maxLen ∧ xs.length ≤ cap ∧ (0 < xs.length → ∃ b off, q = some ⟨b, off, none⟩ ∧ b < w.heap.size ∧ ∀ i x, xs[i]? = some x → Q w b (off + i * k) x)
def QI (w : World) (b o : Nat) (x : Int) : Prop := w.cell? ⟨b, o, none⟩ = some (.int .i64 x)
abbrev IsIs (w : World) (v : Value) (xs : List Int) : Prop := IsRow QI 1 w v xs
def QE (w : World) (b o : Nat) (x : EX) : Prop := w.cell? ⟨b, o, none⟩ = some (.int .i64 x.op) ∧ w.cell? ⟨b, o + 1, none⟩ = some (.int .i64 x.kind) ∧ w.cell? ⟨b, o + 2, none⟩ = some (.int .i64 x.n) ∧ w.cell? ⟨b, o + 3, none⟩ = some (.int .i64 x.a) ∧ w.cell? ⟨b, o + 4, none⟩ = some (.int .i64 x.b)
abbrev IsEs (w : World) (v : Value) (xs : List EX) : Prop := IsRow QE 5 w v xs
def QS (w : World) (b o : Nat) (x : SX) : Prop := ∃ vb ve, w.cell? ⟨b, o, none⟩ = some (.int .i64 x.op) ∧ w.cell? ⟨b, o + 1, none⟩ = some (.int .i64 x.to) ∧ w.cell? ⟨b, o + 2, none⟩ = some (.int .i64 x.kind) ∧ w.cell? ⟨b, o + 3, none⟩ = some (.int .i64 x.e) ∧ w.cell? ⟨b, o + 4, none⟩ = some (.int .i64 x.n) ∧ w.cell? ⟨b, o + 5, none⟩ = some vb ∧ w.cell? ⟨b, o + 6, none⟩ = some ve ∧ IsIs w vb x.body ∧ IsIs w ve x.els
abbrev IsSs (w : World) (v : Value) (xs : List SX) : Prop := IsRow QS 7 w v xs
/-- five slices in memory are a program's -/
def IsPr (w : World) (v1 v2 v3 v4 v5 : Value) (P : PX) : Prop := IsIs w v1 P.vars ∧ IsIs w v2 P.news ∧ IsEs w v3 P.exs ∧ IsSs w v4 P.sts ∧ IsIs w v5 P.main
def QP (w : World) (b o : Nat) (x : PX) : Prop := ∃ v1 v2 v3 v4 v5, w.cell? ⟨b, o, none⟩ = some (.bool x.big) ∧ w.cell? ⟨b, o + 1, none⟩ = some (.int .i64 x.ptr) ∧ w.cell? ⟨b, o + 2, none⟩ = some v1 ∧ w.cell? ⟨b, o + 3, none⟩ = some v2 ∧ w.cell? ⟨b, o + 4, none⟩ = some v3 ∧ w.cell? ⟨b, o + 5, none⟩ = some v4 ∧ w.cell? ⟨b, o + 6, none⟩ = some v5 ∧ IsPr w v1 v2 v3 v4 v5 x
abbrev IsPs (w : World) (v : Value) (xs : List PX) : Prop := IsRow QP 7 w v xs
theorem IsRow.below {α : Type} {Q : World → Nat → Nat → α → Prop} {k : Nat} (hQ : ∀ w w' b o x, Below w.heap.size w w' → Q w b o x → Q w' b o x) {w w' : World} {v : Value} {xs : List α} (h : IsRow Q k w v xs) (hb : Below w.heap.size w w') : IsRow Q k w' v xs := by
  obtain ⟨q, cap, rfl, hl, hcap, hc⟩ := h
  refine ⟨q, cap, rfl, hl, hcap, fun hp => ?_⟩
  obtain ⟨b, off, rfl, hg, hcell⟩ := hc hp
  exact ⟨b, off, rfl, by have := hb.size; omega, fun i x hx => hQ _ _ _ _ _ hb (hcell i x hx)⟩
theorem QI.below (w w' : World) (b o : Nat) (x : Int) (hb : Below w.heap.size w w') (h : QI w b o x) : QI w' b o x := cell_below h hb
theorem QE.below (w w' : World) (b o : Nat) (x : EX) (hb : Below w.heap.size w w') (h : QE w b o x) : QE w' b o x := ⟨cell_below h.1 hb, cell_below h.2.1 hb, cell_below h.2.2.1 hb, cell_below h.2.2.2.1 hb, cell_below h.2.2.2.2 hb⟩
theorem IsIs.below {w w' : World} {v : Value} {xs : List Int} (h : IsIs w v xs) (hb : Below w.heap.size w w') : IsIs w' v xs := IsRow.below QI.below h hb
theorem IsEs.below {w w' : World} {v : Value} {xs : List EX} (h : IsEs w v xs) (hb : Below w.heap.size w w') : IsEs w' v xs := IsRow.below QE.below h hb
theorem QS.below (w w' : World) (b o : Nat) (x : SX) (hb : Below w.heap.size w w') (h : QS w b o x) : QS w' b o x := by
  obtain ⟨vb, ve, h0, h1, h2, h3, h4, h5, h6, h7, h8⟩ := h
  exact ⟨vb, ve, cell_below h0 hb, cell_below h1 hb, cell_below h2 hb, cell_below h3 hb, cell_below h4 hb, cell_below h5 hb, cell_below h6 hb, h7.below hb, h8.below hb⟩
theorem IsSs.below {w w' : World} {v : Value} {xs : List SX} (h : IsSs w v xs) (hb : Below w.heap.size w w') : IsSs w' v xs := IsRow.below QS.below h hb
theorem IsPr.below {w w' : World} {v1 v2 v3 v4 v5 : Value} {P : PX} (h : IsPr w v1 v2 v3 v4 v5 P) (hb : Below w.heap.size w w') : IsPr w' v1 v2 v3 v4 v5 P :=
  ⟨h.1.below hb, h.2.1.below hb, h.2.2.1.below hb, h.2.2.2.1.below hb, h.2.2.2.2.below hb⟩
theorem QP.below (w w' : World) (b o : Nat) (x : PX) (hb : Below w.heap.size w w') (h : QP w b o x) : QP w' b o x := by
  obtain ⟨v1, v2, v3, v4, v5, h0, h1, h2, h3, h4, h5, h6, h7⟩ := h
  exact ⟨v1, v2, v3, v4, v5, cell_below h0 hb, cell_below h1 hb, cell_below h2 hb, cell_below h3 hb, cell_below h4 hb, cell_below h5 hb, cell_below h6 hb, h7.below hb⟩
theorem IsPs.below {w w' : World} {v : Value} {xs : List PX} (h : IsPs w v xs) (hb : Below w.heap.size w w') : IsPs w' v xs := IsRow.below QP.below h hb

theorem add_noneG (bl off n : Nat) : (⟨bl, off, none⟩ : Addr).add n = ⟨bl, off + n, none⟩ := by
  unfold Addr.add
  by_cases h0 : n = 0 <;> simp [h0]
theorem row_of {α : Type} [Inhabited α] {P : Program} {t e : TypeId} (k : Nat) (Q : World → Nat → Nat → α → Prop) (ht : P.underlying t = some (.slice e)) (hk : 0 < k) (hc : P.cellsOf e = k)
    {H : Type} {enc : TypeId × Value → H} {W : World} {v : Value} {y : DataW H × List MemPlace} {m : Nat}
    (hQ : ∀ (cs' : List Value) (y : DataW H × List MemPlace) (n : Nat), cs'.length = k → DataW.trod enc P W 0 (fun _ => true) true n e cs' = some y → ∃ x, ∀ b o, (∀ j, j < k → W.cell? ⟨b, o + j, none⟩ = cs'[j]?) → Q W b o x)
    (h : DataW.trod enc P W 0 (fun _ => true) true m t [v] = some y) : ∃ xs, IsRow Q k W v xs := by
  rcases open_slice ht h with ⟨hcs, _⟩ | ⟨ad, len, cap, m, n, D, Pl, hcs, _, hl, hm, hmm, hy, hx⟩
  · simp at hcs
    subst hcs
    exact ⟨[], none, 0, rfl, Nat.zero_le _, Nat.le_refl _, fun h => absurd h (Nat.lt_irrefl 0)⟩
  · simp at hcs
    subst hcs
    obtain ⟨bl, off, spot⟩ := ad
    by_cases hpos : 0 < len
    · have hspot : spot = none := by
        obtain ⟨cs', h1, h2⟩ := hx 0 (by simp at hmm; omega)
        rw [hc] at h1
        obtain ⟨_, hlen, hcell⟩ := World.cells?_some h1
        have h3 := hcell 0 hk
        rw [List.getElem?_eq_getElem (by omega)] at h3
        simpa [Addr.add] using World.cell?_spot h3
      subst hspot
      have each : ∀ i, i < len → ∃ x : α, Q W bl (off + i * k) x := by
        intro i hi
        obtain ⟨cs', h1, h2⟩ := hx i (by simp at hmm; omega)
        rw [hc] at h1
        obtain ⟨_, hlen, hcell⟩ := World.cells?_some h1
        obtain ⟨x, hx⟩ := hQ cs' _ _ hlen h2
        refine ⟨x, hx _ _ fun j hj => ?_⟩
        have := hcell j hj
        rw [add_noneG, add_noneG] at this
        exact this
      obtain ⟨f, hf⟩ := choose_lt (α := α) each
      refine ⟨(List.range len).map f, some ⟨bl, off, none⟩, cap, by simp, by simp; omega, by simpa using hl, fun _ => ⟨bl, off, rfl, ?_, fun i x hx => ?_⟩⟩
      · obtain ⟨cs', h1, h2⟩ := hx 0 (by simp at hmm; omega)
        rw [hc] at h1
        obtain ⟨_, hlen, hcell⟩ := World.cells?_some h1
        have h3 := hcell 0 hk
        rw [List.getElem?_eq_getElem (by omega)] at h3
        have := World.block_lt_of_cell? W _ h3
        rw [add_noneG, add_noneG] at this
        exact this
      · obtain ⟨hi, hxx⟩ := List.getElem?_eq_some_iff.1 hx
        have hi2 : i < len := by simpa using hi
        have : f i = x := by simpa using hxx
        rw [← this]
        exact hf i hi2
    · obtain rfl : len = 0 := by omega
      exact ⟨[], _, cap, rfl, Nat.zero_le _, Nat.zero_le _, fun h => absurd h (Nat.lt_irrefl 0)⟩
theorem is_of {P : Program} {t ei : TypeId} (ht : P.underlying t = some (.slice ei)) (hi : P.cellsOf ei = 1 ∧ P.underlying ei = some (.int .i64))
    {H : Type} {enc : TypeId × Value → H} {W : World} {v : Value} {y : DataW H × List MemPlace} {m : Nat} (h : DataW.trod enc P W 0 (fun _ => true) true m t [v] = some y) : ∃ xs, IsIs W v xs :=
  row_of 1 QI ht (by decide) hi.1 (fun cs' y n hl ht => by
    match cs', hl with
    | [c0], _ =>
      obtain ⟨a0, e0, _⟩ := DataW.trod_int hi.2 ht
      simp at e0
      subst e0
      exact ⟨a0, fun b o hj => by have := hj 0 (by decide); simpa [QI] using this⟩) h
theorem es_of {P : Program} {t e ei : TypeId} {f0 f1 f2 f3 f4 : Field} (ht : P.underlying t = some (.slice e)) (he : P.underlying e = some (.struct #[f0, f1, f2, f3, f4])) (hc : P.cellsOf e = 5)
    (hf0 : f0.type = ei ∧ f0.offset = 0) (hf1 : f1.type = ei ∧ f1.offset = 1) (hf2 : f2.type = ei ∧ f2.offset = 2) (hf3 : f3.type = ei ∧ f3.offset = 3) (hf4 : f4.type = ei ∧ f4.offset = 4)
    (hi1 : P.cellsOf ei = 1 ∧ P.underlying ei = some (.int .i64))
    {H : Type} {enc : TypeId × Value → H} {W : World} {v : Value} {y : DataW H × List MemPlace} {m : Nat} (h : DataW.trod enc P W 0 (fun _ => true) true m t [v] = some y) : ∃ xs, IsEs W v xs :=
  row_of 5 QE ht (by decide) hc (fun cs' y n hl ht => by
    match cs', hl with
    | [c0, c1, c2, c3, c4], _ =>
      obtain ⟨xs, n', _, _, _, hxl, hf⟩ := DataW.trod_struct he ht
      obtain ⟨y0, y1, y2, y3, y4, rfl⟩ : ∃ y0 y1 y2 y3 y4, xs = [y0, y1, y2, y3, y4] := by
        match xs, hxl with
        | [y0, y1, y2, y3, y4], _ => exact ⟨y0, y1, y2, y3, y4, rfl⟩
      have t0 := hf 0 f0 rfl
      have t1 := hf 1 f1 rfl
      have t2 := hf 2 f2 rfl
      have t3 := hf 3 f3 rfl
      have t4 := hf 4 f4 rfl
      rw [hf0.1, hf0.2, hi1.1] at t0
      rw [hf1.1, hf1.2, hi1.1] at t1
      rw [hf2.1, hf2.2, hi1.1] at t2
      rw [hf3.1, hf3.2, hi1.1] at t3
      rw [hf4.1, hf4.2, hi1.1] at t4
      simp only [List.drop_zero, List.drop_succ_cons, List.take_succ_cons, List.take_zero, List.getElem?_cons_zero, List.getElem?_cons_succ] at t0 t1 t2 t3 t4
      obtain ⟨a0, e0, _⟩ := DataW.trod_int hi1.2 t0
      obtain ⟨a1, e1, _⟩ := DataW.trod_int hi1.2 t1
      obtain ⟨a2, e2, _⟩ := DataW.trod_int hi1.2 t2
      obtain ⟨a3, e3, _⟩ := DataW.trod_int hi1.2 t3
      obtain ⟨a4, e4, _⟩ := DataW.trod_int hi1.2 t4
      simp at e0 e1 e2 e3 e4
      subst e0 e1 e2 e3 e4
      exact ⟨⟨a0, a1, a2, a3, a4⟩, fun b o hj => ⟨by simpa using hj 0 (by decide), by simpa using hj 1 (by decide), by simpa using hj 2 (by decide), by simpa using hj 3 (by decide), by simpa using hj 4 (by decide)⟩⟩) h
theorem ss_of {P : Program} {t e ei es : TypeId} {f0 f1 f2 f3 f4 f5 f6 : Field} (ht : P.underlying t = some (.slice e)) (he : P.underlying e = some (.struct #[f0, f1, f2, f3, f4, f5, f6])) (hc : P.cellsOf e = 7)
    (hf0 : f0.type = ei ∧ f0.offset = 0) (hf1 : f1.type = ei ∧ f1.offset = 1) (hf2 : f2.type = ei ∧ f2.offset = 2) (hf3 : f3.type = ei ∧ f3.offset = 3) (hf4 : f4.type = ei ∧ f4.offset = 4) (hf5 : f5.type = es ∧ f5.offset = 5) (hf6 : f6.type = es ∧ f6.offset = 6)
    (hi1 : P.cellsOf ei = 1 ∧ P.underlying ei = some (.int .i64)) (hs1 : P.cellsOf es = 1 ∧ P.underlying es = some (.slice ei))
    {H : Type} {enc : TypeId × Value → H} {W : World} {v : Value} {y : DataW H × List MemPlace} {m : Nat} (h : DataW.trod enc P W 0 (fun _ => true) true m t [v] = some y) : ∃ xs, IsSs W v xs :=
  row_of 7 QS ht (by decide) hc (fun cs' y n hl ht => by
    match cs', hl with
    | [c0, c1, c2, c3, c4, c5, c6], _ =>
      obtain ⟨xs, n', _, _, _, hxl, hf⟩ := DataW.trod_struct he ht
      obtain ⟨y0, y1, y2, y3, y4, y5, y6, rfl⟩ : ∃ y0 y1 y2 y3 y4 y5 y6, xs = [y0, y1, y2, y3, y4, y5, y6] := by
        match xs, hxl with
        | [y0, y1, y2, y3, y4, y5, y6], _ => exact ⟨y0, y1, y2, y3, y4, y5, y6, rfl⟩
      have t0 := hf 0 f0 rfl
      have t1 := hf 1 f1 rfl
      have t2 := hf 2 f2 rfl
      have t3 := hf 3 f3 rfl
      have t4 := hf 4 f4 rfl
      have t5 := hf 5 f5 rfl
      have t6 := hf 6 f6 rfl
      rw [hf0.1, hf0.2, hi1.1] at t0
      rw [hf1.1, hf1.2, hi1.1] at t1
      rw [hf2.1, hf2.2, hi1.1] at t2
      rw [hf3.1, hf3.2, hi1.1] at t3
      rw [hf4.1, hf4.2, hi1.1] at t4
      rw [hf5.1, hf5.2, hs1.1] at t5
      rw [hf6.1, hf6.2, hs1.1] at t6
      simp only [List.drop_zero, List.drop_succ_cons, List.take_succ_cons, List.take_zero, List.getElem?_cons_zero, List.getElem?_cons_succ] at t0 t1 t2 t3 t4 t5 t6
      obtain ⟨a0, e0, _⟩ := DataW.trod_int hi1.2 t0
      obtain ⟨a1, e1, _⟩ := DataW.trod_int hi1.2 t1
      obtain ⟨a2, e2, _⟩ := DataW.trod_int hi1.2 t2
      obtain ⟨a3, e3, _⟩ := DataW.trod_int hi1.2 t3
      obtain ⟨a4, e4, _⟩ := DataW.trod_int hi1.2 t4
      obtain ⟨x5, h5⟩ := is_of hs1.2 hi1 t5
      obtain ⟨x6, h6⟩ := is_of hs1.2 hi1 t6
      simp at e0 e1 e2 e3 e4
      subst e0 e1 e2 e3 e4
      exact ⟨⟨a0, a1, a2, a3, a4, x5, x6⟩, fun b o hj => ⟨c5, c6, by simpa using hj 0 (by decide), by simpa using hj 1 (by decide), by simpa using hj 2 (by decide), by simpa using hj 3 (by decide), by simpa using hj 4 (by decide), by simpa using hj 5 (by decide), by simpa using hj 6 (by decide), h5, h6⟩⟩) h
theorem ps_of {P : Program} {t e ea eb ei es te ee ts se : TypeId} {f0 f1 f2 f3 f4 f5 a0 a1 e0 e1 e2 e3 e4 s0 s1 s2 s3 s4 s5 s6 : Field} (ht : P.underlying t = some (.slice e)) (he : P.underlying e = some (.struct #[f0, f1, f2, f3, f4, f5])) (hc : P.cellsOf e = 7)
    (hf0 : f0.type = ea ∧ f0.offset = 0) (hf1 : f1.type = es ∧ f1.offset = 2) (hf2 : f2.type = es ∧ f2.offset = 3) (hf3 : f3.type = te ∧ f3.offset = 4) (hf4 : f4.type = ts ∧ f4.offset = 5) (hf5 : f5.type = es ∧ f5.offset = 6)
    (hea : P.cellsOf ea = 2 ∧ P.underlying ea = some (.struct #[a0, a1])) (ha0 : a0.type = eb ∧ a0.offset = 0) (ha1 : a1.type = ei ∧ a1.offset = 1) (hb1 : P.cellsOf eb = 1 ∧ P.underlying eb = some .bool)
    (hi1 : P.cellsOf ei = 1 ∧ P.underlying ei = some (.int .i64)) (hs1 : P.cellsOf es = 1 ∧ P.underlying es = some (.slice ei))
    (hte : P.cellsOf te = 1 ∧ P.underlying te = some (.slice ee)) (hee : P.cellsOf ee = 5 ∧ P.underlying ee = some (.struct #[e0, e1, e2, e3, e4]))
    (he0 : e0.type = ei ∧ e0.offset = 0) (he1 : e1.type = ei ∧ e1.offset = 1) (he2 : e2.type = ei ∧ e2.offset = 2) (he3 : e3.type = ei ∧ e3.offset = 3) (he4 : e4.type = ei ∧ e4.offset = 4)
    (hts : P.cellsOf ts = 1 ∧ P.underlying ts = some (.slice se)) (hse : P.cellsOf se = 7 ∧ P.underlying se = some (.struct #[s0, s1, s2, s3, s4, s5, s6]))
    (hs_0 : s0.type = ei ∧ s0.offset = 0) (hs_1 : s1.type = ei ∧ s1.offset = 1) (hs_2 : s2.type = ei ∧ s2.offset = 2) (hs_3 : s3.type = ei ∧ s3.offset = 3) (hs_4 : s4.type = ei ∧ s4.offset = 4) (hs_5 : s5.type = es ∧ s5.offset = 5) (hs_6 : s6.type = es ∧ s6.offset = 6)
    {H : Type} {enc : TypeId × Value → H} {W : World} {v : Value} {y : DataW H × List MemPlace} {m : Nat} (h : DataW.trod enc P W 0 (fun _ => true) true m t [v] = some y) : ∃ xs, IsPs W v xs :=
  row_of 7 QP ht (by decide) hc (fun cs' y n hl ht => by
    match cs', hl with
    | [c0, c1, c2, c3, c4, c5, c6], _ =>
      obtain ⟨xs, n', _, _, _, hxl, hf⟩ := DataW.trod_struct he ht
      obtain ⟨y0, y1, y2, y3, y4, y5, rfl⟩ : ∃ y0 y1 y2 y3 y4 y5, xs = [y0, y1, y2, y3, y4, y5] := by
        match xs, hxl with
        | [y0, y1, y2, y3, y4, y5], _ => exact ⟨y0, y1, y2, y3, y4, y5, rfl⟩
      have t0 := hf 0 f0 rfl
      have t1 := hf 1 f1 rfl
      have t2 := hf 2 f2 rfl
      have t3 := hf 3 f3 rfl
      have t4 := hf 4 f4 rfl
      have t5 := hf 5 f5 rfl
      rw [hf0.1, hf0.2, hea.1] at t0
      rw [hf1.1, hf1.2, hs1.1] at t1
      rw [hf2.1, hf2.2, hs1.1] at t2
      rw [hf3.1, hf3.2, hte.1] at t3
      rw [hf4.1, hf4.2, hts.1] at t4
      rw [hf5.1, hf5.2, hs1.1] at t5
      simp only [List.drop_zero, List.drop_succ_cons, List.take_succ_cons, List.take_zero, List.getElem?_cons_zero, List.getElem?_cons_succ] at t0 t1 t2 t3 t4 t5
      obtain ⟨xa, n2, _, _, _, hxl2, hfa⟩ := DataW.trod_struct hea.2 t0
      obtain ⟨z0, z1, rfl⟩ : ∃ z0 z1, xa = [z0, z1] := by
        match xa, hxl2 with
        | [z0, z1], _ => exact ⟨z0, z1, rfl⟩
      have u0 := hfa 0 a0 rfl
      have u1 := hfa 1 a1 rfl
      rw [ha0.1, ha0.2, hb1.1] at u0
      rw [ha1.1, ha1.2, hi1.1] at u1
      simp only [List.drop_zero, List.drop_succ_cons, List.take_succ_cons, List.take_zero, List.getElem?_cons_zero, List.getElem?_cons_succ] at u0 u1
      obtain ⟨b0, g0, _⟩ := DataW.trod_bool hb1.2 u0
      obtain ⟨n1, g1, _⟩ := DataW.trod_int hi1.2 u1
      obtain ⟨x1, h1⟩ := is_of hs1.2 hi1 t1
      obtain ⟨x2, h2⟩ := is_of hs1.2 hi1 t2
      obtain ⟨x3, h3⟩ := es_of hte.2 hee.2 hee.1 he0 he1 he2 he3 he4 hi1 t3
      obtain ⟨x4, h4⟩ := ss_of hts.2 hse.2 hse.1 hs_0 hs_1 hs_2 hs_3 hs_4 hs_5 hs_6 hi1 hs1 t4
      obtain ⟨x5, h5⟩ := is_of hs1.2 hi1 t5
      simp at g0 g1
      subst g0 g1
      exact ⟨⟨b0, n1, x1, x2, x3, x4, x5⟩, fun b o hj => ⟨c2, c3, c4, c5, c6, by simpa using hj 0 (by decide), by simpa using hj 1 (by decide), by simpa using hj 2 (by decide), by simpa using hj 3 (by decide), by simpa using hj 4 (by decide), by simpa using hj 5 (by decide), by simpa using hj 6 (by decide), h1, h2, h3, h4, h5⟩⟩) h
end Go.Proofs.YtncdbjflfhfddaaGreat
