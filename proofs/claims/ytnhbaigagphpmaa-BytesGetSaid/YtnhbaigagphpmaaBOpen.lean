/- Slices of scalars, and of bytes, that came in. -/
import Derived.Test.YtnhbaigagphpmaaBRead
namespace Go.Proofs.Ytnhbaigagphpmaa
open Go.ChangeShapes Go.WideShapes Go.ChangeAt Go.RowKit Go.Joins Go.Deep
set_option linter.unusedVariables false

def ScCells (w : World) (b o : Nat) (x : SC) : Prop :=
  w.cell? ⟨b, o, none⟩ = some (.bool x.p) ∧ w.cell? ⟨b, o + 1, none⟩ = some (.int .i64 x.n) ∧ w.cell? ⟨b, o + 2, none⟩ = some (.int .i64 x.b) ∧ w.cell? ⟨b, o + 3, none⟩ = some (.int .i64 x.o)
/-- slices that came in -/
def InScs (w : World) (p : Option Addr) (len cap : Nat) (xs : List SC) : Prop :=
  xs.length = len ∧ (p = none → len = 0 ∧ cap = 0) ∧ (0 < len → ∃ b off, p = some ⟨b, off, none⟩ ∧ b < w.heap.size ∧ ∀ i, i < len → ScCells w b (off + i * 4) (xs.getD i default))
def InBys (w : World) (p : Option Addr) (len cap : Nat) (xs : List BY) : Prop :=
  xs.length = len ∧ len ≤ cap ∧ (p = none → len = 0 ∧ cap = 0) ∧ (0 < len → ∃ b off, p = some ⟨b, off, none⟩ ∧ b < w.heap.size ∧ ∀ i, i < len → ByCells w b (off + i * 5) (xs.getD i default))
theorem ScCells.below {w w' : World} {b o : Nat} {v : SC} (h : ScCells w b o v) (hb : Below w.heap.size w w') : ScCells w' b o v :=
  ⟨cell_below h.1 hb, cell_below h.2.1 hb, cell_below h.2.2.1 hb, cell_below h.2.2.2 hb⟩
theorem add_none (bl off n : Nat) : (⟨bl, off, none⟩ : Addr).add n = ⟨bl, off + n, none⟩ := by
  unfold Addr.add
  by_cases h0 : n = 0 <;> simp [h0]
theorem scs_of {P : Program} {t e eb ei : TypeId} {f0 f1 f2 f3 : Field} (ht : P.underlying t = some (.slice e)) (he : P.underlying e = some (.struct #[f0, f1, f2, f3])) (hc : P.cellsOf e = 4)
    (hf0 : f0.type = eb ∧ f0.offset = 0) (hf1 : f1.type = ei ∧ f1.offset = 1) (hf2 : f2.type = ei ∧ f2.offset = 2) (hf3 : f3.type = ei ∧ f3.offset = 3)
    (hb1 : P.cellsOf eb = 1 ∧ P.underlying eb = some .bool) (hi1 : P.cellsOf ei = 1 ∧ P.underlying ei = some (.int .i64))
    {H : Type} {enc : TypeId × Value → H} {W : World} {v : Value} {y : DataW H × List MemPlace} {m : Nat} (h : DataW.trod enc P W 0 (fun _ => true) true m t [v] = some y) :
    ∃ p len cap xs, v = .slice p len cap ∧ InScs W p len cap xs ∧ (len = 0 ∨ ∃ elems spare, y.1 = .slice elems spare ∧ elems.length = len) := by
  rcases open_slice ht h with ⟨hcs, _⟩ | ⟨ad, len, cap, m, n, D, Pl, hcs, _, hl, hm, hmm, hy, hx⟩
  · simp at hcs
    subst hcs
    exact ⟨none, 0, 0, [], rfl, ⟨rfl, fun _ => ⟨rfl, rfl⟩, fun h => absurd h (by omega)⟩, Or.inl rfl⟩
  · simp at hcs
    subst hcs
    have each : ∀ i, i < len → ∃ x : SC, W.cell? (ad.add (i * 4)) = some (.bool x.p) ∧ W.cell? (ad.add (i * 4 + 1)) = some (.int .i64 x.n) ∧ W.cell? (ad.add (i * 4 + 2)) = some (.int .i64 x.b) ∧ W.cell? (ad.add (i * 4 + 3)) = some (.int .i64 x.o) := by
      intro i hi
      obtain ⟨cs', h1, h2⟩ := hx i (by simp at hmm; omega)
      rw [hc] at h1
      obtain ⟨_, hlen, hcell⟩ := World.cells?_some h1
      obtain ⟨xs, n', _, _, _, hxl, hf⟩ := DataW.trod_struct he h2
      obtain ⟨c0, c1, c2, c3, rfl⟩ : ∃ c0 c1 c2 c3, cs' = [c0, c1, c2, c3] := by
        match cs', hlen with
        | [c0, c1, c2, c3], _ => exact ⟨c0, c1, c2, c3, rfl⟩
      obtain ⟨y0, y1, y2, y3, rfl⟩ : ∃ y0 y1 y2 y3, xs = [y0, y1, y2, y3] := by
        match xs, hxl with
        | [y0, y1, y2, y3], _ => exact ⟨y0, y1, y2, y3, rfl⟩
      have t0 := hf 0 f0 rfl
      have t1 := hf 1 f1 rfl
      have t2 := hf 2 f2 rfl
      have t3 := hf 3 f3 rfl
      rw [hf0.1, hf0.2, hb1.1] at t0
      rw [hf1.1, hf1.2, hi1.1] at t1
      rw [hf2.1, hf2.2, hi1.1] at t2
      rw [hf3.1, hf3.2, hi1.1] at t3
      simp only [List.drop_zero, List.drop_succ_cons, List.take_succ_cons, List.take_zero, List.getElem?_cons_zero, List.getElem?_cons_succ] at t0 t1 t2 t3
      obtain ⟨a0, e0, _⟩ := DataW.trod_bool hb1.2 t0
      obtain ⟨a1, e1, _⟩ := DataW.trod_int hi1.2 t1
      obtain ⟨a2, e2, _⟩ := DataW.trod_int hi1.2 t2
      obtain ⟨a3, e3, _⟩ := DataW.trod_int hi1.2 t3
      simp at e0 e1 e2 e3
      subst e0 e1 e2 e3
      refine ⟨⟨a0, a1, a2, a3⟩, ?_, ?_, ?_, ?_⟩
      · have := hcell 0 (by omega)
        rw [add_add] at this
        simpa using this
      · have := hcell 1 (by omega)
        rw [add_add] at this
        simpa using this
      · have := hcell 2 (by omega)
        rw [add_add] at this
        simpa using this
      · have := hcell 3 (by omega)
        rw [add_add] at this
        simpa using this
    obtain ⟨f, hf⟩ := choose_lt (α := SC) each
    refine ⟨some ad, len, cap, (List.range len).map f, rfl, ⟨by simp, (fun h => by cases h), fun hpos => ?_⟩, Or.inr ⟨_, _, by rw [hy], by simp⟩⟩
    obtain ⟨bl, off, spot⟩ := ad
    have h0 := (hf 0 hpos).1
    have hspot : spot = none := by simpa [Addr.add] using World.cell?_spot h0
    subst hspot
    refine ⟨bl, off, rfl, ?_, fun i hi => ?_⟩
    · have := World.block_lt_of_cell? W _ h0
      rw [add_none] at this
      exact this
    · have hh := hf i hi
      simp only [add_none, ← Nat.add_assoc] at hh
      have e : ((List.range len).map f).getD i default = f i := by simp [List.getD, hi]
      rw [e]
      exact hh
theorem bys_of {P : Program} {t e ei : TypeId} {f0 f1 f2 f3 f4 : Field} (ht : P.underlying t = some (.slice e)) (he : P.underlying e = some (.struct #[f0, f1, f2, f3, f4])) (hc : P.cellsOf e = 5)
    (hf0 : f0.type = ei ∧ f0.offset = 0) (hf1 : f1.type = ei ∧ f1.offset = 1) (hf2 : f2.type = ei ∧ f2.offset = 2) (hf3 : f3.type = ei ∧ f3.offset = 3) (hf4 : f4.type = ei ∧ f4.offset = 4)
    (hi1 : P.cellsOf ei = 1 ∧ P.underlying ei = some (.int .i64))
    {H : Type} {enc : TypeId × Value → H} {W : World} {v : Value} {y : DataW H × List MemPlace} {m : Nat} (h : DataW.trod enc P W 0 (fun _ => true) true m t [v] = some y) :
    ∃ p len cap xs, v = .slice p len cap ∧ InBys W p len cap xs ∧ (len = 0 ∨ ∃ elems spare, y.1 = .slice elems spare ∧ elems.length = len) := by
  rcases open_slice ht h with ⟨hcs, _⟩ | ⟨ad, len, cap, m, n, D, Pl, hcs, _, hl, hm, hmm, hy, hx⟩
  · simp at hcs
    subst hcs
    exact ⟨none, 0, 0, [], rfl, ⟨rfl, Nat.le_refl _, fun _ => ⟨rfl, rfl⟩, fun h => absurd h (by omega)⟩, Or.inl rfl⟩
  · simp at hcs
    subst hcs
    have each : ∀ i, i < len → ∃ x : BY, W.cell? (ad.add (i * 5)) = some (.int .i64 x.st) ∧ W.cell? (ad.add (i * 5 + 1)) = some (.int .i64 x.n) ∧ W.cell? (ad.add (i * 5 + 2)) = some (.int .i64 x.b) ∧ W.cell? (ad.add (i * 5 + 3)) = some (.int .i64 x.o) ∧ W.cell? (ad.add (i * 5 + 4)) = some (.int .i64 x.i) := by
      intro i hi
      obtain ⟨cs', h1, h2⟩ := hx i (by simp at hmm; omega)
      rw [hc] at h1
      obtain ⟨_, hlen, hcell⟩ := World.cells?_some h1
      obtain ⟨xs, n', _, _, _, hxl, hf⟩ := DataW.trod_struct he h2
      obtain ⟨c0, c1, c2, c3, c4, rfl⟩ : ∃ c0 c1 c2 c3 c4, cs' = [c0, c1, c2, c3, c4] := by
        match cs', hlen with
        | [c0, c1, c2, c3, c4], _ => exact ⟨c0, c1, c2, c3, c4, rfl⟩
      obtain ⟨y0, y1, y2, y3, y4, rfl⟩ : ∃ y0 y1 y2 y3 y4, xs = [y0, y1, y2, y3, y4] := by
        match xs, hxl with
        | [y0, y1, y2, y3, y4], _ => exact ⟨y0, y1, y2, y3, y4, rfl⟩
      have t0 := hf 0 f0 rfl
      have t1 := hf 1 f1 rfl
      have t2 := hf 2 f2 rfl
      have t3 := hf 3 f3 rfl
      have t4 := hf 4 f4 rfl
      rw [hf0.1, hf0.2, hi1.1] at t0
      rw [hf1.1, hf1.2, hi1.1] at t1
      rw [hf2.1, hf2.2, hi1.1] at t2
      rw [hf3.1, hf3.2, hi1.1] at t3
      rw [hf4.1, hf4.2, hi1.1] at t4
      simp only [List.drop_zero, List.drop_succ_cons, List.take_succ_cons, List.take_zero, List.getElem?_cons_zero, List.getElem?_cons_succ] at t0 t1 t2 t3 t4
      obtain ⟨a0, e0, _⟩ := DataW.trod_int hi1.2 t0
      obtain ⟨a1, e1, _⟩ := DataW.trod_int hi1.2 t1
      obtain ⟨a2, e2, _⟩ := DataW.trod_int hi1.2 t2
      obtain ⟨a3, e3, _⟩ := DataW.trod_int hi1.2 t3
      obtain ⟨a4, e4, _⟩ := DataW.trod_int hi1.2 t4
      simp at e0 e1 e2 e3 e4
      subst e0 e1 e2 e3 e4
      refine ⟨⟨a0, a1, a2, a3, a4⟩, ?_, ?_, ?_, ?_, ?_⟩
      · have := hcell 0 (by omega)
        rw [add_add] at this
        simpa using this
      · have := hcell 1 (by omega)
        rw [add_add] at this
        simpa using this
      · have := hcell 2 (by omega)
        rw [add_add] at this
        simpa using this
      · have := hcell 3 (by omega)
        rw [add_add] at this
        simpa using this
      · have := hcell 4 (by omega)
        rw [add_add] at this
        simpa using this
    obtain ⟨f, hf⟩ := choose_lt (α := BY) each
    refine ⟨some ad, len, cap, (List.range len).map f, rfl, ⟨by simp, hl, (fun h => by cases h), fun hpos => ?_⟩, Or.inr ⟨_, _, by rw [hy], by simp⟩⟩
    obtain ⟨bl, off, spot⟩ := ad
    have h0 := (hf 0 hpos).1
    have hspot : spot = none := by simpa [Addr.add] using World.cell?_spot h0
    subst hspot
    refine ⟨bl, off, rfl, ?_, fun i hi => ?_⟩
    · have := World.block_lt_of_cell? W _ h0
      rw [add_none] at this
      exact this
    · have hh := hf i hi
      simp only [add_none, ← Nat.add_assoc] at hh
      have e : ((List.range len).map f).getD i default = f i := by simp [List.getD, hi]
      rw [e]
      exact hh
end Go.Proofs.Ytnhbaigagphpmaa
