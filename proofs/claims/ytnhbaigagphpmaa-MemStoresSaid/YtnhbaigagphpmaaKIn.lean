/- A slice that came in, whatever its elements. -/
import Derived.Test.YtnhbaigagphpmaaBOpen
import Derived.Test.YtnhbaigagphpmaaKMem
namespace Go.Proofs.Ytnhbaigagphpmaa
open Go.ChangeShapes Go.WideShapes Go.ChangeAt Go.RowKit Go.Joins Go.Deep
set_option linter.unusedVariables false

theorem shp_of {P : Program} {t e : TypeId} (ht : P.underlying t = some (.slice e)) {H : Type} {enc : TypeId × Value → H} {W : World} {v : Value} {y : DataW H × List MemPlace} {m : Nat} (h : DataW.trod enc P W 0 (fun _ => true) true m t [v] = some y) :
    ∃ p len cap, v = .slice p len cap ∧ (len = 0 ∨ ∃ elems spare, y.1 = .slice elems spare ∧ elems.length = len) := by
  rcases open_slice ht h with ⟨hcs, _⟩ | ⟨ad, len, cap, m, n, D, Pl, hcs, _, hl, hm, hmm, hy, hx⟩
  · simp at hcs
    subst hcs
    exact ⟨none, 0, 0, rfl, Or.inl rfl⟩
  · simp at hcs
    subst hcs
    exact ⟨some ad, len, cap, rfl, Or.inr ⟨_, _, by rw [hy], by simp⟩⟩
end Go.Proofs.Ytnhbaigagphpmaa

/- Memories that came in. -/
namespace Go.Proofs.Ytnhbaigagphpmaa
open Go.ChangeShapes Go.WideShapes Go.ChangeAt Go.RowKit Go.Joins Go.Deep
set_option linter.unusedVariables false

/-- one block that came in; memory that came in; memories that came in -/
def InBk (w : World) (b o : Nat) (x : BK) : Prop :=
  w.cell? ⟨b, o, none⟩ = some (.int .i64 x.st) ∧ w.cell? ⟨b, o + 1, none⟩ = some (.slice x.q x.ys.length x.c) ∧ InBys w x.q x.ys.length x.c x.ys
structure MM where
  q : Option Addr
  c : Nat
  m : List BK
instance : Inhabited MM := ⟨⟨none, 0, []⟩⟩
def InMem (w : World) (x : MM) : Prop :=
  x.m.length ≤ x.c ∧ (x.q = none → x.c = 0) ∧ (0 < x.m.length → ∃ b off, x.q = some ⟨b, off, none⟩ ∧ b < w.heap.size ∧ ∀ i, i < x.m.length → InBk w b (off + i * 2) (x.m.getD i default))
/-- no length of it is beyond this -/
def LeMem (R : Nat) (x : MM) : Prop := x.m.length ≤ R ∧ ∀ i, i < x.m.length → (x.m.getD i default).ys.length ≤ R
def InMems (w : World) (p : Option Addr) (len : Nat) (xs : List MM) : Prop :=
  xs.length = len ∧ (0 < len → ∃ b off, p = some ⟨b, off, none⟩ ∧ b < w.heap.size ∧ ∀ i, i < len → w.cell? ⟨b, off + i, none⟩ = some (.slice (xs.getD i default).q (xs.getD i default).m.length (xs.getD i default).c) ∧ InMem w (xs.getD i default))
theorem InBk.below {w w' : World} {b o : Nat} {x : BK} (h : InBk w b o x) (hb : Below w.heap.size w w') : InBk w' b o x :=
  ⟨cell_below h.1 hb, cell_below h.2.1 hb, by
    obtain ⟨a, e, c, d⟩ := h.2.2
    refine ⟨a, e, c, fun hl => ?_⟩
    obtain ⟨x, off, hq, hx, hc⟩ := d hl
    exact ⟨x, off, hq, by have := hb.size; omega, fun i hi => (hc i hi).below hb⟩⟩
theorem InMem.below {w w' : World} {x : MM} (h : InMem w x) (hb : Below w.heap.size w w') : InMem w' x := by
  obtain ⟨a, c, d⟩ := h
  refine ⟨a, c, fun hl => ?_⟩
  obtain ⟨b, off, hq, hx, hc⟩ := d hl
  exact ⟨b, off, hq, by have := hb.size; omega, fun i hi => (hc i hi).below hb⟩
theorem InMems.below {w w' : World} {p : Option Addr} {len : Nat} {xs : List MM} (h : InMems w p len xs) (hb : Below w.heap.size w w') : InMems w' p len xs := by
  obtain ⟨a, d⟩ := h
  refine ⟨a, fun hl => ?_⟩
  obtain ⟨b, off, hq, hx, hc⟩ := d hl
  exact ⟨b, off, hq, by have := hb.size; omega, fun i hi => ⟨cell_below (hc i hi).1 hb, (hc i hi).2.below hb⟩⟩
/-- what came in, if it is not great -/
theorem InMem.isMem {w : World} {x : MM} (h : InMem w x) (hl : LeMem 1000 x) : IsMem w x.q x.m.length x.m := by
  obtain ⟨a, c, d⟩ := h
  refine ⟨hl.1, rfl, fun h0 => ?_⟩
  obtain ⟨b, off, hq, hx, hc⟩ := d h0
  refine ⟨b, off, hq, hx, fun i hi => ?_⟩
  obtain ⟨c0, c1, e1, e2, e3, e4⟩ := hc i hi
  exact ⟨c0, c1, ⟨hl.2 i hi, rfl, e4⟩, e2, fun hn => (e3 hn).2⟩
theorem weightsAll_mem {H : Type} {P : Program} {e : TypeId} : ∀ {l : List (DataW H)} {d : DataW H}, d ∈ l → ∀ n ∈ d.weights P e, n ∈ DataW.weightsAll P e l
  | x :: r, d, hd, n, hn => by
    simp only [DataW.weightsAll, List.mem_append]
    rcases List.mem_cons.1 hd with rfl | hd
    · exact Or.inl hn
    · exact Or.inr (weightsAll_mem hd n hn)
theorem mem_of {P : Program} {t e ei ty ey : TypeId} {f0 f1 g0 g1 g2 g3 g4 : Field} (ht : P.underlying t = some (.slice e)) (he : P.underlying e = some (.struct #[f0, f1])) (hc : P.cellsOf e = 2)
    (hf0 : f0.type = ei ∧ f0.offset = 0) (hf1 : f1.type = ty ∧ f1.offset = 1) (hty : P.cellsOf ty = 1 ∧ P.underlying ty = some (.slice ey)) (hey : P.underlying ey = some (.struct #[g0, g1, g2, g3, g4])) (hcy : P.cellsOf ey = 5)
    (hg0 : g0.type = ei ∧ g0.offset = 0) (hg1 : g1.type = ei ∧ g1.offset = 1) (hg2 : g2.type = ei ∧ g2.offset = 2) (hg3 : g3.type = ei ∧ g3.offset = 3) (hg4 : g4.type = ei ∧ g4.offset = 4)
    (hi1 : P.cellsOf ei = 1 ∧ P.underlying ei = some (.int .i64)) (hb1 : 1 ≤ P.bytesOf e) (hb2 : 1 ≤ P.bytesOf ey)
    {H : Type} {enc : TypeId × Value → H} {W : World} {v : Value} {y : DataW H × List MemPlace} {k : Nat} (h : DataW.trod enc P W 0 (fun _ => true) true k t [v] = some y) :
    ∃ x : MM, v = .slice x.q x.m.length x.c ∧ InMem W x ∧ ∀ R, (∀ n ∈ y.1.weights P t, n ≤ R) → LeMem R x := by
  rcases open_slice ht h with ⟨hcs, _⟩ | ⟨ad, len, cap, m, n, D, Pl, hcs, _, hl, hm, hmm, hy, hx⟩
  · simp at hcs
    subst hcs
    exact ⟨⟨none, 0, []⟩, rfl, ⟨Nat.le_refl _, fun _ => rfl, fun h => absurd h (Nat.lt_irrefl 0)⟩, fun R _ => ⟨Nat.zero_le _, fun i hi => absurd hi (Nat.not_lt_zero _)⟩⟩
  · simp at hcs
    subst hcs
    have each : ∀ i, i < len → ∃ x : BK, (W.cell? (ad.add (i * 2)) = some (.int .i64 x.st) ∧ W.cell? (ad.add (i * 2 + 1)) = some (.slice x.q x.ys.length x.c) ∧ InBys W x.q x.ys.length x.c x.ys) ∧ ∀ R, (∀ n ∈ (D i).weights P e, n ≤ R) → x.ys.length ≤ R := by
      intro i hi
      obtain ⟨cs', h1, h2⟩ := hx i (by simp at hmm; omega)
      rw [hc] at h1
      obtain ⟨_, hlen, hcell⟩ := World.cells?_some h1
      obtain ⟨y0, y1, n', hxx, _, t0, t1⟩ := trod_struct2 he h2
      obtain ⟨c0, c1, rfl⟩ : ∃ c0 c1, cs' = [c0, c1] := by
        match cs', hlen with
        | [c0, c1], _ => exact ⟨c0, c1, rfl⟩
      rw [hf0.1, hf0.2, hi1.1] at t0
      rw [hf1.1, hf1.2, hty.1] at t1
      simp only [List.drop_zero, List.drop_succ_cons, List.take_succ_cons, List.take_zero] at t0 t1
      obtain ⟨a0, e0, _⟩ := DataW.trod_int hi1.2 t0
      obtain ⟨q, l, c, ys, e1, hin, hd⟩ := bys_of hty.2 hey hcy hg0 hg1 hg2 hg3 hg4 hi1 t1
      simp at e0
      subst e0 e1
      have hyl := hin.1
      refine ⟨⟨a0, q, c, ys⟩, ⟨?_, ?_, ?_⟩, fun R hR => ?_⟩
      · have := hcell 0 (by omega)
        rw [add_add] at this
        simpa using this
      · have := hcell 1 (by omega)
        rw [add_add] at this
        simp only [List.getElem?_cons_succ, List.getElem?_cons_zero] at this
        dsimp only
        rw [hyl]
        simpa using this
      · dsimp only
        rw [hyl]
        exact hin
      · dsimp only
        rcases hd with h0 | ⟨el, sp, hd, hel⟩
        · omega
        · have hD : D i = .agg [y0.1, y1.1] := congrArg Prod.fst hxx
          have hw : (el.length + sp.length) * P.bytesOf ey ∈ (D i).weights P e := by
            rw [hD]
            simp only [DataW.weights, he]
            refine DataW.weights_mem_each (j := 1) (t := ty) (d := y1.1) (by simp [hf1.1]) rfl _ ?_
            rw [hd]
            simp [DataW.weights, hty.2]
          have h3 := hR _ hw
          have h4 : el.length ≤ (el.length + sp.length) * P.bytesOf ey := Nat.le_trans (Nat.le_add_right _ _) (Nat.le_mul_of_pos_right _ hb2)
          omega
    obtain ⟨f, hf⟩ := choose_lt (α := BK) each
    have gE : ∀ i, i < len → ((List.range len).map f).getD i default = f i := fun i hi => by simp [List.getD, hi]
    refine ⟨⟨some ad, cap, (List.range len).map f⟩, by simp, ⟨by simpa using hl, (fun h => by cases h), fun hpos => ?_⟩, fun R hR => ?_⟩
    · have hpos' : 0 < len := by simpa using hpos
      obtain ⟨bl, off, spot⟩ := ad
      have h0 := (hf 0 hpos').1.1
      have hspot : spot = none := by simpa [Addr.add] using World.cell?_spot h0
      subst hspot
      refine ⟨bl, off, rfl, ?_, fun i hi => ?_⟩
      · have := World.block_lt_of_cell? W _ h0
        rw [add_none] at this
        exact this
      · have hi' : i < len := by simpa using hi
        have hh := (hf i hi').1
        simp only [add_none, ← Nat.add_assoc] at hh
        dsimp only
        rw [gE i hi']
        exact hh
    · have hwt : y.1.weights P t = (len + (m - len)) * P.bytesOf e :: (DataW.weightsAll P e ((List.range len).map D) ++ DataW.weightsAll P e ((List.range (m - len)).map fun j => D (len + j))) := by
        rw [hy]; simp [DataW.weights, ht]
      rw [hwt] at hR
      refine ⟨?_, fun i hi => ?_⟩
      · have h3 := hR _ (List.mem_cons_self ..)
        have h4 : len ≤ (len + (m - len)) * P.bytesOf e := Nat.le_trans (Nat.le_add_right _ _) (Nat.le_mul_of_pos_right _ hb1)
        simp
        omega
      · have hi' : i < len := by simpa using hi
        dsimp only
        rw [gE i hi']
        exact (hf i hi').2 R fun n hn => hR n (List.mem_cons_of_mem _ (List.mem_append_left _ (weightsAll_mem (d := D i) (by simp; exact ⟨i, hi', rfl⟩) n hn)))
theorem mems_of {P : Program} {tt t e ei ty ey : TypeId} {f0 f1 g0 g1 g2 g3 g4 : Field} (htt : P.underlying tt = some (.slice t)) (hct : P.cellsOf t = 1) (ht : P.underlying t = some (.slice e)) (he : P.underlying e = some (.struct #[f0, f1])) (hc : P.cellsOf e = 2)
    (hf0 : f0.type = ei ∧ f0.offset = 0) (hf1 : f1.type = ty ∧ f1.offset = 1) (hty : P.cellsOf ty = 1 ∧ P.underlying ty = some (.slice ey)) (hey : P.underlying ey = some (.struct #[g0, g1, g2, g3, g4])) (hcy : P.cellsOf ey = 5)
    (hg0 : g0.type = ei ∧ g0.offset = 0) (hg1 : g1.type = ei ∧ g1.offset = 1) (hg2 : g2.type = ei ∧ g2.offset = 2) (hg3 : g3.type = ei ∧ g3.offset = 3) (hg4 : g4.type = ei ∧ g4.offset = 4)
    (hi1 : P.cellsOf ei = 1 ∧ P.underlying ei = some (.int .i64)) (hb1 : 1 ≤ P.bytesOf e) (hb2 : 1 ≤ P.bytesOf ey) (hb3 : 1 ≤ P.bytesOf t)
    {H : Type} {enc : TypeId × Value → H} {W : World} {v : Value} {y : DataW H × List MemPlace} {k : Nat} (h : DataW.trod enc P W 0 (fun _ => true) true k tt [v] = some y) :
    ∃ p len cap xs, v = .slice p len cap ∧ InMems W p len xs ∧ ∀ R, (∀ n ∈ y.1.weights P tt, n ≤ R) → len ≤ R ∧ ∀ i, i < len → LeMem R (xs.getD i default) := by
  rcases open_slice htt h with ⟨hcs, _⟩ | ⟨ad, len, cap, m, n, D, Pl, hcs, _, hl, hm, hmm, hy, hx⟩
  · simp at hcs
    subst hcs
    exact ⟨none, 0, 0, [], rfl, ⟨rfl, fun h => absurd h (Nat.lt_irrefl 0)⟩, fun R _ => ⟨Nat.zero_le _, fun i hi => absurd hi (Nat.not_lt_zero _)⟩⟩
  · simp at hcs
    subst hcs
    have each : ∀ i, i < len → ∃ x : MM, (W.cell? (ad.add i) = some (.slice x.q x.m.length x.c) ∧ InMem W x) ∧ ∀ R, (∀ n ∈ (D i).weights P t, n ≤ R) → LeMem R x := by
      intro i hi
      obtain ⟨cs', h1, h2⟩ := hx i (by simp at hmm; omega)
      rw [hct] at h1
      obtain ⟨_, hlen, hcell⟩ := World.cells?_some h1
      obtain ⟨c0, rfl⟩ : ∃ c0, cs' = [c0] := by
        match cs', hlen with
        | [c0], _ => exact ⟨c0, rfl⟩
      obtain ⟨x, e1, hin, hR⟩ := mem_of ht he hc hf0 hf1 hty hey hcy hg0 hg1 hg2 hg3 hg4 hi1 hb1 hb2 h2
      subst e1
      refine ⟨x, ⟨?_, hin⟩, hR⟩
      have := hcell 0 (by omega)
      rw [add_add] at this
      simpa using this
    obtain ⟨f, hf⟩ := choose_lt (α := MM) each
    have gE : ∀ i, i < len → ((List.range len).map f).getD i default = f i := fun i hi => by simp [List.getD, hi]
    refine ⟨some ad, len, cap, (List.range len).map f, rfl, ⟨by simp, fun hpos => ?_⟩, fun R hR => ?_⟩
    · obtain ⟨bl, off, spot⟩ := ad
      have h0 := (hf 0 hpos).1.1
      have hspot : spot = none := by simpa [Addr.add] using World.cell?_spot h0
      subst hspot
      refine ⟨bl, off, rfl, ?_, fun i hi => ?_⟩
      · have := World.block_lt_of_cell? W _ h0
        rw [add_none] at this
        exact this
      · have hh := (hf i hi).1
        simp only [add_none] at hh
        rw [gE i hi]
        exact hh
    · have hwt : y.1.weights P tt = (len + (m - len)) * P.bytesOf t :: (DataW.weightsAll P t ((List.range len).map D) ++ DataW.weightsAll P t ((List.range (m - len)).map fun j => D (len + j))) := by
        rw [hy]; simp [DataW.weights, htt]
      rw [hwt] at hR
      refine ⟨?_, fun i hi => ?_⟩
      · have h3 := hR _ (List.mem_cons_self ..)
        have h4 : len ≤ (len + (m - len)) * P.bytesOf t := Nat.le_trans (Nat.le_add_right _ _) (Nat.le_mul_of_pos_right _ hb3)
        omega
      · rw [gE i hi]
        exact (hf i hi).2 R fun n hn => hR n (List.mem_cons_of_mem _ (List.mem_append_left _ (weightsAll_mem (d := D i) (by simp; exact ⟨i, hi, rfl⟩) n hn)))
end Go.Proofs.Ytnhbaigagphpmaa
