/- Rows of programs that came in: no length of them is beyond what is reached. Nothing here speaks of one translation. -/
import Derived.Test.YtncdbjflfhfddaaGreatGPr
import Derived.SizedLaws
namespace Go.Proofs.YtncdbjflfhfddaaGreat
open Go.ChangeShapes Go.WideShapes Go.ChangeAt Go.RowKit Go.Joins Go.Deep
set_option linter.unusedVariables false

theorem weightsAll_memG {H : Type} {P : Program} {e : TypeId} : ∀ {l : List (DataW H)} {d : DataW H}, d ∈ l → ∀ n ∈ d.weights P e, n ∈ DataW.weightsAll P e l
  | x :: r, d, hd, n, hn => by
    simp only [DataW.weightsAll, List.mem_append]
    rcases List.mem_cons.1 hd with rfl | hd
    · exact Or.inl hn
    · exact Or.inr (weightsAll_memG hd n hn)
/-- no length of it is beyond this -/
def LeS (R : Nat) (x : SX) : Prop := x.body.length ≤ R ∧ x.els.length ≤ R
def LeP (R : Nat) (x : PX) : Prop := x.vars.length ≤ R ∧ x.news.length ≤ R ∧ x.exs.length ≤ R ∧ x.sts.length ≤ R ∧ x.main.length ≤ R ∧ ∀ s ∈ x.sts, LeS R s
theorem row_ofW {α : Type} [Inhabited α] {P : Program} {t e : TypeId} (k : Nat) (Q : World → Nat → Nat → α → Prop) (L : Nat → α → Prop) (ht : P.underlying t = some (.slice e)) (hk : 0 < k) (hc : P.cellsOf e = k) (hb1 : 1 ≤ P.bytesOf e)
    {H : Type} {enc : TypeId × Value → H} {W : World} {v : Value} {y : DataW H × List MemPlace} {m : Nat}
    (hQ : ∀ (cs' : List Value) (y : DataW H × List MemPlace) (n : Nat), cs'.length = k → DataW.trod enc P W 0 (fun _ => true) true n e cs' = some y → ∃ x, (∀ b o, (∀ j, j < k → W.cell? ⟨b, o + j, none⟩ = cs'[j]?) → Q W b o x) ∧ ∀ R, (∀ n ∈ y.1.weights P e, n ≤ R) → L R x)
    (h : DataW.trod enc P W 0 (fun _ => true) true m t [v] = some y) : ∃ xs, IsRow Q k W v xs ∧ ∀ R, (∀ n ∈ y.1.weights P t, n ≤ R) → xs.length ≤ R ∧ ∀ x ∈ xs, L R x := by
  rcases open_slice ht h with ⟨hcs, _⟩ | ⟨ad, len, cap, m, n, D, Pl, hcs, _, hl, hm, hmm, hy, hx⟩
  · simp at hcs
    subst hcs
    exact ⟨[], ⟨none, 0, rfl, Nat.zero_le _, Nat.le_refl _, fun h => absurd h (Nat.lt_irrefl 0)⟩, fun R _ => ⟨Nat.zero_le _, fun x hx => by cases hx⟩⟩
  · simp at hcs
    subst hcs
    obtain ⟨bl, off, spot⟩ := ad
    by_cases hpos : 0 < len
    · have hspot : spot = none := by
        obtain ⟨cs', h1, h2⟩ := hx 0 (by simp at hmm; omega)
        rw [hc] at h1
        obtain ⟨_, hlen, hcell⟩ := World.cells?_some h1
        have h3 := hcell 0 hk
        rw [List.getElem?_eq_getElem (by omega)] at h3
        simpa [Addr.add] using World.cell?_spot h3
      subst hspot
      have each : ∀ i, i < len → ∃ x : α, Q W bl (off + i * k) x ∧ ∀ R, (∀ n ∈ (D i).weights P e, n ≤ R) → L R x := by
        intro i hi
        obtain ⟨cs', h1, h2⟩ := hx i (by simp at hmm; omega)
        rw [hc] at h1
        obtain ⟨_, hlen, hcell⟩ := World.cells?_some h1
        obtain ⟨x, hx, hL⟩ := hQ cs' _ _ hlen h2
        refine ⟨x, hx _ _ fun j hj => ?_, hL⟩
        have := hcell j hj
        rw [add_noneG, add_noneG] at this
        exact this
      obtain ⟨f, hf⟩ := choose_lt (α := α) each
      refine ⟨(List.range len).map f, ⟨some ⟨bl, off, none⟩, cap, by simp, by simp; omega, by simpa using hl, fun _ => ⟨bl, off, rfl, ?_, fun i x hx => ?_⟩⟩, fun R hR => ?_⟩
      · obtain ⟨cs', h1, h2⟩ := hx 0 (by simp at hmm; omega)
        rw [hc] at h1
        obtain ⟨_, hlen, hcell⟩ := World.cells?_some h1
        have h3 := hcell 0 hk
        rw [List.getElem?_eq_getElem (by omega)] at h3
        have := World.block_lt_of_cell? W _ h3
        rw [add_noneG, add_noneG] at this
        exact this
      · obtain ⟨hi, hxx⟩ := List.getElem?_eq_some_iff.1 hx
        have hi2 : i < len := by simpa using hi
        have : f i = x := by simpa using hxx
        rw [← this]
        exact (hf i hi2).1
      · have hwt : y.1.weights P t = (len + (m - len)) * P.bytesOf e :: (DataW.weightsAll P e ((List.range len).map D) ++ DataW.weightsAll P e ((List.range (m - len)).map fun j => D (len + j))) := by
          rw [hy]; simp [DataW.weights, ht]
        rw [hwt] at hR
        refine ⟨?_, fun x hx => ?_⟩
        · have h3 := hR _ (List.mem_cons_self ..)
          have h4 : len ≤ (len + (m - len)) * P.bytesOf e := Nat.le_trans (Nat.le_add_right _ _) (Nat.le_mul_of_pos_right _ hb1)
          simp
          omega
        · obtain ⟨i, hi, rfl⟩ := List.mem_map.1 hx
          have hi2 : i < len := by simpa using hi
          exact (hf i hi2).2 R fun n hn => hR n (List.mem_cons_of_mem _ (List.mem_append_left _ (weightsAll_memG (d := D i) (by simp; exact ⟨i, hi2, rfl⟩) n hn)))
    · obtain rfl : len = 0 := by omega
      exact ⟨[], ⟨_, cap, rfl, Nat.zero_le _, Nat.zero_le _, fun h => absurd h (Nat.lt_irrefl 0)⟩, fun R _ => ⟨Nat.zero_le _, fun x hx => by cases hx⟩⟩
theorem is_ofW {P : Program} {t ei : TypeId} (ht : P.underlying t = some (.slice ei)) (hi : P.cellsOf ei = 1 ∧ P.underlying ei = some (.int .i64)) (hb1 : 1 ≤ P.bytesOf ei)
    {H : Type} {enc : TypeId × Value → H} {W : World} {v : Value} {y : DataW H × List MemPlace} {m : Nat} (h : DataW.trod enc P W 0 (fun _ => true) true m t [v] = some y) : ∃ xs, IsIs W v xs ∧ ∀ R, (∀ n ∈ y.1.weights P t, n ≤ R) → xs.length ≤ R := by
  obtain ⟨xs, h1, h2⟩ := row_ofW 1 QI (fun _ _ => True) ht (by decide) hi.1 hb1 (fun cs' y n hl ht => by
    match cs', hl with
    | [c0], _ =>
      obtain ⟨a0, e0, _⟩ := DataW.trod_int hi.2 ht
      simp at e0
      subst e0
      exact ⟨a0, fun b o hj => by have := hj 0 (by decide); simpa [QI] using this, fun _ _ => trivial⟩) h
  exact ⟨xs, h1, fun R hR => (h2 R hR).1⟩
theorem es_ofW {P : Program} {t e ei : TypeId} {f0 f1 f2 f3 f4 : Field} (ht : P.underlying t = some (.slice e)) (he : P.underlying e = some (.struct #[f0, f1, f2, f3, f4])) (hc : P.cellsOf e = 5) (hb1 : 1 ≤ P.bytesOf e)
    (hf0 : f0.type = ei ∧ f0.offset = 0) (hf1 : f1.type = ei ∧ f1.offset = 1) (hf2 : f2.type = ei ∧ f2.offset = 2) (hf3 : f3.type = ei ∧ f3.offset = 3) (hf4 : f4.type = ei ∧ f4.offset = 4)
    (hi1 : P.cellsOf ei = 1 ∧ P.underlying ei = some (.int .i64))
    {H : Type} {enc : TypeId × Value → H} {W : World} {v : Value} {y : DataW H × List MemPlace} {m : Nat} (h : DataW.trod enc P W 0 (fun _ => true) true m t [v] = some y) : ∃ xs, IsEs W v xs ∧ ∀ R, (∀ n ∈ y.1.weights P t, n ≤ R) → xs.length ≤ R := by
  obtain ⟨xs, h1, h2⟩ := row_ofW 5 QE (fun _ _ => True) ht (by decide) hc hb1 (fun cs' y n hl ht => by
    match cs', hl with
    | [c0, c1, c2, c3, c4], _ =>
      obtain ⟨xs, n', _, _, _, hxl, hf⟩ := DataW.trod_struct he ht
      obtain ⟨y0, y1, y2, y3, y4, rfl⟩ : ∃ y0 y1 y2 y3 y4, xs = [y0, y1, y2, y3, y4] := by
        match xs, hxl with
        | [y0, y1, y2, y3, y4], _ => exact ⟨y0, y1, y2, y3, y4, rfl⟩
      have t0 := hf 0 f0 rfl
      have t1 := hf 1 f1 rfl
      have t2 := hf 2 f2 rfl
      have t3 := hf 3 f3 rfl
      have t4 := hf 4 f4 rfl
      rw [hf0.1, hf0.2, hi1.1] at t0
      rw [hf1.1, hf1.2, hi1.1] at t1
      rw [hf2.1, hf2.2, hi1.1] at t2
      rw [hf3.1, hf3.2, hi1.1] at t3
      rw [hf4.1, hf4.2, hi1.1] at t4
      simp only [List.drop_zero, List.drop_succ_cons, List.take_succ_cons, List.take_zero, List.getElem?_cons_zero, List.getElem?_cons_succ] at t0 t1 t2 t3 t4
      obtain ⟨a0, e0, _⟩ := DataW.trod_int hi1.2 t0
      obtain ⟨a1, e1, _⟩ := DataW.trod_int hi1.2 t1
      obtain ⟨a2, e2, _⟩ := DataW.trod_int hi1.2 t2
      obtain ⟨a3, e3, _⟩ := DataW.trod_int hi1.2 t3
      obtain ⟨a4, e4, _⟩ := DataW.trod_int hi1.2 t4
      simp at e0 e1 e2 e3 e4
      subst e0 e1 e2 e3 e4
      exact ⟨⟨a0, a1, a2, a3, a4⟩, fun b o hj => ⟨by simpa using hj 0 (by decide), by simpa using hj 1 (by decide), by simpa using hj 2 (by decide), by simpa using hj 3 (by decide), by simpa using hj 4 (by decide)⟩, fun _ _ => trivial⟩) h
  exact ⟨xs, h1, fun R hR => (h2 R hR).1⟩
theorem ss_ofW {P : Program} {t e ei es : TypeId} {f0 f1 f2 f3 f4 f5 f6 : Field} (ht : P.underlying t = some (.slice e)) (he : P.underlying e = some (.struct #[f0, f1, f2, f3, f4, f5, f6])) (hc : P.cellsOf e = 7) (hb1 : 1 ≤ P.bytesOf e) (hbi : 1 ≤ P.bytesOf ei)
    (hf0 : f0.type = ei ∧ f0.offset = 0) (hf1 : f1.type = ei ∧ f1.offset = 1) (hf2 : f2.type = ei ∧ f2.offset = 2) (hf3 : f3.type = ei ∧ f3.offset = 3) (hf4 : f4.type = ei ∧ f4.offset = 4) (hf5 : f5.type = es ∧ f5.offset = 5) (hf6 : f6.type = es ∧ f6.offset = 6)
    (hi1 : P.cellsOf ei = 1 ∧ P.underlying ei = some (.int .i64)) (hs1 : P.cellsOf es = 1 ∧ P.underlying es = some (.slice ei))
    {H : Type} {enc : TypeId × Value → H} {W : World} {v : Value} {y : DataW H × List MemPlace} {m : Nat} (h : DataW.trod enc P W 0 (fun _ => true) true m t [v] = some y) : ∃ xs, IsSs W v xs ∧ ∀ R, (∀ n ∈ y.1.weights P t, n ≤ R) → xs.length ≤ R ∧ ∀ x ∈ xs, LeS R x :=
  row_ofW 7 QS LeS ht (by decide) hc hb1 (fun cs' y n hl ht => by
    match cs', hl with
    | [c0, c1, c2, c3, c4, c5, c6], _ =>
      obtain ⟨xs, n', _, hy, _, hxl, hf⟩ := DataW.trod_struct he ht
      obtain ⟨y0, y1, y2, y3, y4, y5, y6, rfl⟩ : ∃ y0 y1 y2 y3 y4 y5 y6, xs = [y0, y1, y2, y3, y4, y5, y6] := by
        match xs, hxl with
        | [y0, y1, y2, y3, y4, y5, y6], _ => exact ⟨y0, y1, y2, y3, y4, y5, y6, rfl⟩
      have t0 := hf 0 f0 rfl
      have t1 := hf 1 f1 rfl
      have t2 := hf 2 f2 rfl
      have t3 := hf 3 f3 rfl
      have t4 := hf 4 f4 rfl
      have t5 := hf 5 f5 rfl
      have t6 := hf 6 f6 rfl
      rw [hf0.1, hf0.2, hi1.1] at t0
      rw [hf1.1, hf1.2, hi1.1] at t1
      rw [hf2.1, hf2.2, hi1.1] at t2
      rw [hf3.1, hf3.2, hi1.1] at t3
      rw [hf4.1, hf4.2, hi1.1] at t4
      rw [hf5.1, hf5.2, hs1.1] at t5
      rw [hf6.1, hf6.2, hs1.1] at t6
      simp only [List.drop_zero, List.drop_succ_cons, List.take_succ_cons, List.take_zero, List.getElem?_cons_zero, List.getElem?_cons_succ] at t0 t1 t2 t3 t4 t5 t6
      obtain ⟨a0, e0, _⟩ := DataW.trod_int hi1.2 t0
      obtain ⟨a1, e1, _⟩ := DataW.trod_int hi1.2 t1
      obtain ⟨a2, e2, _⟩ := DataW.trod_int hi1.2 t2
      obtain ⟨a3, e3, _⟩ := DataW.trod_int hi1.2 t3
      obtain ⟨a4, e4, _⟩ := DataW.trod_int hi1.2 t4
      obtain ⟨x5, h5, w5⟩ := is_ofW hs1.2 hi1 hbi t5
      obtain ⟨x6, h6, w6⟩ := is_ofW hs1.2 hi1 hbi t6
      simp at e0 e1 e2 e3 e4
      subst e0 e1 e2 e3 e4
      have hy1 : y.1 = .agg [y0.1, y1.1, y2.1, y3.1, y4.1, y5.1, y6.1] := congrArg Prod.fst hy
      refine ⟨⟨a0, a1, a2, a3, a4, x5, x6⟩, fun b o hj => ⟨c5, c6, by simpa using hj 0 (by decide), by simpa using hj 1 (by decide), by simpa using hj 2 (by decide), by simpa using hj 3 (by decide), by simpa using hj 4 (by decide), by simpa using hj 5 (by decide), by simpa using hj 6 (by decide), h5, h6⟩, fun R hR => ?_⟩
      rw [hy1] at hR
      simp only [DataW.weights, he] at hR
      exact ⟨w5 R fun n hn => hR n (DataW.weights_mem_each (j := 5) (t := es) (d := y5.1) (by simp [hf5.1]) rfl _ hn), w6 R fun n hn => hR n (DataW.weights_mem_each (j := 6) (t := es) (d := y6.1) (by simp [hf6.1]) rfl _ hn)⟩) h
theorem ps_ofW {P : Program} {t e ea eb ei es te ee ts se : TypeId} {f0 f1 f2 f3 f4 f5 a0 a1 e0 e1 e2 e3 e4 s0 s1 s2 s3 s4 s5 s6 : Field} (ht : P.underlying t = some (.slice e)) (he : P.underlying e = some (.struct #[f0, f1, f2, f3, f4, f5])) (hc : P.cellsOf e = 7) (hbe : 1 ≤ P.bytesOf e) (hbi : 1 ≤ P.bytesOf ei) (hbee : 1 ≤ P.bytesOf ee) (hbse : 1 ≤ P.bytesOf se)
    (hf0 : f0.type = ea ∧ f0.offset = 0) (hf1 : f1.type = es ∧ f1.offset = 2) (hf2 : f2.type = es ∧ f2.offset = 3) (hf3 : f3.type = te ∧ f3.offset = 4) (hf4 : f4.type = ts ∧ f4.offset = 5) (hf5 : f5.type = es ∧ f5.offset = 6)
    (hea : P.cellsOf ea = 2 ∧ P.underlying ea = some (.struct #[a0, a1])) (ha0 : a0.type = eb ∧ a0.offset = 0) (ha1 : a1.type = ei ∧ a1.offset = 1) (hb1 : P.cellsOf eb = 1 ∧ P.underlying eb = some .bool)
    (hi1 : P.cellsOf ei = 1 ∧ P.underlying ei = some (.int .i64)) (hs1 : P.cellsOf es = 1 ∧ P.underlying es = some (.slice ei))
    (hte : P.cellsOf te = 1 ∧ P.underlying te = some (.slice ee)) (hee : P.cellsOf ee = 5 ∧ P.underlying ee = some (.struct #[e0, e1, e2, e3, e4]))
    (he0 : e0.type = ei ∧ e0.offset = 0) (he1 : e1.type = ei ∧ e1.offset = 1) (he2 : e2.type = ei ∧ e2.offset = 2) (he3 : e3.type = ei ∧ e3.offset = 3) (he4 : e4.type = ei ∧ e4.offset = 4)
    (hts : P.cellsOf ts = 1 ∧ P.underlying ts = some (.slice se)) (hse : P.cellsOf se = 7 ∧ P.underlying se = some (.struct #[s0, s1, s2, s3, s4, s5, s6]))
    (hs_0 : s0.type = ei ∧ s0.offset = 0) (hs_1 : s1.type = ei ∧ s1.offset = 1) (hs_2 : s2.type = ei ∧ s2.offset = 2) (hs_3 : s3.type = ei ∧ s3.offset = 3) (hs_4 : s4.type = ei ∧ s4.offset = 4) (hs_5 : s5.type = es ∧ s5.offset = 5) (hs_6 : s6.type = es ∧ s6.offset = 6)
    {H : Type} {enc : TypeId × Value → H} {W : World} {v : Value} {y : DataW H × List MemPlace} {m : Nat} (h : DataW.trod enc P W 0 (fun _ => true) true m t [v] = some y) : ∃ xs, IsPs W v xs ∧ ∀ R, (∀ n ∈ y.1.weights P t, n ≤ R) → xs.length ≤ R ∧ ∀ x ∈ xs, LeP R x :=
  row_ofW 7 QP LeP ht (by decide) hc hbe (fun cs' y n hl ht => by
    match cs', hl with
    | [c0, c1, c2, c3, c4, c5, c6], _ =>
      obtain ⟨xs, n', _, hy, _, hxl, hf⟩ := DataW.trod_struct he ht
      obtain ⟨y0, y1, y2, y3, y4, y5, rfl⟩ : ∃ y0 y1 y2 y3 y4 y5, xs = [y0, y1, y2, y3, y4, y5] := by
        match xs, hxl with
        | [y0, y1, y2, y3, y4, y5], _ => exact ⟨y0, y1, y2, y3, y4, y5, rfl⟩
      have t0 := hf 0 f0 rfl
      have t1 := hf 1 f1 rfl
      have t2 := hf 2 f2 rfl
      have t3 := hf 3 f3 rfl
      have t4 := hf 4 f4 rfl
      have t5 := hf 5 f5 rfl
      rw [hf0.1, hf0.2, hea.1] at t0
      rw [hf1.1, hf1.2, hs1.1] at t1
      rw [hf2.1, hf2.2, hs1.1] at t2
      rw [hf3.1, hf3.2, hte.1] at t3
      rw [hf4.1, hf4.2, hts.1] at t4
      rw [hf5.1, hf5.2, hs1.1] at t5
      simp only [List.drop_zero, List.drop_succ_cons, List.take_succ_cons, List.take_zero, List.getElem?_cons_zero, List.getElem?_cons_succ] at t0 t1 t2 t3 t4 t5
      obtain ⟨xa, n2, _, _, _, hxl2, hfa⟩ := DataW.trod_struct hea.2 t0
      obtain ⟨z0, z1, rfl⟩ : ∃ z0 z1, xa = [z0, z1] := by
        match xa, hxl2 with
        | [z0, z1], _ => exact ⟨z0, z1, rfl⟩
      have u0 := hfa 0 a0 rfl
      have u1 := hfa 1 a1 rfl
      rw [ha0.1, ha0.2, hb1.1] at u0
      rw [ha1.1, ha1.2, hi1.1] at u1
      simp only [List.drop_zero, List.drop_succ_cons, List.take_succ_cons, List.take_zero, List.getElem?_cons_zero, List.getElem?_cons_succ] at u0 u1
      obtain ⟨b0, g0, _⟩ := DataW.trod_bool hb1.2 u0
      obtain ⟨n1, g1, _⟩ := DataW.trod_int hi1.2 u1
      obtain ⟨x1, h1, w1⟩ := is_ofW hs1.2 hi1 hbi t1
      obtain ⟨x2, h2, w2⟩ := is_ofW hs1.2 hi1 hbi t2
      obtain ⟨x3, h3, w3⟩ := es_ofW hte.2 hee.2 hee.1 hbee he0 he1 he2 he3 he4 hi1 t3
      obtain ⟨x4, h4, w4⟩ := ss_ofW hts.2 hse.2 hse.1 hbse hbi hs_0 hs_1 hs_2 hs_3 hs_4 hs_5 hs_6 hi1 hs1 t4
      obtain ⟨x5, h5, w5⟩ := is_ofW hs1.2 hi1 hbi t5
      simp at g0 g1
      subst g0 g1
      have hy1 : y.1 = .agg [y0.1, y1.1, y2.1, y3.1, y4.1, y5.1] := congrArg Prod.fst hy
      refine ⟨⟨b0, n1, x1, x2, x3, x4, x5⟩, fun b o hj => ⟨c2, c3, c4, c5, c6, by simpa using hj 0 (by decide), by simpa using hj 1 (by decide), by simpa using hj 2 (by decide), by simpa using hj 3 (by decide), by simpa using hj 4 (by decide), by simpa using hj 5 (by decide), by simpa using hj 6 (by decide), h1, h2, h3, h4, h5⟩, fun R hR => ?_⟩
      rw [hy1] at hR
      simp only [DataW.weights, he] at hR
      have W4 := w4 R fun n hn => hR n (DataW.weights_mem_each (j := 4) (t := ts) (d := y4.1) (by simp [hf4.1]) rfl _ hn)
      exact ⟨w1 R fun n hn => hR n (DataW.weights_mem_each (j := 1) (t := es) (d := y1.1) (by simp [hf1.1]) rfl _ hn), w2 R fun n hn => hR n (DataW.weights_mem_each (j := 2) (t := es) (d := y2.1) (by simp [hf2.1]) rfl _ hn), w3 R fun n hn => hR n (DataW.weights_mem_each (j := 3) (t := te) (d := y3.1) (by simp [hf3.1]) rfl _ hn), W4.1, w5 R fun n hn => hR n (DataW.weights_mem_each (j := 5) (t := es) (d := y5.1) (by simp [hf5.1]) rfl _ hn), W4.2⟩) h
end Go.Proofs.YtncdbjflfhfddaaGreat
