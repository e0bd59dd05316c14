/- Layouts as sets: what holds of each, and of what two of them have together. Plain mathematics. -/
import Derived.Test.YtgedkebinidmkaaVCntM
import Derived.Test.YtgedkebinidmkaaVNextM
namespace Go.Proofs.Ytgedkebinidmkaa
open Go.RowKit

/-- what holds of a layout in memory: pattern F, B, spans L, count c -/
structure GoodL (k F B : Nat) (L : Spans) (c : Int) : Prop where
  pat : PatOk k F B
  ends : ∀ t ∈ L, t.1 ≤ t.2 ∧ t.2 < 2 ^ k ∧ Fits F B t.1 ∧ Fits F B t.2
  rise : Rising L
  cnt : c = (cntP (memLB F B L) (2 ^ k) : Nat)
theorem memLB_iff {k F B : Nat} {L : Spans} {c : Int} (g : GoodL k F B L c) (z : Nat) : memLB F B L z = true ↔ MemL k F B L z := by
  unfold memLB MemL
  rw [Bool.and_eq_true, fitB_iff g.pat.hbf, inB_iff]
  constructor
  · rintro ⟨h1, t, ht, h2, h3⟩
    have := g.ends t ht
    exact ⟨by omega, h1, t, ht, h2, h3⟩
  · exact fun h => ⟨h.2.1, h.2.2⟩
theorem inSpans_ends {L : Spans} (hr : Rising L) (he : ∀ t ∈ L, t.1 ≤ t.2) {z : Nat} (h : InSpans L z) : ∃ h0 : 0 < L.length, (L[0]'h0).1 ≤ z ∧ z ≤ (L[L.length - 1]'(by omega)).2 := by
  obtain ⟨t, ht, h1, h2⟩ := h
  obtain ⟨j, hj, rfl⟩ := List.getElem_of_mem ht
  obtain ⟨b1, b2⟩ := ends_bound hr he (by omega) hj
  exact ⟨by omega, by omega, by omega⟩
/-- what lay makes -/
theorem good_of_laid {k f b : Nat} {S L : Spans} (ok : PatOk k f b) (hl : Laid k f b S L) (hr : Rising L) : GoodL k (narF f L) (narB f b L) L (sumR f L) ∧ ∀ z, MemL k (narF f L) (narB f b L) L z ↔ MemL k f b L z := by
  have hp := ok.hk.pow
  have hel := fun t ht => (hl.ends t ht).1
  by_cases h0 : L = []
  · subst h0
    refine ⟨⟨ok, by simp, hr, ?_⟩, fun z => Iff.rfl⟩
    rw [cntP_none (fun z _ => by simp [memLB, inB])]
    rfl
  · have hpos : 0 < L.length := List.length_pos_iff.2 h0
    obtain ⟨e1, e2⟩ := nar_eq (f := f) (b := b) hpos
    have h00 := hl.ends _ (List.getElem_mem hpos)
    have hll := hl.ends _ (List.getElem_mem (h := (by omega : L.length - 1 < L.length)))
    have fit : ∀ z, InSpans L z → (Fits (narF f L) (narB f b L) z ↔ Fits f b z) := fun z hz => by
      obtain ⟨_, h1, h2⟩ := inSpans_ends hr hel hz
      rw [e1, e2]
      exact nar_fits (by omega) (by omega) h00.2.2.1 h1 h2
    have okF : PatOk k (narF f L) (narB f b L) := by rw [e1, e2]; exact nar_ok ok (by omega)
    have mem : ∀ z, MemL k (narF f L) (narB f b L) L z ↔ MemL k f b L z := fun z => by
      unfold MemL
      constructor
      · rintro ⟨h1, h2, h3⟩
        exact ⟨h1, (fit z h3).1 h2, h3⟩
      · rintro ⟨h1, h2, h3⟩
        exact ⟨h1, (fit z h3).2 h2, h3⟩
    refine ⟨⟨okF, fun t ht => ?_, hr, ?_⟩, mem⟩
    · obtain ⟨h1, h2, h3, h4⟩ := hl.ends t ht
      exact ⟨h1, h2, (fit t.1 ⟨t, ht, Nat.le_refl _, h1⟩).2 h3, (fit t.2 ⟨t, ht, h1, Nat.le_refl _⟩).2 h4⟩
    · rw [sumR_cnt (k := k) (N := 2 ^ k) ok.hbf (Nat.le_refl _) ok.hk.le L hr hl.ends]
      congr 1
      apply cntP_congr
      intro z hz
      rw [Bool.eq_iff_iff]
      unfold memLB
      rw [Bool.and_eq_true, Bool.and_eq_true, fitB_iff ok.hbf, fitB_iff okF.hbf, inB_iff]
      constructor
      · rintro ⟨h1, h2⟩
        exact ⟨(fit z h2).2 h1, h2⟩
      · rintro ⟨h1, h2⟩
        exact ⟨(fit z h2).1 h1, h2⟩
/-- as many in what both have as in one: it lies in the other -/
theorem within_iff {k Fa Ba Fm Bm : Nat} {La Lm : Spans} {ca cm : Int} {Bm' : Nat → Prop} (ga : GoodL k Fa Ba La ca) (gm : GoodL k Fm Bm Lm cm) (hm : ∀ z, MemL k Fm Bm Lm z ↔ MemL k Fa Ba La z ∧ Bm' z) : (cm == ca) = true ↔ ∀ z, MemL k Fa Ba La z → Bm' z := by
  rw [beq_iff_eq, gm.cnt, ga.cnt]
  have h := cntP_sub (p := memLB Fm Bm Lm) (q := memLB Fa Ba La) (n := 2 ^ k) (fun z _ hz => by
    rw [memLB_iff ga]
    exact ((hm z).1 ((memLB_iff gm z).1 hz)).1)
  constructor
  · intro e z hz
    have e' : cntP (memLB Fm Bm Lm) (2 ^ k) = cntP (memLB Fa Ba La) (2 ^ k) := by omega
    have := h.2 e' z hz.1 ((memLB_iff ga z).2 hz)
    exact ((hm z).1 ((memLB_iff gm z).1 this)).2
  · intro hs
    congr 1
    apply cntP_congr
    intro z hz
    rw [Bool.eq_iff_iff, memLB_iff gm, memLB_iff ga, hm]
    exact ⟨fun h => h.1, fun h => ⟨h, hs z h⟩⟩

/-- two patterns together -/
theorem meet_fits {fa ba fb bb z : Nat} (ha : ∀ i, fa.testBit i = true → ba.testBit i = false) (hb : ∀ i, fb.testBit i = true → bb.testBit i = false)
    (hno : ∀ i, fa.testBit i = false → fb.testBit i = false → ba.testBit i = bb.testBit i) : Fits (fa &&& fb) (ba ||| bb) z ↔ Fits fa ba z ∧ Fits fb bb z := by
  constructor
  · intro h
    constructor
    · intro i hi
      have := h i (by rw [Nat.testBit_and, hi]; rfl)
      rw [this, Nat.testBit_or]
      cases e : fb.testBit i
      · rw [hno i hi e]; simp
      · rw [hb i e]; simp
    · intro i hi
      have := h i (by rw [Nat.testBit_and, hi]; simp)
      rw [this, Nat.testBit_or]
      cases e : fa.testBit i
      · rw [hno i e hi]; simp
      · rw [ha i e]; simp
  · rintro ⟨h1, h2⟩ i hi
    rw [Nat.testBit_and] at hi
    rw [Nat.testBit_or]
    cases ea : fa.testBit i
    · cases eb : fb.testBit i
      · rw [h1 i ea, ← hno i ea eb]; simp
      · rw [h1 i ea, hb i eb]; simp
    · rw [ea] at hi
      have eb : fb.testBit i = false := by simpa using hi
      rw [h2 i eb, ha i ea]; simp
theorem meet_ok {k fa ba fb bb : Nat} (ha : PatOk k fa ba) (hb : PatOk k fb bb) (_ : ∀ i, fa.testBit i = false → fb.testBit i = false → ba.testBit i = bb.testBit i) : PatOk k (fa &&& fb) (ba ||| bb) :=
  ⟨ha.hk, lt_of_and ha.hf, Nat.or_lt_two_pow ha.hb hb.hb, fun i h => by
    rw [Nat.testBit_and, Bool.and_eq_true] at h
    rw [Nat.testBit_or, ha.hbf i h.1, hb.hbf i h.2]; rfl⟩
/-- the spans that two have together, in the order of the loops -/
def meetS (A C : Spans) : Spans := A.flatMap fun s => C.filterMap fun t => if max s.1 t.1 ≤ min s.2 t.2 then some (max s.1 t.1, min s.2 t.2) else none
theorem meetS_mem {A C : Spans} {u : Nat × Nat} : u ∈ meetS A C ↔ ∃ s ∈ A, ∃ t ∈ C, max s.1 t.1 ≤ min s.2 t.2 ∧ u = (max s.1 t.1, min s.2 t.2) := by
  unfold meetS
  simp only [List.mem_flatMap, List.mem_filterMap]
  constructor
  · rintro ⟨s, hs, t, ht, h⟩
    split at h
    · rename_i hle
      simp at h
      exact ⟨s, hs, t, ht, hle, h.symm⟩
    · cases h
  · rintro ⟨s, hs, t, ht, hle, rfl⟩
    exact ⟨s, hs, t, ht, by rw [if_pos hle]⟩
theorem meetS_in {A C : Spans} {z : Nat} : InSpans (meetS A C) z ↔ InSpans A z ∧ InSpans C z := by
  constructor
  · rintro ⟨u, hu, h1, h2⟩
    obtain ⟨s, hs, t, ht, hle, rfl⟩ := meetS_mem.1 hu
    simp only at h1 h2
    exact ⟨⟨s, hs, by omega, by omega⟩, ⟨t, ht, by omega, by omega⟩⟩
  · rintro ⟨⟨s, hs, h1, h2⟩, ⟨t, ht, h3, h4⟩⟩
    exact ⟨_, meetS_mem.2 ⟨s, hs, t, ht, by omega, rfl⟩, by show max s.1 t.1 ≤ z; omega, by show z ≤ min s.2 t.2; omega⟩
theorem meetS_rise {A C : Spans} (hA : Rising A) (hC : Rising C) : Rising (meetS A C) := by
  unfold Rising meetS at *
  rw [List.pairwise_flatMap]
  refine ⟨fun s _ => ?_, hA.imp ?_⟩
  · rw [List.pairwise_filterMap]
    refine hC.imp ?_
    intro t u htu x hx y hy
    split at hx
    · split at hy
      · simp at hx hy
        rw [← hx, ← hy]
        show min s.2 t.2 < max s.1 u.1
        omega
      · cases hy
    · cases hx
  · intro s s' hss x hx y hy
    rw [List.mem_filterMap] at hx hy
    obtain ⟨t, _, hx⟩ := hx
    obtain ⟨u, _, hy⟩ := hy
    split at hx
    · split at hy
      · simp at hx hy
        rw [← hx, ← hy]
        show min s.2 t.2 < max s'.1 u.1
        omega
      · cases hy
    · cases hx
/-- the arc from a part's low round to the one ahead's high -/
def arcIn (l h z : Nat) : Prop := if l ≤ h then l ≤ z ∧ z ≤ h else l ≤ z ∨ z ≤ h
theorem arc_first {L : Spans} (hr : Rising L) (he : ∀ t ∈ L, t.1 ≤ t.2) (h0 : 0 < L.length) {z : Nat} (hz : InSpans L z) : arcIn (L[0]'h0).1 (L[L.length - 1]'(by omega)).2 z := by
  obtain ⟨_, h1, h2⟩ := inSpans_ends hr he hz
  unfold arcIn
  rw [if_pos (by omega)]
  exact ⟨h1, h2⟩
theorem arc_later {L : Spans} (hr : Rising L) (he : ∀ t ∈ L, t.1 ≤ t.2) {i : Nat} (hi : i < L.length) (hi0 : 0 < i) {z : Nat} (hz : InSpans L z) : arcIn (L[i]'hi).1 (L[i - 1]'(by omega)).2 z := by
  have hp := List.pairwise_iff_getElem.1 hr
  have h1 := hp (i - 1) i (by omega) hi (by omega)
  unfold arcIn
  rw [if_neg (by omega)]
  obtain ⟨t, ht, h2, h3⟩ := hz
  obtain ⟨j, hj, rfl⟩ := List.getElem_of_mem ht
  by_cases hji : j < i
  · right
    by_cases e : j = i - 1
    · subst e; exact h3
    · have := hp j (i - 1) hj (by omega) (by omega)
      have := he _ (List.getElem_mem (h := (by omega : i - 1 < L.length)))
      omega
  · left
    by_cases e : j = i
    · subst e; exact h2
    · have := hp i j hi hj (by omega)
      have := he _ (List.getElem_mem hi)
      omega
/-- one of the arcs lies in an arc in which each part lies whole -/
theorem arc_fits {L : Spans} {l h : Nat} (hr : Rising L) (he : ∀ t ∈ L, t.1 ≤ t.2) (h0 : 0 < L.length) (hin : ∀ t ∈ L, if l ≤ h then l ≤ t.1 ∧ t.2 ≤ h else t.2 ≤ h ∨ l ≤ t.1) :
    (∀ z, arcIn (L[0]'h0).1 (L[L.length - 1]'(by omega)).2 z → arcIn l h z) ∨ ∃ (i : Nat) (hi : i < L.length), 0 < i ∧ ∀ z, arcIn (L[i]'hi).1 (L[i - 1]'(by omega)).2 z → arcIn l h z := by
  have hp := List.pairwise_iff_getElem.1 hr
  have hends := ends_bound hr he h0 h0
  by_cases hlh : l ≤ h
  · left
    intro z hz
    have a1 := hin _ (List.getElem_mem h0)
    have a2 := hin _ (List.getElem_mem (h := (by omega : L.length - 1 < L.length)))
    rw [if_pos hlh] at a1 a2
    have b1 := he _ (List.getElem_mem h0)
    unfold arcIn at hz ⊢
    rw [if_pos (by omega)] at hz
    rw [if_pos hlh]
    omega
  · have hin' : ∀ t ∈ L, t.2 ≤ h ∨ l ≤ t.1 := fun t ht => by have := hin t ht; rw [if_neg hlh] at this; exact this
    have b1 := he _ (List.getElem_mem h0)
    by_cases hall : ∃ i, ∃ hi : i < L.length, 0 < i ∧ (L[i]'hi).1 ≥ l ∧ (L[i - 1]'(by omega)).2 ≤ h
    · obtain ⟨i, hi, hi0, h1, h2⟩ := hall
      right
      refine ⟨i, hi, hi0, fun z hz => ?_⟩
      have := hp (i - 1) i (by omega) hi (by omega)
      unfold arcIn at hz ⊢
      rw [if_neg (by omega)] at hz
      rw [if_neg hlh]
      omega
    · left
      intro z hz
      unfold arcIn at hz ⊢
      rw [if_pos (by omega)] at hz
      rw [if_neg hlh]
      -- all parts lie on one side
      have side : (∀ j (hj : j < L.length), (L[j]'hj).2 ≤ h) ∨ ∀ j (hj : j < L.length), l ≤ (L[j]'hj).1 := by
        rcases hin' _ (List.getElem_mem h0) with hs | hs
        · left
          intro j
          induction j with
          | zero => exact fun _ => hs
          | succ j ih =>
            intro hj
            rcases hin' _ (List.getElem_mem hj) with h3 | h3
            · exact h3
            · exact absurd ⟨j + 1, hj, by omega, h3, ih (by omega)⟩ hall
        · right
          intro j hj
          by_cases e : j = 0
          · subst e; exact hs
          · have := hp 0 j h0 hj (by omega)
            omega
      rcases side with hs | hs
      · right
        have := hs (L.length - 1) (by omega)
        omega
      · left
        have := hs 0 h0
        omega
end Go.Proofs.Ytgedkebinidmkaa
