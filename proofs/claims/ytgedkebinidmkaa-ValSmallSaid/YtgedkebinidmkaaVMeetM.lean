/- What two layouts have together, and what is asked of meet. -/
import Derived.Test.YtgedkebinidmkaaVMergeM
import Derived.Test.YtgedkebinidmkaaVOnce
namespace Go.Proofs.Ytgedkebinidmkaa
open Go.ChangeShapes Go.WideShapes Go.ChangeAt Go.RowKit Go.Joins Go.Deep
set_option linter.unusedVariables false

theorem SpansV.src {w : World} {lo bl : Nat} {sl : Value} {L : Spans} (h : SpansV w lo bl sl L) : SrcV w sl L := by
  rcases h with ⟨rfl, rfl⟩ | ⟨h0, g, cap, rfl, _, hH⟩
  · exact ⟨none, 0, rfl, Or.inl rfl⟩
  · exact ⟨_, cap, rfl, Or.inr ⟨g, rfl, hH⟩⟩
theorem SrcV.below {w w' : World} {sv : Value} {S : Spans} (h : SrcV w sv S) (hb : Below w.heap.size w w') : SrcV w' sv S := by
  obtain ⟨p, cap, rfl, h | ⟨g, rfl, hH⟩⟩ := h
  · exact ⟨p, cap, rfl, Or.inl h⟩
  · exact ⟨_, cap, rfl, Or.inr ⟨g, rfl, hH.below hb⟩⟩
theorem SrcV.below' {w w' : World} {sv : Value} {S : Spans} (hb : Below w.heap.size w w') (h : SrcV w sv S) : SrcV w' sv S := h.below hb
/-- where the fixed bits of two patterns part -/
def offM (k fa ba fb bb : Nat) : Nat := ((ba ^^^ bb) &&& fixedN k fa) &&& fixedN k fb
theorem offM_zero {k fa ba fb bb : Nat} (ha : PatOk k fa ba) (hb : PatOk k fb bb) : offM k fa ba fb bb = 0 ↔ ∀ i, fa.testBit i = false → fb.testBit i = false → ba.testBit i = bb.testBit i := by
  unfold offM
  constructor
  · intro h i h1 h2
    by_cases hi : i < k
    · have := congrArg (fun x => Nat.testBit x i) h
      simp only [Nat.testBit_and, Nat.testBit_xor, fixedN_bit, Nat.zero_testBit, h1, h2, hi] at this
      revert this
      cases ba.testBit i <;> cases bb.testBit i <;> simp
    · rw [out_bit ha.hb hi, out_bit hb.hb hi]
  · intro h
    apply Nat.eq_of_testBit_eq
    intro i
    simp only [Nat.testBit_and, Nat.testBit_xor, fixedN_bit, Nat.zero_testBit]
    cases e1 : fa.testBit i
    · cases e2 : fb.testBit i
      · rw [h i e1 e2]; simp
      · simp
    · simp
theorem offM_lt {k fa ba fb bb : Nat} (ha : PatOk k fa ba) (hb : PatOk k fb bb) : offM k fa ba fb bb < 2 ^ k := lt_of_and (lt_of_and (Nat.xor_lt_two_pow ha.hb hb.hb))
theorem meet_pat {k fa ba fb bb : Nat} (ha : PatOk k fa ba) (hb : PatOk k fb bb) : PatOk k (fa &&& fb) (ba ||| bb) :=
  ⟨ha.hk, lt_of_and ha.hf, Nat.or_lt_two_pow ha.hb hb.hb, fun i h => by
    rw [Nat.testBit_and, Bool.and_eq_true] at h
    rw [Nat.testBit_or, ha.hbf i h.1, hb.hbf i h.2]; rfl⟩
/-- two whose fixed bits part have nothing together -/
theorem meet_none {k fa ba fb bb : Nat} (ha : PatOk k fa ba) (hb : PatOk k fb bb) (h : offM k fa ba fb bb ≠ 0) {z : Nat} : ¬ (Fits fa ba z ∧ Fits fb bb z) := by
  rintro ⟨h1, h2⟩
  exact h ((offM_zero ha hb).2 (fun i e1 e2 => (h1 i e1).symm.trans (h2 i e2)))
theorem meetS_lt {k : Nat} {A C : Spans} (hA : ∀ t ∈ A, t.1 ≤ t.2 ∧ t.2 < 2 ^ k) (hC : ∀ t ∈ C, t.1 ≤ t.2 ∧ t.2 < 2 ^ k) : ∀ u ∈ meetS A C, u.1 < 2 ^ k ∧ u.2 < 2 ^ k := by
  intro u hu
  obtain ⟨s, hs, t, ht, hle, rfl⟩ := meetS_mem.1 hu
  have h1 := hA s hs
  have h2 := hC t ht
  simp only
  omega
theorem meetS_one (s : Nat × Nat) (C : Spans) : meetS [s] C = C.filterMap fun t => if max s.1 t.1 ≤ min s.2 t.2 then some (max s.1 t.1, min s.2 t.2) else none := by
  unfold meetS; simp
theorem meetS_snocA (A C : Spans) (s : Nat × Nat) : meetS (A ++ [s]) C = meetS A C ++ meetS [s] C := by
  unfold meetS; simp
theorem meetS_snocC (s : Nat × Nat) (C : Spans) (t : Nat × Nat) : meetS [s] (C ++ [t]) = meetS [s] C ++ if max s.1 t.1 ≤ min s.2 t.2 then [(max s.1 t.1, min s.2 t.2)] else [] := by
  rw [meetS_one, meetS_one, List.filterMap_append]
  by_cases h : max s.1 t.1 ≤ min s.2 t.2 <;> simp [List.filterMap_cons, h]
theorem meetS_len1 (s : Nat × Nat) (C : Spans) : (meetS [s] C).length ≤ C.length := by rw [meetS_one]; exact List.length_filterMap_le _ _
theorem meetS_len (A C : Spans) : (meetS A C).length ≤ A.length * C.length := by
  induction A with
  | nil => simp [meetS]
  | cons s A ih =>
    have e : meetS (s :: A) C = meetS [s] C ++ meetS A C := by unfold meetS; simp
    rw [e, List.length_append, List.length_cons, Nat.add_mul, Nat.one_mul]
    have := meetS_len1 s C
    omega
/-- what of one layout lies in another: each part in one of its parts, and what fits the one pattern fits the other -/
def SubL (fa ba : Nat) (La : Spans) (F B : Nat) (L : Spans) : Prop := (∀ t ∈ L, ∃ s ∈ La, s.1 ≤ t.1 ∧ t.2 ≤ s.2) ∧ (L ≠ [] → ∀ z, Fits F B z → Fits fa ba z)
theorem SubL.nil {fa ba F B : Nat} {La : Spans} : SubL fa ba La F B [] := ⟨(by simp), fun h => absurd rfl h⟩
theorem SubL.trans {f1 b1 f2 b2 f3 b3 : Nat} {L1 L2 L3 : Spans} (h : SubL f1 b1 L1 f2 b2 L2) (h' : SubL f2 b2 L2 f3 b3 L3) : SubL f1 b1 L1 f3 b3 L3 := by
  refine ⟨fun t ht => ?_, fun hn z hz => ?_⟩
  · obtain ⟨s, hs, h1, h2⟩ := h'.1 t ht
    obtain ⟨r, hr, h3, h4⟩ := h.1 s hs
    exact ⟨r, hr, by omega, by omega⟩
  · have hn2 : L2 ≠ [] := fun e => by
      cases L3 with
      | nil => exact hn rfl
      | cons x r =>
        obtain ⟨s, hs, _⟩ := h'.1 x (by simp)
        rw [e] at hs
        cases hs
    exact h.2 hn2 z (h'.2 hn z hz)
theorem nar_sub {f b lo hi z : Nat} (hlo : Fits f b lo) (h : Fits (nf f lo hi) (nb f lo hi) z) : Fits f b z := by
  intro i hf
  have hF : (nf f lo hi).testBit i = false := by rw [nf_bit, hf]; rfl
  rw [h i hF, nb_bit, hF, hlo i hf]; simp
theorem sub_of_laid {k f b fa ba : Nat} {S L La : Spans} (hl : Laid k f b S L) (hS : ∀ s ∈ S, ∃ a ∈ La, a.1 ≤ s.1 ∧ s.2 ≤ a.2) (hfit : ∀ z, Fits f b z → Fits fa ba z) : SubL fa ba La (narF f L) (narB f b L) L := by
  refine ⟨fun t ht => ?_, fun hn z hz => ?_⟩
  · obtain ⟨s, hs, h1, h2⟩ := hl.inS t ht
    obtain ⟨r, hr, h3, h4⟩ := hS s hs
    exact ⟨r, hr, by omega, by omega⟩
  · have h0 : 0 < L.length := List.length_pos_iff.2 hn
    obtain ⟨e1, e2⟩ := nar_eq (f := f) (b := b) h0
    rw [e1, e2] at hz
    exact hfit z (nar_sub (hl.ends _ (List.getElem_mem h0)).2.2.1 hz)
theorem meetS_sub {A C : Spans} : ∀ u ∈ meetS A C, ∃ s ∈ A, s.1 ≤ u.1 ∧ u.2 ≤ s.2 := by
  intro u hu
  obtain ⟨s, hs, t, ht, hle, rfl⟩ := meetS_mem.1 hu
  exact ⟨s, hs, by simp only; omega, by simp only; omega⟩
def MeetPost (k fa ba : Nat) (La : Spans) (fb bb : Nat) (Lb : Spans) (w : World) (e : Ending) (w' : World) : Prop :=
  ∃ F B L c bl, e = .returned (.pointer (some ⟨bl, 0, none⟩)) ∧ LayAt w' w.heap.size bl k F B L c ∧ GoodL k F B L c ∧ (∀ z, MemL k F B L z ↔ MemL k fa ba La z ∧ MemL k fb bb Lb z) ∧ SubL fa ba La F B L ∧ w.heap.size ≤ bl ∧ Below w.heap.size w w'
theorem good_of_lay {k f b : Nat} {S L : Spans} (ok : PatOk k f b) (hl : Laid k f b S L) (hr : Rising S) : GoodL k (narF f L) (narB f b L) L (sumR f L) ∧ ∀ z, MemL k (narF f L) (narB f b L) L z ↔ (z < 2 ^ k ∧ Fits f b z ∧ InSpans S z) := by
  obtain ⟨g, hm⟩ := good_of_laid ok hl (hl.rise hr)
  refine ⟨g, fun z => (hm z).trans ?_⟩
  unfold MemL
  constructor
  · rintro ⟨h1, h2, h3⟩
    exact ⟨h1, h2, (hl.same z h1 h2).2 h3⟩
  · rintro ⟨h1, h2, h3⟩
    exact ⟨h1, h2, (hl.same z h1 h2).1 h3⟩
/-- what meet does, for every two layouts (proved in VMeet) -/
def MeetHolds : Prop := ∀ (bla blb k fa ba fb bb : Nat) (La Lb : Spans) (sla slb : Value) (ca cb : Int), GoodL k fa ba La ca → GoodL k fb bb Lb cb → La.length ≤ 9 → Lb.length ≤ 9 → ∀ w : World,
    At w bla (layC k fa ba sla ca) 83 → At w blb (layC k fb bb slb cb) 83 → SrcV w sla La → SrcV w slb Lb →
    Calls Try.prog 34 #[.pointer (some ⟨bla, 0, none⟩), .pointer (some ⟨blb, 0, none⟩)] w (MeetPost k fa ba La fb bb Lb w)
end Go.Proofs.Ytgedkebinidmkaa
