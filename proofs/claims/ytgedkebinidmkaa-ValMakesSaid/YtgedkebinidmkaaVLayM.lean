/- A set's layout: spans trimmed, their members counted. Plain mathematics. -/
import Derived.Test.YtgedkebinidmkaaVTrim
import Derived.Test.YtgedkebinidmkaaVRankM
namespace Go.Proofs.Ytgedkebinidmkaa

abbrev Spans := List (Nat × Nat)
def InSpans (S : Spans) (z : Nat) : Prop := ∃ s ∈ S, s.1 ≤ z ∧ z ≤ s.2
def Rising (S : Spans) : Prop := S.Pairwise (fun a c => a.2 < c.1)
def sumR (f : Nat) (L : Spans) : Int := (L.map fun t => (cmpr f t.2 : Int) - cmpr f t.1 + 1).sum

/-- what is laid out of spans S: the spans L of what fits -/
structure Laid (k f b : Nat) (S L : Spans) : Prop where
  ends : ∀ t ∈ L, t.1 ≤ t.2 ∧ t.2 < 2 ^ k ∧ Fits f b t.1 ∧ Fits f b t.2
  same : ∀ z, z < 2 ^ k → Fits f b z → (InSpans S z ↔ InSpans L z)
  inS : ∀ t ∈ L, ∃ s ∈ S, s.1 ≤ t.1 ∧ t.2 ≤ s.2
  rise : Rising S → Rising L
  short : L.length ≤ S.length

theorem Laid.nil (k f b : Nat) : Laid k f b [] [] := ⟨by simp, fun z _ _ => Iff.rfl, by simp, fun h => h, Nat.le_refl _⟩
theorem inSpans_snoc {S : Spans} {s : Nat × Nat} {z : Nat} : InSpans (S ++ [s]) z ↔ InSpans S z ∨ (s.1 ≤ z ∧ z ≤ s.2) := by
  unfold InSpans
  constructor
  · rintro ⟨t, ht, h⟩
    rcases List.mem_append.1 ht with h' | h'
    · exact Or.inl ⟨t, h', h⟩
    · rw [List.mem_singleton] at h'
      subst h'
      exact Or.inr h
  · rintro (⟨t, ht, h⟩ | h)
    · exact ⟨t, List.mem_append.2 (Or.inl ht), h⟩
    · exact ⟨s, List.mem_append.2 (Or.inr (by simp)), h⟩
theorem Laid.none {k f b : Nat} {S L : Spans} {s : Nat × Nat} (h : Laid k f b S L) (hn : ∀ z, z < 2 ^ k → s.1 ≤ z → z ≤ s.2 → ¬ Fits f b z) : Laid k f b (S ++ [s]) L := by
  refine ⟨h.ends, fun z hz hf => ?_, fun t ht => ?_, fun hr => h.rise ?_, by rw [List.length_append]; have := h.short; omega⟩
  · rw [inSpans_snoc, h.same z hz hf]
    exact ⟨fun h' => h'.elim id (fun h' => absurd hf (hn z hz h'.1 h'.2)), Or.inl⟩
  · obtain ⟨s', hs', h'⟩ := h.inS t ht
    exact ⟨s', List.mem_append.2 (Or.inl hs'), h'⟩
  · exact (List.pairwise_append.1 hr).1
theorem Laid.some {k f b : Nat} {S L : Spans} {s : Nat × Nat} {x y : Nat} (h : Laid k f b S L) (ht : Trims k f b s.1 s.2 x y) : Laid k f b (S ++ [s]) (L ++ [(x, y)]) := by
  refine ⟨fun t h' => ?_, fun z hz hf => ?_, fun t h' => ?_, fun hr => ?_, by rw [List.length_append, List.length_append]; have := h.short; simp; omega⟩
  · rcases List.mem_append.1 h' with h' | h'
    · exact h.ends t h'
    · rw [List.mem_singleton] at h'
      subst h'
      exact ⟨ht.le, ht.lt, ht.fx, ht.fy⟩
  · rw [inSpans_snoc, inSpans_snoc, h.same z hz hf]
    constructor
    · rintro (h' | h')
      · exact Or.inl h'
      · exact Or.inr (ht.all z hz h'.1 h'.2 hf)
    · rintro (h' | h')
      · exact Or.inl h'
      · exact Or.inr ⟨Nat.le_trans ht.lo h'.1, Nat.le_trans h'.2 ht.hi⟩
  · rcases List.mem_append.1 h' with h' | h'
    · obtain ⟨s', hs', h''⟩ := h.inS t h'
      exact ⟨s', List.mem_append.2 (Or.inl hs'), h''⟩
    · rw [List.mem_singleton] at h'
      subst h'
      exact ⟨s, List.mem_append.2 (Or.inr (by simp)), ht.lo, ht.hi⟩
  · unfold Rising at hr ⊢
    rw [List.pairwise_append] at hr ⊢
    refine ⟨h.rise hr.1, by simp, fun t h' u hu => ?_⟩
    rw [List.mem_singleton] at hu
    subst hu
    obtain ⟨s', hs', h1, h2⟩ := h.inS t h'
    have h3 := hr.2.2 s' hs' s (by simp)
    have := ht.lo
    show t.2 < x
    omega
theorem sumR_snoc (f : Nat) (L : Spans) (x y : Nat) : sumR f (L ++ [(x, y)]) = sumR f L + ((cmpr f y : Int) - cmpr f x + 1) := by
  unfold sumR; rw [List.map_append, List.sum_append]; simp
theorem cmpr_lt (f n : Nat) : cmpr f n < 4294967296 := cmpF_lt 32 f n
theorem sumR_bound (f : Nat) (L : Spans) : -((L.length : Int) * 4294967296) ≤ sumR f L ∧ sumR f L ≤ (L.length : Int) * 4294967296 := by
  induction L with
  | nil => simp [sumR]
  | cons t L ih =>
    have h1 := cmpr_lt f t.1
    have h2 := cmpr_lt f t.2
    have e : sumR f (t :: L) = ((cmpr f t.2 : Int) - cmpr f t.1 + 1) + sumR f L := by unfold sumR; simp
    rw [e, List.length_cons]
    omega
end Go.Proofs.Ytgedkebinidmkaa
