/- Spans of two sets, merged, and what is told of a layout. Plain mathematics. -/
import Derived.Test.YtgedkebinidmkaaVGoodM
import Derived.Test.YtgedkebinidmkaaVTake
namespace Go.Proofs.Ytgedkebinidmkaa
open Go.RowKit

/-- what is merged of spans whose lows rise -/
structure Merged (S M : Spans) : Prop where
  le : ∀ t ∈ M, t.1 ≤ t.2
  rise : Rising M
  inn : ∀ z, InSpans M z ↔ InSpans S z
  low : ∀ t ∈ M, ∃ s ∈ S, t.1 = s.1
  high : ∀ t ∈ M, ∃ s ∈ S, t.2 = s.2
  short : M.length ≤ S.length
theorem Merged.nil : Merged [] [] := ⟨by simp, List.Pairwise.nil, fun _ => Iff.rfl, by simp, by simp, Nat.le_refl _⟩
theorem Merged.push {S M : Spans} {s : Nat × Nat} (h : Merged S M) (hs : s.1 ≤ s.2) (hl : ∀ t ∈ M, t.2 < s.1) : Merged (S ++ [s]) (M ++ [s]) := by
  refine ⟨fun t ht => ?_, ?_, fun z => ?_, fun t ht => ?_, fun t ht => ?_, by simp; exact h.short⟩
  · rcases List.mem_append.1 ht with h' | h'
    · exact h.le t h'
    · rw [List.mem_singleton] at h'; subst h'; exact hs
  · unfold Rising
    rw [List.pairwise_append]
    refine ⟨h.rise, by simp, fun t ht u hu => ?_⟩
    rw [List.mem_singleton] at hu
    subst hu
    exact hl t ht
  · rw [inSpans_snoc, inSpans_snoc, h.inn]
  · rcases List.mem_append.1 ht with h' | h'
    · obtain ⟨u, hu, e⟩ := h.low t h'
      exact ⟨u, List.mem_append.2 (Or.inl hu), e⟩
    · exact ⟨t, List.mem_append.2 (Or.inr h'), rfl⟩
  · rcases List.mem_append.1 ht with h' | h'
    · obtain ⟨u, hu, e⟩ := h.high t h'
      exact ⟨u, List.mem_append.2 (Or.inl hu), e⟩
    · exact ⟨t, List.mem_append.2 (Or.inr h'), rfl⟩
theorem last_above {M : Spans} {a b : Nat} (hr : Rising (M ++ [(a, b)])) (hle : ∀ t ∈ M ++ [(a, b)], t.1 ≤ t.2) {x : Nat} (hx : b < x) : ∀ t ∈ M ++ [(a, b)], t.2 < x := by
  intro t ht
  rcases List.mem_append.1 ht with h' | h'
  · unfold Rising at hr
    rw [List.pairwise_append] at hr
    have := hr.2.2 t h' (a, b) (by simp)
    have h2 := hle (a, b) (by simp)
    simp only at this h2
    omega
  · rw [List.mem_singleton] at h'
    subst h'
    exact hx
theorem Merged.widen {S M : Spans} {a b x y : Nat} (h : Merged S (M ++ [(a, b)])) (hs : x ≤ y) (hax : a ≤ x) (hxb : x ≤ b) : Merged (S ++ [(x, y)]) (M ++ [(a, max b y)]) := by
  have hab := h.le (a, b) (by simp)
  simp only at hab
  refine ⟨fun t ht => ?_, ?_, fun z => ?_, fun t ht => ?_, fun t ht => ?_, by have := h.short; simp at this ⊢; omega⟩
  · rcases List.mem_append.1 ht with h' | h'
    · exact h.le t (List.mem_append.2 (Or.inl h'))
    · rw [List.mem_singleton] at h'; subst h'; simp only; omega
  · have hr := h.rise
    unfold Rising at hr ⊢
    rw [List.pairwise_append] at hr ⊢
    refine ⟨hr.1, by simp, fun t ht u hu => ?_⟩
    rw [List.mem_singleton] at hu
    subst hu
    exact hr.2.2 t ht (a, b) (by simp)
  · have h1 := h.inn z
    rw [inSpans_snoc] at h1 ⊢
    rw [inSpans_snoc, ← h1]
    simp only
    constructor
    · rintro (h' | h')
      · exact Or.inl (Or.inl h')
      · by_cases hz : z ≤ b
        · exact Or.inl (Or.inr ⟨h'.1, hz⟩)
        · exact Or.inr ⟨by omega, by omega⟩
    · rintro ((h' | h') | h')
      · exact Or.inl h'
      · exact Or.inr ⟨h'.1, by omega⟩
      · exact Or.inr ⟨by omega, by omega⟩
  · rcases List.mem_append.1 ht with h' | h'
    · obtain ⟨u, hu, e⟩ := h.low t (List.mem_append.2 (Or.inl h'))
      exact ⟨u, List.mem_append.2 (Or.inl hu), e⟩
    · rw [List.mem_singleton] at h'
      subst h'
      obtain ⟨u, hu, e⟩ := h.low (a, b) (by simp)
      exact ⟨u, List.mem_append.2 (Or.inl hu), e⟩
  · rcases List.mem_append.1 ht with h' | h'
    · obtain ⟨u, hu, e⟩ := h.high t (List.mem_append.2 (Or.inl h'))
      exact ⟨u, List.mem_append.2 (Or.inl hu), e⟩
    · rw [List.mem_singleton] at h'
      subst h'
      by_cases hby : y ≤ b
      · obtain ⟨u, hu, e⟩ := h.high (a, b) (by simp)
        exact ⟨u, List.mem_append.2 (Or.inl hu), by simp only at e ⊢; omega⟩
      · exact ⟨(x, y), by simp, by simp only; omega⟩
theorem low_le {S M : Spans} {a b x : Nat} (h : Merged S (M ++ [(a, b)])) (hS : ∀ s ∈ S, s.1 ≤ x) : a ≤ x := by
  obtain ⟨s, hs, e⟩ := h.low (a, b) (by simp)
  simp only at e
  have := hS s hs
  omega
theorem inSpans_append {A C : Spans} {z : Nat} : InSpans (A ++ C) z ↔ InSpans A z ∨ InSpans C z := by
  unfold InSpans
  constructor
  · rintro ⟨t, ht, h⟩
    rcases List.mem_append.1 ht with h' | h'
    · exact Or.inl ⟨t, h', h⟩
    · exact Or.inr ⟨t, h', h⟩
  · rintro (⟨t, ht, h⟩ | ⟨t, ht, h⟩)
    · exact ⟨t, List.mem_append.2 (Or.inl ht), h⟩
    · exact ⟨t, List.mem_append.2 (Or.inr ht), h⟩
theorem inSpans_perm {A C : Spans} (h : A.Perm C) {z : Nat} : InSpans A z ↔ InSpans C z := by
  unfold InSpans
  constructor
  · rintro ⟨t, ht, h'⟩
    exact ⟨t, h.mem_iff.1 ht, h'⟩
  · rintro ⟨t, ht, h'⟩
    exact ⟨t, h.mem_iff.2 ht, h'⟩

/-- the pattern of what two patterns have together -/
def joinF (fa ba fb bb : Nat) : Nat := (fa ||| fb) ||| (ba ^^^ bb)
def joinB (fa ba fb bb : Nat) : Nat := nandn ba (joinF fa ba fb bb)
theorem join_ok {k fa ba fb bb : Nat} (ha : PatOk k fa ba) (hb : PatOk k fb bb) : PatOk k (joinF fa ba fb bb) (joinB fa ba fb bb) :=
  ⟨ha.hk, Nat.or_lt_two_pow (Nat.or_lt_two_pow ha.hf hb.hf) (Nat.xor_lt_two_pow ha.hb hb.hb), nandn_lt ha.hb, fun i h => by
    unfold joinB
    rw [nandn_bit, h]; simp⟩
theorem join_fits {fa ba fb bb z : Nat} (h : Fits fa ba z ∨ Fits fb bb z) : Fits (joinF fa ba fb bb) (joinB fa ba fb bb) z := by
  intro i hi
  have hi' := hi
  unfold joinF at hi'
  rw [Nat.testBit_or, Nat.testBit_or, Nat.testBit_xor, Bool.or_eq_false_iff, Bool.or_eq_false_iff] at hi'
  obtain ⟨⟨h1, h2⟩, h3⟩ := hi'
  unfold joinB
  rw [nandn_bit, hi]
  have e : ba.testBit i = bb.testBit i := by
    revert h3
    cases ba.testBit i <;> cases bb.testBit i <;> simp
  rcases h with h | h
  · rw [h i h1]; simp
  · rw [h i h2, e]; simp

/-- the arcs of a layout: from a part's low round to the high of the one ahead -/
def arcL (L : Spans) (i : Nat) : Nat := (L.getD i (0, 0)).1
def arcH (L : Spans) (i : Nat) : Nat := (L.getD ((i + L.length - 1) % L.length) (0, 0)).2
theorem getD_eq {L : Spans} {i : Nat} (h : i < L.length) : L.getD i (0, 0) = L[i] := by simp [List.getD, h]
theorem ahead_lt {n i : Nat} (h : i < n) : (i + n - 1) % n < n := Nat.mod_lt _ (by omega)
theorem ahead_zero {n : Nat} (h : 0 < n) : (0 + n - 1) % n = n - 1 := by rw [Nat.zero_add]; exact Nat.mod_eq_of_lt (by omega)
theorem ahead_pos {n i : Nat} (h : i < n) (h0 : 0 < i) : (i + n - 1) % n = i - 1 := by
  rw [show i + n - 1 = (i - 1) + n by omega, Nat.add_mod_right]
  exact Nat.mod_eq_of_lt (by omega)
theorem arc_all {k F B : Nat} {L : Spans} {c : Int} (g : GoodL k F B L c) {i : Nat} (hi : i < L.length) : ValOk k false (arcL L i) (arcH L i) F B ∧ (∀ z, MemL k F B L z → MemV k false (arcL L i) (arcH L i) F B z) := by
  have hp := g.pat.hk.pow
  have e1 : arcL L i = (L[i]).1 := by unfold arcL; rw [getD_eq hi]
  have e2 : arcH L i = (L[(i + L.length - 1) % L.length]'(ahead_lt hi)).2 := by unfold arcH; rw [getD_eq (ahead_lt hi)]
  have b1 := g.ends _ (List.getElem_mem hi)
  have b2 := g.ends _ (List.getElem_mem (ahead_lt hi))
  refine ⟨⟨g.pat, by rw [e1]; omega, by rw [e2]; omega⟩, fun z hz => ⟨rfl, hz.1, hz.2.1, ?_⟩⟩
  have hle : ∀ t ∈ L, t.1 ≤ t.2 := fun t ht => (g.ends t ht).1
  have ha : arcIn (arcL L i) (arcH L i) z := by
    rw [e1, e2]
    by_cases h0 : i = 0
    · subst h0
      have := arc_first g.rise hle hi hz.2.2
      simpa only [ahead_zero hi] using this
    · have := arc_later g.rise hle hi (by omega) hz.2.2
      simpa only [ahead_pos hi (by omega : 0 < i)] using this
  exact ha
/-- a layout of one part is told just so -/
theorem arc_one {k F B : Nat} {L : Spans} {c : Int} (g : GoodL k F B L c) (h1 : L.length = 1) (z : Nat) : MemV k false (arcL L 0) (arcH L 0) F B z ↔ MemL k F B L z := by
  constructor
  · rintro ⟨_, hlt, hf, hr⟩
    refine ⟨hlt, hf, L[0], List.getElem_mem _, ?_⟩
    have e1 : arcL L 0 = (L[0]).1 := by unfold arcL; rw [getD_eq (by omega)]
    have e2 : arcH L 0 = (L[0]).2 := by
      unfold arcH
      have e0 : (0 + L.length - 1) % L.length = 0 := by rw [h1]
      rw [e0, getD_eq (by omega)]
    have := (g.ends _ (List.getElem_mem (by omega : 0 < L.length))).1
    rw [e1, e2, if_pos this] at hr
    exact hr
  · exact (arc_all g (by omega)).2 z
theorem end_memL {k F B : Nat} {L : Spans} {c : Int} (g : GoodL k F B L c) {t : Nat × Nat} (ht : t ∈ L) : MemL k F B L t.1 ∧ MemL k F B L t.2 := end_mem g.ends ht
/-- a layout with one member alone has one part -/
theorem one_part {k F B : Nat} {L : Spans} {c : Int} (g : GoodL k F B L c) {m : Nat} (h : ∀ z, MemL k F B L z ↔ z = m) : L.length = 1 := by
  have hne : L.length ≠ 0 := by
    intro h0
    obtain ⟨_, _, t, ht, _⟩ := (h m).2 rfl
    cases L with
    | nil => cases ht
    | cons x r => simp at h0
  rcases Nat.lt_or_ge L.length 2 with h2 | h2
  · omega
  · have a := (h _).1 (end_memL g (List.getElem_mem (by omega : 0 < L.length))).1
    have b := (h _).1 (end_memL g (List.getElem_mem (by omega : 1 < L.length))).1
    have := List.pairwise_iff_getElem.1 g.rise 0 1 (by omega) (by omega) (by omega)
    have c := (g.ends _ (List.getElem_mem (by omega : 0 < L.length))).1
    omega
theorem no_part {k F B : Nat} {L : Spans} {c : Int} (g : GoodL k F B L c) (h : ∀ z, ¬ MemL k F B L z) : L = [] := by
  cases L with
  | nil => rfl
  | cons x r => exact absurd (end_memL g (t := x) (by simp)).1 (h _)
end Go.Proofs.Ytgedkebinidmkaa
