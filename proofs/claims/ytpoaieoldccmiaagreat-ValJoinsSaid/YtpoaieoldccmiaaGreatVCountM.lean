/- How many members a layout has, as far as none and one. Plain mathematics. -/
import Derived.Test.YtpoaieoldccmiaaGreatVTake
namespace Go.Proofs.YtpoaieoldccmiaaGreat
open Go.RowKit

theorem cmpF_mono (m : Nat) : ∀ (f x y : Nat), (∀ i, f.testBit i = false → x.testBit i = y.testBit i) → x < y → y < 2 ^ m → cmpF m f x < cmpF m f y := by
  induction m with
  | zero => intro f x y _ h1 h2; simp at h2; omega
  | succ m ih =>
    intro f x y hf h1 h2
    rw [Nat.pow_succ] at h2
    have hf' : ∀ i, (f / 2).testBit i = false → (x / 2).testBit i = (y / 2).testBit i := fun i hi => by
      rw [← Nat.testBit_succ, ← Nat.testBit_succ]
      exact hf (i + 1) (by rw [Nat.testBit_succ]; exact hi)
    unfold cmpF
    by_cases o : f % 2 = 1
    · rw [if_pos o, if_pos o]
      by_cases e : x / 2 = y / 2
      · rw [e]; omega
      · have := ih (f / 2) (x / 2) (y / 2) hf' (by omega) (by omega)
        omega
    · rw [if_neg o, if_neg o]
      have h0 := hf 0 (by rw [testBit_zero']; simpa using o)
      rw [testBit_zero', testBit_zero'] at h0
      have e : x % 2 = y % 2 := by
        by_cases hx : x % 2 = 1
        · rw [hx] at h0; simp at h0; omega
        · have : x % 2 = 0 := by omega
          rw [this] at h0; simp at h0; omega
      exact ih (f / 2) (x / 2) (y / 2) hf' (by omega) (by omega)
theorem cmpr_mono {f b x y : Nat} (hx : Fits f b x) (hy : Fits f b y) (h : x < y) (hy2 : y < 2 ^ 32) : cmpr f x < cmpr f y :=
  cmpF_mono 32 f x y (fun i hi => by rw [hx i hi, hy i hi]) h hy2
theorem sumR_cons (f : Nat) (t : Nat × Nat) (L : Spans) : sumR f (t :: L) = ((cmpr f t.2 : Int) - cmpr f t.1 + 1) + sumR f L := by unfold sumR; simp
theorem term_ge {k f b : Nat} {t : Nat × Nat} (hk : k ≤ 32) (h : t.1 ≤ t.2 ∧ t.2 < 2 ^ k ∧ Fits f b t.1 ∧ Fits f b t.2) : 1 ≤ (cmpr f t.2 : Int) - cmpr f t.1 + 1 ∧ ((cmpr f t.2 : Int) - cmpr f t.1 + 1 = 1 → t.1 = t.2) := by
  have hp : (2 : Nat) ^ k ≤ 2 ^ 32 := Nat.pow_le_pow_right (by decide) hk
  by_cases e : t.1 = t.2
  · rw [e]; exact ⟨by omega, fun _ => rfl⟩
  · have := cmpr_mono h.2.2.1 h.2.2.2 (by omega) (by omega)
    exact ⟨by omega, fun h => by omega⟩
theorem sumR_ge {k f b : Nat} {L : Spans} (hk : k ≤ 32) (h : ∀ t ∈ L, t.1 ≤ t.2 ∧ t.2 < 2 ^ k ∧ Fits f b t.1 ∧ Fits f b t.2) : (L.length : Int) ≤ sumR f L := by
  induction L with
  | nil => simp [sumR]
  | cons t L ih =>
    have h1 := (term_ge hk (h t (by simp))).1
    have h2 := ih (fun t ht => h t (by simp [ht]))
    rw [sumR_cons, List.length_cons]
    omega
theorem end_mem {k f b : Nat} {L : Spans} {t : Nat × Nat} (h : ∀ t ∈ L, t.1 ≤ t.2 ∧ t.2 < 2 ^ k ∧ Fits f b t.1 ∧ Fits f b t.2) (ht : t ∈ L) : MemL k f b L t.1 ∧ MemL k f b L t.2 := by
  obtain ⟨h1, h2, h3, h4⟩ := h t ht
  exact ⟨⟨by omega, h3, t, ht, Nat.le_refl _, h1⟩, ⟨h2, h4, t, ht, h1, Nat.le_refl _⟩⟩
theorem sumR_zero {k f b : Nat} {S L : Spans} (hk : k ≤ 32) (hl : Laid k f b S L) : sumR f L = 0 ↔ ∀ z, ¬ MemL k f b L z := by
  constructor
  · intro h z hM
    have := sumR_ge hk hl.ends
    have h0 : L = [] := List.eq_nil_of_length_eq_zero (by omega)
    obtain ⟨_, _, t, ht, _⟩ := hM
    rw [h0] at ht
    simp at ht
  · intro h
    cases L with
    | nil => rfl
    | cons t L => exact absurd (end_mem hl.ends (t := t) (by simp)).1 (h _)
theorem sumR_one {k f b : Nat} {S L : Spans} (hk : k ≤ 32) (hl : Laid k f b S L) (hr : Rising L) : sumR f L = 1 ↔ ∃ (h0 : 0 < L.length), ∀ z, MemL k f b L z ↔ z = (L[0]'h0).1 := by
  constructor
  · intro h
    have hge := sumR_ge hk hl.ends
    match L, hl, h, hge with
    | [], _, h, _ => simp [sumR] at h
    | [t], hl, h, _ =>
      have h1 := term_ge hk (hl.ends t (by simp))
      rw [sumR_cons] at h
      have h2 := h1.2 (by simpa [sumR] using h)
      refine ⟨by simp, fun z => ⟨fun hM => ?_, fun e => ?_⟩⟩
      · obtain ⟨_, _, t', ht', h3, h4⟩ := hM
        simp at ht'
        subst ht'
        show z = t'.1
        omega
      · rw [e]
        exact (end_mem hl.ends (by simp)).1
    | t :: u :: L, hl, h, hge =>
      rw [List.length_cons, List.length_cons] at hge
      omega
  · rintro ⟨h0, h⟩
    match L, hl, hr, h0, h with
    | [], _, _, h0, _ => simp at h0
    | [t], hl, _, _, h =>
      have h2 := (h t.2).1 (end_mem hl.ends (by simp)).2
      have h2' : t.2 = t.1 := h2
      rw [sumR_cons, h2']
      simp [sumR]
    | t :: u :: L, hl, hr, _, h =>
      exfalso
      have h2 := (h u.1).1 (end_mem hl.ends (t := u) (by simp)).1
      have h2' : u.1 = t.1 := h2
      have h3 := hl.ends t (by simp)
      have h4 := (List.pairwise_cons.1 hr).1 u (by simp)
      omega
end Go.Proofs.YtpoaieoldccmiaaGreat
