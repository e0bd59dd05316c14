/- The number of a layout's members. Plain mathematics. -/
import Derived.Test.YtgedkebinidmkaaVCountM
namespace Go.Proofs.Ytgedkebinidmkaa
open Go.RowKit

/-- how many below n -/
def cntP (p : Nat → Bool) : Nat → Nat
  | 0 => 0
  | n + 1 => cntP p n + if p n = true then 1 else 0
theorem cntP_congr {p q : Nat → Bool} {n : Nat} (h : ∀ z, z < n → p z = q z) : cntP p n = cntP q n := by
  induction n with
  | zero => rfl
  | succ n ih =>
    unfold cntP
    rw [ih (fun z hz => h z (by omega)), h n (by omega)]
theorem cntP_two (p : Nat → Bool) (y : Nat) : cntP p (2 * y) = cntP (fun z => p (2 * z)) y + cntP (fun z => p (2 * z + 1)) y := by
  induction y with
  | zero => rfl
  | succ y ih =>
    show cntP p (2 * y + 1 + 1) = _
    simp only [cntP]
    rw [ih]
    omega
theorem cntP_none {p : Nat → Bool} {n : Nat} (h : ∀ z, z < n → p z = false) : cntP p n = 0 := by
  induction n with
  | zero => rfl
  | succ n ih =>
    unfold cntP
    rw [ih (fun z hz => h z (by omega)), h n (by omega)]
    simp
/-- where one lies in the other and both have as many, they are the same -/
theorem cntP_sub {p q : Nat → Bool} {n : Nat} (h : ∀ z, z < n → p z = true → q z = true) : cntP p n ≤ cntP q n ∧ (cntP p n = cntP q n → ∀ z, z < n → q z = true → p z = true) := by
  induction n with
  | zero => exact ⟨Nat.le_refl _, fun _ z hz => absurd hz (by omega)⟩
  | succ n ih =>
    obtain ⟨h1, h2⟩ := ih (fun z hz => h z (by omega))
    unfold cntP
    cases hp : p n
    · cases hq : q n
      · refine ⟨by simpa using h1, fun he z hz hqz => ?_⟩
        rcases Nat.lt_or_ge z n with h3 | h3
        · exact h2 (by simpa using he) z h3 hqz
        · obtain rfl : z = n := by omega
          rw [hq] at hqz; cases hqz
      · simp only [Bool.false_eq_true, if_false, if_true]
        exact ⟨by omega, fun he => by omega⟩
    · have hq := h n (by omega) hp
      rw [hq]
      simp only [if_true]
      refine ⟨by omega, fun he z hz hqz => ?_⟩
      rcases Nat.lt_or_ge z n with h3 | h3
      · exact h2 (by omega) z h3 hqz
      · obtain rfl : z = n := by omega
        exact hp

def fitB (f b z : Nat) : Bool := decide (nandn z f = b)
theorem fitB_iff {f b z : Nat} (hbf : ∀ i, f.testBit i = true → b.testBit i = false) : fitB f b z = true ↔ Fits f b z := by
  unfold fitB; rw [decide_eq_true_iff, fits_iff hbf]; exact Iff.rfl
theorem fits_half {f b z r : Nat} (hr : r < 2) : Fits f b (2 * z + r) ↔ Fits (f / 2) (b / 2) z ∧ (f % 2 = 1 ∨ r = b % 2) := by
  have e0 : (2 * z + r) / 2 = z := by omega
  have e1 : (2 * z + r) % 2 = r := by omega
  constructor
  · intro h
    refine ⟨fun i hi => ?_, ?_⟩
    · have := h (i + 1) (by rw [Nat.testBit_succ]; exact hi)
      rw [Nat.testBit_succ, Nat.testBit_succ, e0] at this
      exact this
    · by_cases o : f % 2 = 1
      · exact Or.inl o
      · have := h 0 (by rw [testBit_zero']; simpa using o)
        rw [testBit_zero', testBit_zero', e1] at this
        right
        by_cases hb : b % 2 = 1
        · simp [hb] at this; omega
        · have : r ≠ 1 := fun h => by simp [hb, h] at this
          omega
  · rintro ⟨h1, h2⟩ i hi
    cases i with
    | zero =>
      rw [testBit_zero'] at hi
      have o : ¬ f % 2 = 1 := by simpa using hi
      rw [testBit_zero', testBit_zero', e1]
      rcases h2 with h2 | h2
      · exact absurd h2 o
      · rw [h2]
    | succ i =>
      rw [Nat.testBit_succ] at hi
      rw [Nat.testBit_succ, Nat.testBit_succ, e0]
      exact h1 i hi
theorem bf_half {f b : Nat} (hbf : ∀ i, f.testBit i = true → b.testBit i = false) : ∀ i, (f / 2).testBit i = true → (b / 2).testBit i = false := fun i hi => by
  rw [← Nat.testBit_succ] at hi ⊢
  exact hbf _ hi
/-- a number's rank is how many of those that fit are below it -/
theorem cmpF_cnt (m : Nat) : ∀ (f b x : Nat), (∀ i, f.testBit i = true → b.testBit i = false) → x < 2 ^ m → Fits f b x → cntP (fitB f b) x = cmpF m f x := by
  induction m with
  | zero =>
    intro f b x _ hx _
    obtain rfl : x = 0 := by omega
    rfl
  | succ m ih =>
    intro f b x hbf hx hf
    rw [Nat.pow_succ] at hx
    obtain ⟨y, r, hr, rfl⟩ : ∃ y r, r < 2 ∧ x = 2 * y + r := ⟨x / 2, x % 2, Nat.mod_lt _ (by decide), by omega⟩
    obtain ⟨hy, ho⟩ := (fits_half hr).1 hf
    have hb2 := bf_half hbf
    have ih' := ih (f / 2) (b / 2) y hb2 (by omega) hy
    have p0 : ∀ z, fitB f b (2 * z) = (fitB (f / 2) (b / 2) z && decide (f % 2 = 1 ∨ 0 = b % 2)) := fun z => by
      rw [Bool.eq_iff_iff, fitB_iff hbf, Bool.and_eq_true, fitB_iff hb2, decide_eq_true_iff]
      exact fits_half (r := 0) (by decide)
    have p1 : ∀ z, fitB f b (2 * z + 1) = (fitB (f / 2) (b / 2) z && decide (f % 2 = 1 ∨ 1 = b % 2)) := fun z => by
      rw [Bool.eq_iff_iff, fitB_iff hbf, Bool.and_eq_true, fitB_iff hb2, decide_eq_true_iff]
      exact fits_half (r := 1) (by decide)
    have hyB : fitB (f / 2) (b / 2) y = true := (fitB_iff hb2).2 hy
    have c2 : cntP (fitB f b) (2 * y) = cntP (fun z => fitB (f / 2) (b / 2) z && decide (f % 2 = 1 ∨ 0 = b % 2)) y + cntP (fun z => fitB (f / 2) (b / 2) z && decide (f % 2 = 1 ∨ 1 = b % 2)) y := by
      rw [cntP_two, cntP_congr (fun z _ => p0 z), cntP_congr (fun z _ => p1 z)]
    have e0 : (2 * y + r) / 2 = y := by omega
    have e1 : (2 * y + r) % 2 = r := by omega
    unfold cmpF
    rw [e0, e1]
    by_cases o : f % 2 = 1
    · rw [if_pos o]
      have b0 : b % 2 = 0 := by
        have := hbf 0 (by rw [testBit_zero']; simpa using o)
        rw [testBit_zero'] at this
        have : ¬ b % 2 = 1 := by simpa using this
        omega
      have c3 : cntP (fitB f b) (2 * y) = 2 * cntP (fitB (f / 2) (b / 2)) y := by
        rw [c2]
        have : ∀ q : Prop, [Decidable q] → q → cntP (fun z => fitB (f / 2) (b / 2) z && decide q) y = cntP (fitB (f / 2) (b / 2)) y := fun q _ hq => cntP_congr (fun z _ => by simp [hq])
        rw [this _ (Or.inl o), this _ (Or.inl o)]; omega
      rcases (by omega : r = 0 ∨ r = 1) with rfl | rfl
      · rw [Nat.add_zero, c3, ih']; omega
      · show cntP (fitB f b) (2 * y + 1) = _
        simp only [cntP]
        rw [c3, ih', p0, hyB]
        simp [o]; omega
    · rw [if_neg o]
      have hrb : r = b % 2 := ho.resolve_left o
      rcases (by omega : r = 0 ∨ r = 1) with rfl | rfl
      · have c3 : cntP (fitB f b) (2 * y) = cntP (fitB (f / 2) (b / 2)) y := by
          rw [c2, cntP_congr (q := fitB (f / 2) (b / 2)) (fun z _ => by simp [← hrb]), cntP_none (p := fun z => fitB (f / 2) (b / 2) z && decide (f % 2 = 1 ∨ 1 = b % 2)) (fun z _ => by simp [o, ← hrb])]
          omega
        rw [Nat.add_zero, c3, ih']
      · have c3 : cntP (fitB f b) (2 * y) = cntP (fitB (f / 2) (b / 2)) y := by
          rw [c2, cntP_none (p := fun z => fitB (f / 2) (b / 2) z && decide (f % 2 = 1 ∨ 0 = b % 2)) (fun z _ => by simp [o, ← hrb]), cntP_congr (q := fitB (f / 2) (b / 2)) (fun z _ => by simp [← hrb])]
          omega
        show cntP (fitB f b) (2 * y + 1) = _
        simp only [cntP]
        rw [c3, ih', p0]
        simp [o, ← hrb]

theorem cntP_or {p q : Nat → Bool} {n : Nat} (h : ∀ z, z < n → p z = true → q z = false) : cntP (fun z => p z || q z) n = cntP p n + cntP q n := by
  induction n with
  | zero => rfl
  | succ n ih =>
    unfold cntP
    rw [ih (fun z hz => h z (by omega))]
    cases hp : p n
    · simp; omega
    · rw [h n (by omega) hp]; simp; omega
theorem cntP_from {p : Nat → Bool} {lo n : Nat} (h : lo ≤ n) : cntP (fun z => p z && decide (lo ≤ z)) n + cntP p lo = cntP p n := by
  induction n with
  | zero =>
    obtain rfl : lo = 0 := by omega
    rfl
  | succ n ih =>
    by_cases e : lo = n + 1
    · subst e
      rw [cntP_none (fun z hz => by have : ¬ n + 1 ≤ z := by omega
                                    simp [this])]
      omega
    · have h1 := ih (by omega)
      show cntP (fun z => p z && decide (lo ≤ z)) n + (if (p n && decide (lo ≤ n)) = true then 1 else 0) + cntP p lo = cntP p n + if p n = true then 1 else 0
      have h2 : decide (lo ≤ n) = true := by simp; omega
      rw [h2, Bool.and_true]
      omega
theorem cntP_upTo {p : Nat → Bool} {hi n : Nat} (h : hi + 1 ≤ n) : cntP (fun z => p z && decide (z ≤ hi)) n = cntP p (hi + 1) := by
  induction n with
  | zero => omega
  | succ n ih =>
    by_cases e : hi = n
    · subst e
      exact cntP_congr (fun z hz => by have : z ≤ hi := by omega
                                       simp [this])
    · show cntP (fun z => p z && decide (z ≤ hi)) n + (if (p n && decide (n ≤ hi)) = true then 1 else 0) = _
      have : ¬ n ≤ hi := by omega
      rw [ih (by omega)]
      simp [this]
theorem cnt_span {f b lo hi N : Nat} (hbf : ∀ i, f.testBit i = true → b.testBit i = false) (hlo : Fits f b lo) (hhi : Fits f b hi) (h : lo ≤ hi) (hN : hi < N) (h32 : hi < 2 ^ 32) :
    (cntP (fun z => fitB f b z && (decide (lo ≤ z) && decide (z ≤ hi))) N : Int) = (cmpr f hi : Int) - cmpr f lo + 1 := by
  have e1 : cntP (fun z => fitB f b z && (decide (lo ≤ z) && decide (z ≤ hi))) N = cntP (fun z => (fitB f b z && decide (lo ≤ z)) && decide (z ≤ hi)) N := cntP_congr (fun z _ => by rw [Bool.and_assoc])
  have e2 := cntP_from (p := fitB f b) (lo := lo) (n := hi + 1) (by omega)
  have e3 : cntP (fitB f b) lo = cmpr f lo := cmpF_cnt 32 f b lo hbf (by omega) hlo
  have e4 : cntP (fitB f b) (hi + 1) = cmpr f hi + 1 := by
    show cntP (fitB f b) hi + (if fitB f b hi = true then 1 else 0) = _
    rw [(fitB_iff hbf).2 hhi, cmpF_cnt 32 f b hi hbf h32 hhi]
    simp [cmpr]
  rw [e1, cntP_upTo (p := fun z => fitB f b z && decide (lo ≤ z)) (by omega)]
  omega
def inB (L : Spans) (z : Nat) : Bool := L.any fun t => decide (t.1 ≤ z) && decide (z ≤ t.2)
theorem inB_iff {L : Spans} {z : Nat} : inB L z = true ↔ InSpans L z := by
  unfold inB InSpans
  rw [List.any_eq_true]
  constructor
  · rintro ⟨t, ht, h⟩
    simp at h
    exact ⟨t, ht, h⟩
  · rintro ⟨t, ht, h⟩
    exact ⟨t, ht, by simpa using h⟩
/-- the members of a layout, asked -/
def memLB (f b : Nat) (L : Spans) (z : Nat) : Bool := fitB f b z && inB L z
/-- the sum of the ranks is the number of members -/
theorem sumR_cnt {k f b N : Nat} (hbf : ∀ i, f.testBit i = true → b.testBit i = false) (hk : 2 ^ k ≤ N) (hk32 : k ≤ 32) : ∀ L : Spans, Rising L → (∀ t ∈ L, t.1 ≤ t.2 ∧ t.2 < 2 ^ k ∧ Fits f b t.1 ∧ Fits f b t.2) → sumR f L = (cntP (memLB f b L) N : Nat) := by
  have hp : (2 : Nat) ^ k ≤ 2 ^ 32 := Nat.pow_le_pow_right (by decide) hk32
  intro L
  induction L with
  | nil =>
    intro _ _
    rw [cntP_none (fun z _ => by simp [memLB, inB])]
    rfl
  | cons t L ih =>
    intro hr he
    obtain ⟨h1, h2, h3, h4⟩ := he t (by simp)
    have hr2 := List.pairwise_cons.1 hr
    have ih' := ih hr2.2 (fun u hu => he u (by simp [hu]))
    have e1 : cntP (memLB f b (t :: L)) N = cntP (fun z => (fitB f b z && (decide (t.1 ≤ z) && decide (z ≤ t.2))) || memLB f b L z) N := cntP_congr (fun z _ => by
      unfold memLB inB
      rw [List.any_cons, Bool.and_or_distrib_left])
    have e2 := cnt_span (N := N) hbf h3 h4 h1 (by omega) (by omega)
    rw [sumR_cons, e1, cntP_or (fun z hz hh => by
      simp at hh
      cases hc : memLB f b L z
      · rfl
      · unfold memLB at hc
        rw [Bool.and_eq_true, inB_iff] at hc
        obtain ⟨u, hu, h5, h6⟩ := hc.2
        have := hr2.1 u hu
        omega), ih']
    omega
end Go.Proofs.Ytgedkebinidmkaa
