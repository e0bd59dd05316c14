/- The number of a layout's members. Plain mathematics. -/
import Derived.Test.YtblahbmhbfcggaaGreatDoorVCountM
import Derived.Test.YtblahbmhbfcggaaGreatDoorVNextC
import Derived.Test.YtblahbmhbfcggaaGreatDoorVOnce
namespace Go.Proofs.YtblahbmhbfcggaaGreatDoor
open Go.RowKit

/-- how many below n -/
def cntP (p : Nat → Bool) : Nat → Nat
  | 0 => 0
  | n + 1 => cntP p n + if p n = true then 1 else 0
theorem cntP_congr {p q : Nat → Bool} {n : Nat} (h : ∀ z, z < n → p z = q z) : cntP p n = cntP q n := by
  induction n with
  | zero => rfl
  | succ n ih =>
    unfold cntP
    rw [ih (fun z hz => h z (by omega)), h n (by omega)]
theorem cntP_two (p : Nat → Bool) (y : Nat) : cntP p (2 * y) = cntP (fun z => p (2 * z)) y + cntP (fun z => p (2 * z + 1)) y := by
  induction y with
  | zero => rfl
  | succ y ih =>
    show cntP p (2 * y + 1 + 1) = _
    simp only [cntP]
    rw [ih]
    omega
theorem cntP_none {p : Nat → Bool} {n : Nat} (h : ∀ z, z < n → p z = false) : cntP p n = 0 := by
  induction n with
  | zero => rfl
  | succ n ih =>
    unfold cntP
    rw [ih (fun z hz => h z (by omega)), h n (by omega)]
    simp
/-- where one lies in the other and both have as many, they are the same -/
theorem cntP_sub {p q : Nat → Bool} {n : Nat} (h : ∀ z, z < n → p z = true → q z = true) : cntP p n ≤ cntP q n ∧ (cntP p n = cntP q n → ∀ z, z < n → q z = true → p z = true) := by
  induction n with
  | zero => exact ⟨Nat.le_refl _, fun _ z hz => absurd hz (by omega)⟩
  | succ n ih =>
    obtain ⟨h1, h2⟩ := ih (fun z hz => h z (by omega))
    unfold cntP
    cases hp : p n
    · cases hq : q n
      · refine ⟨by simpa using h1, fun he z hz hqz => ?_⟩
        rcases Nat.lt_or_ge z n with h3 | h3
        · exact h2 (by simpa using he) z h3 hqz
        · obtain rfl : z = n := by omega
          rw [hq] at hqz; cases hqz
      · simp only [Bool.false_eq_true, if_false, if_true]
        exact ⟨by omega, fun he => by omega⟩
    · have hq := h n (by omega) hp
      rw [hq]
      simp only [if_true]
      refine ⟨by omega, fun he z hz hqz => ?_⟩
      rcases Nat.lt_or_ge z n with h3 | h3
      · exact h2 (by omega) z h3 hqz
      · obtain rfl : z = n := by omega
        exact hp

def fitB (f b z : Nat) : Bool := decide (nandn z f = b)
theorem fitB_iff {f b z : Nat} (hbf : ∀ i, f.testBit i = true → b.testBit i = false) : fitB f b z = true ↔ Fits f b z := by
  unfold fitB; rw [decide_eq_true_iff, fits_iff hbf]; exact Iff.rfl
theorem fits_half {f b z r : Nat} (hr : r < 2) : Fits f b (2 * z + r) ↔ Fits (f / 2) (b / 2) z ∧ (f % 2 = 1 ∨ r = b % 2) := by
  have e0 : (2 * z + r) / 2 = z := by omega
  have e1 : (2 * z + r) % 2 = r := by omega
  constructor
  · intro h
    refine ⟨fun i hi => ?_, ?_⟩
    · have := h (i + 1) (by rw [Nat.testBit_succ]; exact hi)
      rw [Nat.testBit_succ, Nat.testBit_succ, e0] at this
      exact this
    · by_cases o : f % 2 = 1
      · exact Or.inl o
      · have := h 0 (by rw [testBit_zero']; simpa using o)
        rw [testBit_zero', testBit_zero', e1] at this
        right
        by_cases hb : b % 2 = 1
        · simp [hb] at this; omega
        · have : r ≠ 1 := fun h => by simp [hb, h] at this
          omega
  · rintro ⟨h1, h2⟩ i hi
    cases i with
    | zero =>
      rw [testBit_zero'] at hi
      have o : ¬ f % 2 = 1 := by simpa using hi
      rw [testBit_zero', testBit_zero', e1]
      rcases h2 with h2 | h2
      · exact absurd h2 o
      · rw [h2]
    | succ i =>
      rw [Nat.testBit_succ] at hi
      rw [Nat.testBit_succ, Nat.testBit_succ, e0]
      exact h1 i hi
theorem bf_half {f b : Nat} (hbf : ∀ i, f.testBit i = true → b.testBit i = false) : ∀ i, (f / 2).testBit i = true → (b / 2).testBit i = false := fun i hi => by
  rw [← Nat.testBit_succ] at hi ⊢
  exact hbf _ hi
/-- a number's rank is how many of those that fit are below it -/
theorem cmpF_cnt (m : Nat) : ∀ (f b x : Nat), (∀ i, f.testBit i = true → b.testBit i = false) → x < 2 ^ m → Fits f b x → cntP (fitB f b) x = cmpF m f x := by
  induction m with
  | zero =>
    intro f b x _ hx _
    obtain rfl : x = 0 := by omega
    rfl
  | succ m ih =>
    intro f b x hbf hx hf
    rw [Nat.pow_succ] at hx
    obtain ⟨y, r, hr, rfl⟩ : ∃ y r, r < 2 ∧ x = 2 * y + r := ⟨x / 2, x % 2, Nat.mod_lt _ (by decide), by omega⟩
    obtain ⟨hy, ho⟩ := (fits_half hr).1 hf
    have hb2 := bf_half hbf
    have ih' := ih (f / 2) (b / 2) y hb2 (by omega) hy
    have p0 : ∀ z, fitB f b (2 * z) = (fitB (f / 2) (b / 2) z && decide (f % 2 = 1 ∨ 0 = b % 2)) := fun z => by
      rw [Bool.eq_iff_iff, fitB_iff hbf, Bool.and_eq_true, fitB_iff hb2, decide_eq_true_iff]
      exact fits_half (r := 0) (by decide)
    have p1 : ∀ z, fitB f b (2 * z + 1) = (fitB (f / 2) (b / 2) z && decide (f % 2 = 1 ∨ 1 = b % 2)) := fun z => by
      rw [Bool.eq_iff_iff, fitB_iff hbf, Bool.and_eq_true, fitB_iff hb2, decide_eq_true_iff]
      exact fits_half (r := 1) (by decide)
    have hyB : fitB (f / 2) (b / 2) y = true := (fitB_iff hb2).2 hy
    have c2 : cntP (fitB f b) (2 * y) = cntP (fun z => fitB (f / 2) (b / 2) z && decide (f % 2 = 1 ∨ 0 = b % 2)) y + cntP (fun z => fitB (f / 2) (b / 2) z && decide (f % 2 = 1 ∨ 1 = b % 2)) y := by
      rw [cntP_two, cntP_congr (fun z _ => p0 z), cntP_congr (fun z _ => p1 z)]
    have e0 : (2 * y + r) / 2 = y := by omega
    have e1 : (2 * y + r) % 2 = r := by omega
    unfold cmpF
    rw [e0, e1]
    by_cases o : f % 2 = 1
    · rw [if_pos o]
      have b0 : b % 2 = 0 := by
        have := hbf 0 (by rw [testBit_zero']; simpa using o)
        rw [testBit_zero'] at this
        have : ¬ b % 2 = 1 := by simpa using this
        omega
      have c3 : cntP (fitB f b) (2 * y) = 2 * cntP (fitB (f / 2) (b / 2)) y := by
        rw [c2]
        have : ∀ q : Prop, [Decidable q] → q → cntP (fun z => fitB (f / 2) (b / 2) z && decide q) y = cntP (fitB (f / 2) (b / 2)) y := fun q _ hq => cntP_congr (fun z _ => by simp [hq])
        rw [this _ (Or.inl o), this _ (Or.inl o)]; omega
      rcases (by omega : r = 0 ∨ r = 1) with rfl | rfl
      · rw [Nat.add_zero, c3, ih']; omega
      · show cntP (fitB f b) (2 * y + 1) = _
        simp only [cntP]
        rw [c3, ih', p0, hyB]
        simp [o]; omega
    · rw [if_neg o]
      have hrb : r = b % 2 := ho.resolve_left o
      rcases (by omega : r = 0 ∨ r = 1) with rfl | rfl
      · have c3 : cntP (fitB f b) (2 * y) = cntP (fitB (f / 2) (b / 2)) y := by
          rw [c2, cntP_congr (q := fitB (f / 2) (b / 2)) (fun z _ => by simp [← hrb]), cntP_none (p := fun z => fitB (f / 2) (b / 2) z && decide (f % 2 = 1 ∨ 1 = b % 2)) (fun z _ => by simp [o, ← hrb])]
          omega
        rw [Nat.add_zero, c3, ih']
      · have c3 : cntP (fitB f b) (2 * y) = cntP (fitB (f / 2) (b / 2)) y := by
          rw [c2, cntP_none (p := fun z => fitB (f / 2) (b / 2) z && decide (f % 2 = 1 ∨ 0 = b % 2)) (fun z _ => by simp [o, ← hrb]), cntP_congr (q := fitB (f / 2) (b / 2)) (fun z _ => by simp [← hrb])]
          omega
        show cntP (fitB f b) (2 * y + 1) = _
        simp only [cntP]
        rw [c3, ih', p0]
        simp [o, ← hrb]

theorem cntP_or {p q : Nat → Bool} {n : Nat} (h : ∀ z, z < n → p z = true → q z = false) : cntP (fun z => p z || q z) n = cntP p n + cntP q n := by
  induction n with
  | zero => rfl
  | succ n ih =>
    unfold cntP
    rw [ih (fun z hz => h z (by omega))]
    cases hp : p n
    · simp; omega
    · rw [h n (by omega) hp]; simp; omega
theorem cntP_from {p : Nat → Bool} {lo n : Nat} (h : lo ≤ n) : cntP (fun z => p z && decide (lo ≤ z)) n + cntP p lo = cntP p n := by
  induction n with
  | zero =>
    obtain rfl : lo = 0 := by omega
    rfl
  | succ n ih =>
    by_cases e : lo = n + 1
    · subst e
      rw [cntP_none (fun z hz => by have : ¬ n + 1 ≤ z := by omega
                                    simp [this])]
      omega
    · have h1 := ih (by omega)
      show cntP (fun z => p z && decide (lo ≤ z)) n + (if (p n && decide (lo ≤ n)) = true then 1 else 0) + cntP p lo = cntP p n + if p n = true then 1 else 0
      have h2 : decide (lo ≤ n) = true := by simp; omega
      rw [h2, Bool.and_true]
      omega
theorem cntP_upTo {p : Nat → Bool} {hi n : Nat} (h : hi + 1 ≤ n) : cntP (fun z => p z && decide (z ≤ hi)) n = cntP p (hi + 1) := by
  induction n with
  | zero => omega
  | succ n ih =>
    by_cases e : hi = n
    · subst e
      exact cntP_congr (fun z hz => by have : z ≤ hi := by omega
                                       simp [this])
    · show cntP (fun z => p z && decide (z ≤ hi)) n + (if (p n && decide (n ≤ hi)) = true then 1 else 0) = _
      have : ¬ n ≤ hi := by omega
      rw [ih (by omega)]
      simp [this]
theorem cnt_span {f b lo hi N : Nat} (hbf : ∀ i, f.testBit i = true → b.testBit i = false) (hlo : Fits f b lo) (hhi : Fits f b hi) (h : lo ≤ hi) (hN : hi < N) (h32 : hi < 2 ^ 32) :
    (cntP (fun z => fitB f b z && (decide (lo ≤ z) && decide (z ≤ hi))) N : Int) = (cmpr f hi : Int) - cmpr f lo + 1 := by
  have e1 : cntP (fun z => fitB f b z && (decide (lo ≤ z) && decide (z ≤ hi))) N = cntP (fun z => (fitB f b z && decide (lo ≤ z)) && decide (z ≤ hi)) N := cntP_congr (fun z _ => by rw [Bool.and_assoc])
  have e2 := cntP_from (p := fitB f b) (lo := lo) (n := hi + 1) (by omega)
  have e3 : cntP (fitB f b) lo = cmpr f lo := cmpF_cnt 32 f b lo hbf (by omega) hlo
  have e4 : cntP (fitB f b) (hi + 1) = cmpr f hi + 1 := by
    show cntP (fitB f b) hi + (if fitB f b hi = true then 1 else 0) = _
    rw [(fitB_iff hbf).2 hhi, cmpF_cnt 32 f b hi hbf h32 hhi]
    simp [cmpr]
  rw [e1, cntP_upTo (p := fun z => fitB f b z && decide (lo ≤ z)) (by omega)]
  omega
def inB (L : Spans) (z : Nat) : Bool := L.any fun t => decide (t.1 ≤ z) && decide (z ≤ t.2)
theorem inB_iff {L : Spans} {z : Nat} : inB L z = true ↔ InSpans L z := by
  unfold inB InSpans
  rw [List.any_eq_true]
  constructor
  · rintro ⟨t, ht, h⟩
    simp at h
    exact ⟨t, ht, h⟩
  · rintro ⟨t, ht, h⟩
    exact ⟨t, ht, by simpa using h⟩
/-- the members of a layout, asked -/
def memLB (f b : Nat) (L : Spans) (z : Nat) : Bool := fitB f b z && inB L z
/-- the sum of the ranks is the number of members -/
theorem sumR_cnt {k f b N : Nat} (hbf : ∀ i, f.testBit i = true → b.testBit i = false) (hk : 2 ^ k ≤ N) (hk32 : k ≤ 32) : ∀ L : Spans, Rising L → (∀ t ∈ L, t.1 ≤ t.2 ∧ t.2 < 2 ^ k ∧ Fits f b t.1 ∧ Fits f b t.2) → sumR f L = (cntP (memLB f b L) N : Nat) := by
  have hp : (2 : Nat) ^ k ≤ 2 ^ 32 := Nat.pow_le_pow_right (by decide) hk32
  intro L
  induction L with
  | nil =>
    intro _ _
    rw [cntP_none (fun z _ => by simp [memLB, inB])]
    rfl
  | cons t L ih =>
    intro hr he
    obtain ⟨h1, h2, h3, h4⟩ := he t (by simp)
    have hr2 := List.pairwise_cons.1 hr
    have ih' := ih hr2.2 (fun u hu => he u (by simp [hu]))
    have e1 : cntP (memLB f b (t :: L)) N = cntP (fun z => (fitB f b z && (decide (t.1 ≤ z) && decide (z ≤ t.2))) || memLB f b L z) N := cntP_congr (fun z _ => by
      unfold memLB inB
      rw [List.any_cons, Bool.and_or_distrib_left])
    have e2 := cnt_span (N := N) hbf h3 h4 h1 (by omega) (by omega)
    rw [sumR_cons, e1, cntP_or (fun z hz hh => by
      simp at hh
      cases hc : memLB f b L z
      · rfl
      · unfold memLB at hc
        rw [Bool.and_eq_true, inB_iff] at hc
        obtain ⟨u, hu, h5, h6⟩ := hc.2
        have := hr2.1 u hu
        omega), ih']
    omega
end Go.Proofs.YtblahbmhbfcggaaGreatDoor

/- Layouts as sets: what holds of each, and of what two of them have together. Plain mathematics. -/
namespace Go.Proofs.YtblahbmhbfcggaaGreatDoor
open Go.RowKit

/-- what holds of a layout in memory: pattern F, B, spans L, count c -/
structure GoodL (k F B : Nat) (L : Spans) (c : Int) : Prop where
  pat : PatOk k F B
  ends : ∀ t ∈ L, t.1 ≤ t.2 ∧ t.2 < 2 ^ k ∧ Fits F B t.1 ∧ Fits F B t.2
  rise : Rising L
  cnt : c = (cntP (memLB F B L) (2 ^ k) : Nat)
theorem memLB_iff {k F B : Nat} {L : Spans} {c : Int} (g : GoodL k F B L c) (z : Nat) : memLB F B L z = true ↔ MemL k F B L z := by
  unfold memLB MemL
  rw [Bool.and_eq_true, fitB_iff g.pat.hbf, inB_iff]
  constructor
  · rintro ⟨h1, t, ht, h2, h3⟩
    have := g.ends t ht
    exact ⟨by omega, h1, t, ht, h2, h3⟩
  · exact fun h => ⟨h.2.1, h.2.2⟩
theorem inSpans_ends {L : Spans} (hr : Rising L) (he : ∀ t ∈ L, t.1 ≤ t.2) {z : Nat} (h : InSpans L z) : ∃ h0 : 0 < L.length, (L[0]'h0).1 ≤ z ∧ z ≤ (L[L.length - 1]'(by omega)).2 := by
  obtain ⟨t, ht, h1, h2⟩ := h
  obtain ⟨j, hj, rfl⟩ := List.getElem_of_mem ht
  obtain ⟨b1, b2⟩ := ends_bound hr he (by omega) hj
  exact ⟨by omega, by omega, by omega⟩
/-- what lay makes -/
theorem good_of_laid {k f b : Nat} {S L : Spans} (ok : PatOk k f b) (hl : Laid k f b S L) (hr : Rising L) : GoodL k (narF f L) (narB f b L) L (sumR f L) ∧ ∀ z, MemL k (narF f L) (narB f b L) L z ↔ MemL k f b L z := by
  have hp := ok.hk.pow
  have hel := fun t ht => (hl.ends t ht).1
  by_cases h0 : L = []
  · subst h0
    refine ⟨⟨ok, by simp, hr, ?_⟩, fun z => Iff.rfl⟩
    rw [cntP_none (fun z _ => by simp [memLB, inB])]
    rfl
  · have hpos : 0 < L.length := List.length_pos_iff.2 h0
    obtain ⟨e1, e2⟩ := nar_eq (f := f) (b := b) hpos
    have h00 := hl.ends _ (List.getElem_mem hpos)
    have hll := hl.ends _ (List.getElem_mem (h := (by omega : L.length - 1 < L.length)))
    have fit : ∀ z, InSpans L z → (Fits (narF f L) (narB f b L) z ↔ Fits f b z) := fun z hz => by
      obtain ⟨_, h1, h2⟩ := inSpans_ends hr hel hz
      rw [e1, e2]
      exact nar_fits (by omega) (by omega) h00.2.2.1 h1 h2
    have okF : PatOk k (narF f L) (narB f b L) := by rw [e1, e2]; exact nar_ok ok (by omega)
    have mem : ∀ z, MemL k (narF f L) (narB f b L) L z ↔ MemL k f b L z := fun z => by
      unfold MemL
      constructor
      · rintro ⟨h1, h2, h3⟩
        exact ⟨h1, (fit z h3).1 h2, h3⟩
      · rintro ⟨h1, h2, h3⟩
        exact ⟨h1, (fit z h3).2 h2, h3⟩
    refine ⟨⟨okF, fun t ht => ?_, hr, ?_⟩, mem⟩
    · obtain ⟨h1, h2, h3, h4⟩ := hl.ends t ht
      exact ⟨h1, h2, (fit t.1 ⟨t, ht, Nat.le_refl _, h1⟩).2 h3, (fit t.2 ⟨t, ht, h1, Nat.le_refl _⟩).2 h4⟩
    · rw [sumR_cnt (k := k) (N := 2 ^ k) ok.hbf (Nat.le_refl _) ok.hk.le L hr hl.ends]
      congr 1
      apply cntP_congr
      intro z hz
      rw [Bool.eq_iff_iff]
      unfold memLB
      rw [Bool.and_eq_true, Bool.and_eq_true, fitB_iff ok.hbf, fitB_iff okF.hbf, inB_iff]
      constructor
      · rintro ⟨h1, h2⟩
        exact ⟨(fit z h2).2 h1, h2⟩
      · rintro ⟨h1, h2⟩
        exact ⟨(fit z h2).1 h1, h2⟩
/-- as many in what both have as in one: it lies in the other -/
theorem within_iff {k Fa Ba Fm Bm : Nat} {La Lm : Spans} {ca cm : Int} {Bm' : Nat → Prop} (ga : GoodL k Fa Ba La ca) (gm : GoodL k Fm Bm Lm cm) (hm : ∀ z, MemL k Fm Bm Lm z ↔ MemL k Fa Ba La z ∧ Bm' z) : (cm == ca) = true ↔ ∀ z, MemL k Fa Ba La z → Bm' z := by
  rw [beq_iff_eq, gm.cnt, ga.cnt]
  have h := cntP_sub (p := memLB Fm Bm Lm) (q := memLB Fa Ba La) (n := 2 ^ k) (fun z _ hz => by
    rw [memLB_iff ga]
    exact ((hm z).1 ((memLB_iff gm z).1 hz)).1)
  constructor
  · intro e z hz
    have e' : cntP (memLB Fm Bm Lm) (2 ^ k) = cntP (memLB Fa Ba La) (2 ^ k) := by omega
    have := h.2 e' z hz.1 ((memLB_iff ga z).2 hz)
    exact ((hm z).1 ((memLB_iff gm z).1 this)).2
  · intro hs
    congr 1
    apply cntP_congr
    intro z hz
    rw [Bool.eq_iff_iff, memLB_iff gm, memLB_iff ga, hm]
    exact ⟨fun h => h.1, fun h => ⟨h, hs z h⟩⟩

/-- two patterns together -/
theorem meet_fits {fa ba fb bb z : Nat} (ha : ∀ i, fa.testBit i = true → ba.testBit i = false) (hb : ∀ i, fb.testBit i = true → bb.testBit i = false)
    (hno : ∀ i, fa.testBit i = false → fb.testBit i = false → ba.testBit i = bb.testBit i) : Fits (fa &&& fb) (ba ||| bb) z ↔ Fits fa ba z ∧ Fits fb bb z := by
  constructor
  · intro h
    constructor
    · intro i hi
      have := h i (by rw [Nat.testBit_and, hi]; rfl)
      rw [this, Nat.testBit_or]
      cases e : fb.testBit i
      · rw [hno i hi e]; simp
      · rw [hb i e]; simp
    · intro i hi
      have := h i (by rw [Nat.testBit_and, hi]; simp)
      rw [this, Nat.testBit_or]
      cases e : fa.testBit i
      · rw [hno i e hi]; simp
      · rw [ha i e]; simp
  · rintro ⟨h1, h2⟩ i hi
    rw [Nat.testBit_and] at hi
    rw [Nat.testBit_or]
    cases ea : fa.testBit i
    · cases eb : fb.testBit i
      · rw [h1 i ea, ← hno i ea eb]; simp
      · rw [h1 i ea, hb i eb]; simp
    · rw [ea] at hi
      have eb : fb.testBit i = false := by simpa using hi
      rw [h2 i eb, ha i ea]; simp
theorem meet_ok {k fa ba fb bb : Nat} (ha : PatOk k fa ba) (hb : PatOk k fb bb) (_ : ∀ i, fa.testBit i = false → fb.testBit i = false → ba.testBit i = bb.testBit i) : PatOk k (fa &&& fb) (ba ||| bb) :=
  ⟨ha.hk, lt_of_and ha.hf, Nat.or_lt_two_pow ha.hb hb.hb, fun i h => by
    rw [Nat.testBit_and, Bool.and_eq_true] at h
    rw [Nat.testBit_or, ha.hbf i h.1, hb.hbf i h.2]; rfl⟩
/-- the spans that two have together, in the order of the loops -/
def meetS (A C : Spans) : Spans := A.flatMap fun s => C.filterMap fun t => if max s.1 t.1 ≤ min s.2 t.2 then some (max s.1 t.1, min s.2 t.2) else none
theorem meetS_mem {A C : Spans} {u : Nat × Nat} : u ∈ meetS A C ↔ ∃ s ∈ A, ∃ t ∈ C, max s.1 t.1 ≤ min s.2 t.2 ∧ u = (max s.1 t.1, min s.2 t.2) := by
  unfold meetS
  simp only [List.mem_flatMap, List.mem_filterMap]
  constructor
  · rintro ⟨s, hs, t, ht, h⟩
    split at h
    · rename_i hle
      simp at h
      exact ⟨s, hs, t, ht, hle, h.symm⟩
    · cases h
  · rintro ⟨s, hs, t, ht, hle, rfl⟩
    exact ⟨s, hs, t, ht, by rw [if_pos hle]⟩
theorem meetS_in {A C : Spans} {z : Nat} : InSpans (meetS A C) z ↔ InSpans A z ∧ InSpans C z := by
  constructor
  · rintro ⟨u, hu, h1, h2⟩
    obtain ⟨s, hs, t, ht, hle, rfl⟩ := meetS_mem.1 hu
    simp only at h1 h2
    exact ⟨⟨s, hs, by omega, by omega⟩, ⟨t, ht, by omega, by omega⟩⟩
  · rintro ⟨⟨s, hs, h1, h2⟩, ⟨t, ht, h3, h4⟩⟩
    exact ⟨_, meetS_mem.2 ⟨s, hs, t, ht, by omega, rfl⟩, by show max s.1 t.1 ≤ z; omega, by show z ≤ min s.2 t.2; omega⟩
theorem meetS_rise {A C : Spans} (hA : Rising A) (hC : Rising C) : Rising (meetS A C) := by
  unfold Rising meetS at *
  rw [List.pairwise_flatMap]
  refine ⟨fun s _ => ?_, hA.imp ?_⟩
  · rw [List.pairwise_filterMap]
    refine hC.imp ?_
    intro t u htu x hx y hy
    split at hx
    · split at hy
      · simp at hx hy
        rw [← hx, ← hy]
        show min s.2 t.2 < max s.1 u.1
        omega
      · cases hy
    · cases hx
  · intro s s' hss x hx y hy
    rw [List.mem_filterMap] at hx hy
    obtain ⟨t, _, hx⟩ := hx
    obtain ⟨u, _, hy⟩ := hy
    split at hx
    · split at hy
      · simp at hx hy
        rw [← hx, ← hy]
        show min s.2 t.2 < max s'.1 u.1
        omega
      · cases hy
    · cases hx
/-- the arc from a part's low round to the one ahead's high -/
def arcIn (l h z : Nat) : Prop := if l ≤ h then l ≤ z ∧ z ≤ h else l ≤ z ∨ z ≤ h
theorem arc_first {L : Spans} (hr : Rising L) (he : ∀ t ∈ L, t.1 ≤ t.2) (h0 : 0 < L.length) {z : Nat} (hz : InSpans L z) : arcIn (L[0]'h0).1 (L[L.length - 1]'(by omega)).2 z := by
  obtain ⟨_, h1, h2⟩ := inSpans_ends hr he hz
  unfold arcIn
  rw [if_pos (by omega)]
  exact ⟨h1, h2⟩
theorem arc_later {L : Spans} (hr : Rising L) (he : ∀ t ∈ L, t.1 ≤ t.2) {i : Nat} (hi : i < L.length) (hi0 : 0 < i) {z : Nat} (hz : InSpans L z) : arcIn (L[i]'hi).1 (L[i - 1]'(by omega)).2 z := by
  have hp := List.pairwise_iff_getElem.1 hr
  have h1 := hp (i - 1) i (by omega) hi (by omega)
  unfold arcIn
  rw [if_neg (by omega)]
  obtain ⟨t, ht, h2, h3⟩ := hz
  obtain ⟨j, hj, rfl⟩ := List.getElem_of_mem ht
  by_cases hji : j < i
  · right
    by_cases e : j = i - 1
    · subst e; exact h3
    · have := hp j (i - 1) hj (by omega) (by omega)
      have := he _ (List.getElem_mem (h := (by omega : i - 1 < L.length)))
      omega
  · left
    by_cases e : j = i
    · subst e; exact h2
    · have := hp i j hi hj (by omega)
      have := he _ (List.getElem_mem hi)
      omega
/-- one of the arcs lies in an arc in which each part lies whole -/
theorem arc_fits {L : Spans} {l h : Nat} (hr : Rising L) (he : ∀ t ∈ L, t.1 ≤ t.2) (h0 : 0 < L.length) (hin : ∀ t ∈ L, if l ≤ h then l ≤ t.1 ∧ t.2 ≤ h else t.2 ≤ h ∨ l ≤ t.1) :
    (∀ z, arcIn (L[0]'h0).1 (L[L.length - 1]'(by omega)).2 z → arcIn l h z) ∨ ∃ (i : Nat) (hi : i < L.length), 0 < i ∧ ∀ z, arcIn (L[i]'hi).1 (L[i - 1]'(by omega)).2 z → arcIn l h z := by
  have hp := List.pairwise_iff_getElem.1 hr
  have hends := ends_bound hr he h0 h0
  by_cases hlh : l ≤ h
  · left
    intro z hz
    have a1 := hin _ (List.getElem_mem h0)
    have a2 := hin _ (List.getElem_mem (h := (by omega : L.length - 1 < L.length)))
    rw [if_pos hlh] at a1 a2
    have b1 := he _ (List.getElem_mem h0)
    unfold arcIn at hz ⊢
    rw [if_pos (by omega)] at hz
    rw [if_pos hlh]
    omega
  · have hin' : ∀ t ∈ L, t.2 ≤ h ∨ l ≤ t.1 := fun t ht => by have := hin t ht; rw [if_neg hlh] at this; exact this
    have b1 := he _ (List.getElem_mem h0)
    by_cases hall : ∃ i, ∃ hi : i < L.length, 0 < i ∧ (L[i]'hi).1 ≥ l ∧ (L[i - 1]'(by omega)).2 ≤ h
    · obtain ⟨i, hi, hi0, h1, h2⟩ := hall
      right
      refine ⟨i, hi, hi0, fun z hz => ?_⟩
      have := hp (i - 1) i (by omega) hi (by omega)
      unfold arcIn at hz ⊢
      rw [if_neg (by omega)] at hz
      rw [if_neg hlh]
      omega
    · left
      intro z hz
      unfold arcIn at hz ⊢
      rw [if_pos (by omega)] at hz
      rw [if_neg hlh]
      -- all parts lie on one side
      have side : (∀ j (hj : j < L.length), (L[j]'hj).2 ≤ h) ∨ ∀ j (hj : j < L.length), l ≤ (L[j]'hj).1 := by
        rcases hin' _ (List.getElem_mem h0) with hs | hs
        · left
          intro j
          induction j with
          | zero => exact fun _ => hs
          | succ j ih =>
            intro hj
            rcases hin' _ (List.getElem_mem hj) with h3 | h3
            · exact h3
            · exact absurd ⟨j + 1, hj, by omega, h3, ih (by omega)⟩ hall
        · right
          intro j hj
          by_cases e : j = 0
          · subst e; exact hs
          · have := hp 0 j h0 hj (by omega)
            omega
      rcases side with hs | hs
      · right
        have := hs (L.length - 1) (by omega)
        omega
      · left
        have := hs 0 h0
        omega
end Go.Proofs.YtblahbmhbfcggaaGreatDoor

/- Spans of two sets, merged, and what is told of a layout. Plain mathematics. -/
namespace Go.Proofs.YtblahbmhbfcggaaGreatDoor
open Go.RowKit

/-- what is merged of spans whose lows rise -/
structure Merged (S M : Spans) : Prop where
  le : ∀ t ∈ M, t.1 ≤ t.2
  rise : Rising M
  inn : ∀ z, InSpans M z ↔ InSpans S z
  low : ∀ t ∈ M, ∃ s ∈ S, t.1 = s.1
  high : ∀ t ∈ M, ∃ s ∈ S, t.2 = s.2
  short : M.length ≤ S.length
theorem Merged.nil : Merged [] [] := ⟨by simp, List.Pairwise.nil, fun _ => Iff.rfl, by simp, by simp, Nat.le_refl _⟩
theorem Merged.push {S M : Spans} {s : Nat × Nat} (h : Merged S M) (hs : s.1 ≤ s.2) (hl : ∀ t ∈ M, t.2 < s.1) : Merged (S ++ [s]) (M ++ [s]) := by
  refine ⟨fun t ht => ?_, ?_, fun z => ?_, fun t ht => ?_, fun t ht => ?_, by simp; exact h.short⟩
  · rcases List.mem_append.1 ht with h' | h'
    · exact h.le t h'
    · rw [List.mem_singleton] at h'; subst h'; exact hs
  · unfold Rising
    rw [List.pairwise_append]
    refine ⟨h.rise, by simp, fun t ht u hu => ?_⟩
    rw [List.mem_singleton] at hu
    subst hu
    exact hl t ht
  · rw [inSpans_snoc, inSpans_snoc, h.inn]
  · rcases List.mem_append.1 ht with h' | h'
    · obtain ⟨u, hu, e⟩ := h.low t h'
      exact ⟨u, List.mem_append.2 (Or.inl hu), e⟩
    · exact ⟨t, List.mem_append.2 (Or.inr h'), rfl⟩
  · rcases List.mem_append.1 ht with h' | h'
    · obtain ⟨u, hu, e⟩ := h.high t h'
      exact ⟨u, List.mem_append.2 (Or.inl hu), e⟩
    · exact ⟨t, List.mem_append.2 (Or.inr h'), rfl⟩
theorem last_above {M : Spans} {a b : Nat} (hr : Rising (M ++ [(a, b)])) (hle : ∀ t ∈ M ++ [(a, b)], t.1 ≤ t.2) {x : Nat} (hx : b < x) : ∀ t ∈ M ++ [(a, b)], t.2 < x := by
  intro t ht
  rcases List.mem_append.1 ht with h' | h'
  · unfold Rising at hr
    rw [List.pairwise_append] at hr
    have := hr.2.2 t h' (a, b) (by simp)
    have h2 := hle (a, b) (by simp)
    simp only at this h2
    omega
  · rw [List.mem_singleton] at h'
    subst h'
    exact hx
theorem Merged.widen {S M : Spans} {a b x y : Nat} (h : Merged S (M ++ [(a, b)])) (hs : x ≤ y) (hax : a ≤ x) (hxb : x ≤ b) : Merged (S ++ [(x, y)]) (M ++ [(a, max b y)]) := by
  have hab := h.le (a, b) (by simp)
  simp only at hab
  refine ⟨fun t ht => ?_, ?_, fun z => ?_, fun t ht => ?_, fun t ht => ?_, by have := h.short; simp at this ⊢; omega⟩
  · rcases List.mem_append.1 ht with h' | h'
    · exact h.le t (List.mem_append.2 (Or.inl h'))
    · rw [List.mem_singleton] at h'; subst h'; simp only; omega
  · have hr := h.rise
    unfold Rising at hr ⊢
    rw [List.pairwise_append] at hr ⊢
    refine ⟨hr.1, by simp, fun t ht u hu => ?_⟩
    rw [List.mem_singleton] at hu
    subst hu
    exact hr.2.2 t ht (a, b) (by simp)
  · have h1 := h.inn z
    rw [inSpans_snoc] at h1 ⊢
    rw [inSpans_snoc, ← h1]
    simp only
    constructor
    · rintro (h' | h')
      · exact Or.inl (Or.inl h')
      · by_cases hz : z ≤ b
        · exact Or.inl (Or.inr ⟨h'.1, hz⟩)
        · exact Or.inr ⟨by omega, by omega⟩
    · rintro ((h' | h') | h')
      · exact Or.inl h'
      · exact Or.inr ⟨h'.1, by omega⟩
      · exact Or.inr ⟨by omega, by omega⟩
  · rcases List.mem_append.1 ht with h' | h'
    · obtain ⟨u, hu, e⟩ := h.low t (List.mem_append.2 (Or.inl h'))
      exact ⟨u, List.mem_append.2 (Or.inl hu), e⟩
    · rw [List.mem_singleton] at h'
      subst h'
      obtain ⟨u, hu, e⟩ := h.low (a, b) (by simp)
      exact ⟨u, List.mem_append.2 (Or.inl hu), e⟩
  · rcases List.mem_append.1 ht with h' | h'
    · obtain ⟨u, hu, e⟩ := h.high t (List.mem_append.2 (Or.inl h'))
      exact ⟨u, List.mem_append.2 (Or.inl hu), e⟩
    · rw [List.mem_singleton] at h'
      subst h'
      by_cases hby : y ≤ b
      · obtain ⟨u, hu, e⟩ := h.high (a, b) (by simp)
        exact ⟨u, List.mem_append.2 (Or.inl hu), by simp only at e ⊢; omega⟩
      · exact ⟨(x, y), by simp, by simp only; omega⟩
theorem low_le {S M : Spans} {a b x : Nat} (h : Merged S (M ++ [(a, b)])) (hS : ∀ s ∈ S, s.1 ≤ x) : a ≤ x := by
  obtain ⟨s, hs, e⟩ := h.low (a, b) (by simp)
  simp only at e
  have := hS s hs
  omega
theorem inSpans_append {A C : Spans} {z : Nat} : InSpans (A ++ C) z ↔ InSpans A z ∨ InSpans C z := by
  unfold InSpans
  constructor
  · rintro ⟨t, ht, h⟩
    rcases List.mem_append.1 ht with h' | h'
    · exact Or.inl ⟨t, h', h⟩
    · exact Or.inr ⟨t, h', h⟩
  · rintro (⟨t, ht, h⟩ | ⟨t, ht, h⟩)
    · exact ⟨t, List.mem_append.2 (Or.inl ht), h⟩
    · exact ⟨t, List.mem_append.2 (Or.inr ht), h⟩
theorem inSpans_perm {A C : Spans} (h : A.Perm C) {z : Nat} : InSpans A z ↔ InSpans C z := by
  unfold InSpans
  constructor
  · rintro ⟨t, ht, h'⟩
    exact ⟨t, h.mem_iff.1 ht, h'⟩
  · rintro ⟨t, ht, h'⟩
    exact ⟨t, h.mem_iff.2 ht, h'⟩

/-- the pattern of what two patterns have together -/
def joinF (fa ba fb bb : Nat) : Nat := (fa ||| fb) ||| (ba ^^^ bb)
def joinB (fa ba fb bb : Nat) : Nat := nandn ba (joinF fa ba fb bb)
theorem join_ok {k fa ba fb bb : Nat} (ha : PatOk k fa ba) (hb : PatOk k fb bb) : PatOk k (joinF fa ba fb bb) (joinB fa ba fb bb) :=
  ⟨ha.hk, Nat.or_lt_two_pow (Nat.or_lt_two_pow ha.hf hb.hf) (Nat.xor_lt_two_pow ha.hb hb.hb), nandn_lt ha.hb, fun i h => by
    unfold joinB
    rw [nandn_bit, h]; simp⟩
theorem join_fits {fa ba fb bb z : Nat} (h : Fits fa ba z ∨ Fits fb bb z) : Fits (joinF fa ba fb bb) (joinB fa ba fb bb) z := by
  intro i hi
  have hi' := hi
  unfold joinF at hi'
  rw [Nat.testBit_or, Nat.testBit_or, Nat.testBit_xor, Bool.or_eq_false_iff, Bool.or_eq_false_iff] at hi'
  obtain ⟨⟨h1, h2⟩, h3⟩ := hi'
  unfold joinB
  rw [nandn_bit, hi]
  have e : ba.testBit i = bb.testBit i := by
    revert h3
    cases ba.testBit i <;> cases bb.testBit i <;> simp
  rcases h with h | h
  · rw [h i h1]; simp
  · rw [h i h2, e]; simp

/-- the arcs of a layout: from a part's low round to the high of the one ahead -/
def arcL (L : Spans) (i : Nat) : Nat := (L.getD i (0, 0)).1
def arcH (L : Spans) (i : Nat) : Nat := (L.getD ((i + L.length - 1) % L.length) (0, 0)).2
theorem getD_eq {L : Spans} {i : Nat} (h : i < L.length) : L.getD i (0, 0) = L[i] := by simp [List.getD, h]
theorem ahead_lt {n i : Nat} (h : i < n) : (i + n - 1) % n < n := Nat.mod_lt _ (by omega)
theorem ahead_zero {n : Nat} (h : 0 < n) : (0 + n - 1) % n = n - 1 := by rw [Nat.zero_add]; exact Nat.mod_eq_of_lt (by omega)
theorem ahead_pos {n i : Nat} (h : i < n) (h0 : 0 < i) : (i + n - 1) % n = i - 1 := by
  rw [show i + n - 1 = (i - 1) + n by omega, Nat.add_mod_right]
  exact Nat.mod_eq_of_lt (by omega)
theorem arc_all {k F B : Nat} {L : Spans} {c : Int} (g : GoodL k F B L c) {i : Nat} (hi : i < L.length) : ValOk k false (arcL L i) (arcH L i) F B ∧ (∀ z, MemL k F B L z → MemV k false (arcL L i) (arcH L i) F B z) := by
  have hp := g.pat.hk.pow
  have e1 : arcL L i = (L[i]).1 := by unfold arcL; rw [getD_eq hi]
  have e2 : arcH L i = (L[(i + L.length - 1) % L.length]'(ahead_lt hi)).2 := by unfold arcH; rw [getD_eq (ahead_lt hi)]
  have b1 := g.ends _ (List.getElem_mem hi)
  have b2 := g.ends _ (List.getElem_mem (ahead_lt hi))
  refine ⟨⟨g.pat, by rw [e1]; omega, by rw [e2]; omega⟩, fun z hz => ⟨rfl, hz.1, hz.2.1, ?_⟩⟩
  have hle : ∀ t ∈ L, t.1 ≤ t.2 := fun t ht => (g.ends t ht).1
  have ha : arcIn (arcL L i) (arcH L i) z := by
    rw [e1, e2]
    by_cases h0 : i = 0
    · subst h0
      have := arc_first g.rise hle hi hz.2.2
      simpa only [ahead_zero hi] using this
    · have := arc_later g.rise hle hi (by omega) hz.2.2
      simpa only [ahead_pos hi (by omega : 0 < i)] using this
  exact ha
/-- a layout of one part is told just so -/
theorem arc_one {k F B : Nat} {L : Spans} {c : Int} (g : GoodL k F B L c) (h1 : L.length = 1) (z : Nat) : MemV k false (arcL L 0) (arcH L 0) F B z ↔ MemL k F B L z := by
  constructor
  · rintro ⟨_, hlt, hf, hr⟩
    refine ⟨hlt, hf, L[0], List.getElem_mem _, ?_⟩
    have e1 : arcL L 0 = (L[0]).1 := by unfold arcL; rw [getD_eq (by omega)]
    have e2 : arcH L 0 = (L[0]).2 := by
      unfold arcH
      have e0 : (0 + L.length - 1) % L.length = 0 := by rw [h1]
      rw [e0, getD_eq (by omega)]
    have := (g.ends _ (List.getElem_mem (by omega : 0 < L.length))).1
    rw [e1, e2, if_pos this] at hr
    exact hr
  · exact (arc_all g (by omega)).2 z
theorem end_memL {k F B : Nat} {L : Spans} {c : Int} (g : GoodL k F B L c) {t : Nat × Nat} (ht : t ∈ L) : MemL k F B L t.1 ∧ MemL k F B L t.2 := end_mem g.ends ht
/-- a layout with one member alone has one part -/
theorem one_part {k F B : Nat} {L : Spans} {c : Int} (g : GoodL k F B L c) {m : Nat} (h : ∀ z, MemL k F B L z ↔ z = m) : L.length = 1 := by
  have hne : L.length ≠ 0 := by
    intro h0
    obtain ⟨_, _, t, ht, _⟩ := (h m).2 rfl
    cases L with
    | nil => cases ht
    | cons x r => simp at h0
  rcases Nat.lt_or_ge L.length 2 with h2 | h2
  · omega
  · have a := (h _).1 (end_memL g (List.getElem_mem (by omega : 0 < L.length))).1
    have b := (h _).1 (end_memL g (List.getElem_mem (by omega : 1 < L.length))).1
    have := List.pairwise_iff_getElem.1 g.rise 0 1 (by omega) (by omega) (by omega)
    have c := (g.ends _ (List.getElem_mem (by omega : 0 < L.length))).1
    omega
theorem no_part {k F B : Nat} {L : Spans} {c : Int} (g : GoodL k F B L c) (h : ∀ z, ¬ MemL k F B L z) : L = [] := by
  cases L with
  | nil => rfl
  | cons x r => exact absurd (end_memL g (t := x) (by simp)).1 (h _)
end Go.Proofs.YtblahbmhbfcggaaGreatDoor

/- What two layouts have together, and what is asked of meet. -/
namespace Go.Proofs.YtblahbmhbfcggaaGreatDoor
open Go.ChangeShapes Go.WideShapes Go.ChangeAt Go.RowKit Go.Joins Go.Deep
set_option linter.unusedVariables false

theorem SpansV.src {w : World} {lo bl : Nat} {sl : Value} {L : Spans} (h : SpansV w lo bl sl L) : SrcV w sl L := by
  rcases h with ⟨rfl, rfl⟩ | ⟨h0, g, cap, rfl, _, hH⟩
  · exact ⟨none, 0, rfl, Or.inl rfl⟩
  · exact ⟨_, cap, rfl, Or.inr ⟨g, rfl, hH⟩⟩
theorem SrcV.below {w w' : World} {sv : Value} {S : Spans} (h : SrcV w sv S) (hb : Below w.heap.size w w') : SrcV w' sv S := by
  obtain ⟨p, cap, rfl, h | ⟨g, rfl, hH⟩⟩ := h
  · exact ⟨p, cap, rfl, Or.inl h⟩
  · exact ⟨_, cap, rfl, Or.inr ⟨g, rfl, hH.below hb⟩⟩
theorem SrcV.below' {w w' : World} {sv : Value} {S : Spans} (hb : Below w.heap.size w w') (h : SrcV w sv S) : SrcV w' sv S := h.below hb
/-- where the fixed bits of two patterns part -/
def offM (k fa ba fb bb : Nat) : Nat := ((ba ^^^ bb) &&& fixedN k fa) &&& fixedN k fb
theorem offM_zero {k fa ba fb bb : Nat} (ha : PatOk k fa ba) (hb : PatOk k fb bb) : offM k fa ba fb bb = 0 ↔ ∀ i, fa.testBit i = false → fb.testBit i = false → ba.testBit i = bb.testBit i := by
  unfold offM
  constructor
  · intro h i h1 h2
    by_cases hi : i < k
    · have := congrArg (fun x => Nat.testBit x i) h
      simp only [Nat.testBit_and, Nat.testBit_xor, fixedN_bit, Nat.zero_testBit, h1, h2, hi] at this
      revert this
      cases ba.testBit i <;> cases bb.testBit i <;> simp
    · rw [out_bit ha.hb hi, out_bit hb.hb hi]
  · intro h
    apply Nat.eq_of_testBit_eq
    intro i
    simp only [Nat.testBit_and, Nat.testBit_xor, fixedN_bit, Nat.zero_testBit]
    cases e1 : fa.testBit i
    · cases e2 : fb.testBit i
      · rw [h i e1 e2]; simp
      · simp
    · simp
theorem offM_lt {k fa ba fb bb : Nat} (ha : PatOk k fa ba) (hb : PatOk k fb bb) : offM k fa ba fb bb < 2 ^ k := lt_of_and (lt_of_and (Nat.xor_lt_two_pow ha.hb hb.hb))
theorem meet_pat {k fa ba fb bb : Nat} (ha : PatOk k fa ba) (hb : PatOk k fb bb) : PatOk k (fa &&& fb) (ba ||| bb) :=
  ⟨ha.hk, lt_of_and ha.hf, Nat.or_lt_two_pow ha.hb hb.hb, fun i h => by
    rw [Nat.testBit_and, Bool.and_eq_true] at h
    rw [Nat.testBit_or, ha.hbf i h.1, hb.hbf i h.2]; rfl⟩
/-- two whose fixed bits part have nothing together -/
theorem meet_none {k fa ba fb bb : Nat} (ha : PatOk k fa ba) (hb : PatOk k fb bb) (h : offM k fa ba fb bb ≠ 0) {z : Nat} : ¬ (Fits fa ba z ∧ Fits fb bb z) := by
  rintro ⟨h1, h2⟩
  exact h ((offM_zero ha hb).2 (fun i e1 e2 => (h1 i e1).symm.trans (h2 i e2)))
theorem meetS_lt {k : Nat} {A C : Spans} (hA : ∀ t ∈ A, t.1 ≤ t.2 ∧ t.2 < 2 ^ k) (hC : ∀ t ∈ C, t.1 ≤ t.2 ∧ t.2 < 2 ^ k) : ∀ u ∈ meetS A C, u.1 < 2 ^ k ∧ u.2 < 2 ^ k := by
  intro u hu
  obtain ⟨s, hs, t, ht, hle, rfl⟩ := meetS_mem.1 hu
  have h1 := hA s hs
  have h2 := hC t ht
  simp only
  omega
theorem meetS_one (s : Nat × Nat) (C : Spans) : meetS [s] C = C.filterMap fun t => if max s.1 t.1 ≤ min s.2 t.2 then some (max s.1 t.1, min s.2 t.2) else none := by
  unfold meetS; simp
theorem meetS_snocA (A C : Spans) (s : Nat × Nat) : meetS (A ++ [s]) C = meetS A C ++ meetS [s] C := by
  unfold meetS; simp
theorem meetS_snocC (s : Nat × Nat) (C : Spans) (t : Nat × Nat) : meetS [s] (C ++ [t]) = meetS [s] C ++ if max s.1 t.1 ≤ min s.2 t.2 then [(max s.1 t.1, min s.2 t.2)] else [] := by
  rw [meetS_one, meetS_one, List.filterMap_append]
  by_cases h : max s.1 t.1 ≤ min s.2 t.2 <;> simp [List.filterMap_cons, h]
theorem meetS_len1 (s : Nat × Nat) (C : Spans) : (meetS [s] C).length ≤ C.length := by rw [meetS_one]; exact List.length_filterMap_le _ _
theorem meetS_len (A C : Spans) : (meetS A C).length ≤ A.length * C.length := by
  induction A with
  | nil => simp [meetS]
  | cons s A ih =>
    have e : meetS (s :: A) C = meetS [s] C ++ meetS A C := by unfold meetS; simp
    rw [e, List.length_append, List.length_cons, Nat.add_mul, Nat.one_mul]
    have := meetS_len1 s C
    omega
/-- what of one layout lies in another: each part in one of its parts, and what fits the one pattern fits the other -/
def SubL (fa ba : Nat) (La : Spans) (F B : Nat) (L : Spans) : Prop := (∀ t ∈ L, ∃ s ∈ La, s.1 ≤ t.1 ∧ t.2 ≤ s.2) ∧ (L ≠ [] → ∀ z, Fits F B z → Fits fa ba z)
theorem SubL.nil {fa ba F B : Nat} {La : Spans} : SubL fa ba La F B [] := ⟨(by simp), fun h => absurd rfl h⟩
theorem SubL.trans {f1 b1 f2 b2 f3 b3 : Nat} {L1 L2 L3 : Spans} (h : SubL f1 b1 L1 f2 b2 L2) (h' : SubL f2 b2 L2 f3 b3 L3) : SubL f1 b1 L1 f3 b3 L3 := by
  refine ⟨fun t ht => ?_, fun hn z hz => ?_⟩
  · obtain ⟨s, hs, h1, h2⟩ := h'.1 t ht
    obtain ⟨r, hr, h3, h4⟩ := h.1 s hs
    exact ⟨r, hr, by omega, by omega⟩
  · have hn2 : L2 ≠ [] := fun e => by
      cases L3 with
      | nil => exact hn rfl
      | cons x r =>
        obtain ⟨s, hs, _⟩ := h'.1 x (by simp)
        rw [e] at hs
        cases hs
    exact h.2 hn2 z (h'.2 hn z hz)
theorem nar_sub {f b lo hi z : Nat} (hlo : Fits f b lo) (h : Fits (nf f lo hi) (nb f lo hi) z) : Fits f b z := by
  intro i hf
  have hF : (nf f lo hi).testBit i = false := by rw [nf_bit, hf]; rfl
  rw [h i hF, nb_bit, hF, hlo i hf]; simp
theorem sub_of_laid {k f b fa ba : Nat} {S L La : Spans} (hl : Laid k f b S L) (hS : ∀ s ∈ S, ∃ a ∈ La, a.1 ≤ s.1 ∧ s.2 ≤ a.2) (hfit : ∀ z, Fits f b z → Fits fa ba z) : SubL fa ba La (narF f L) (narB f b L) L := by
  refine ⟨fun t ht => ?_, fun hn z hz => ?_⟩
  · obtain ⟨s, hs, h1, h2⟩ := hl.inS t ht
    obtain ⟨r, hr, h3, h4⟩ := hS s hs
    exact ⟨r, hr, by omega, by omega⟩
  · have h0 : 0 < L.length := List.length_pos_iff.2 hn
    obtain ⟨e1, e2⟩ := nar_eq (f := f) (b := b) h0
    rw [e1, e2] at hz
    exact hfit z (nar_sub (hl.ends _ (List.getElem_mem h0)).2.2.1 hz)
theorem meetS_sub {A C : Spans} : ∀ u ∈ meetS A C, ∃ s ∈ A, s.1 ≤ u.1 ∧ u.2 ≤ s.2 := by
  intro u hu
  obtain ⟨s, hs, t, ht, hle, rfl⟩ := meetS_mem.1 hu
  exact ⟨s, hs, by simp only; omega, by simp only; omega⟩
def MeetPost (k fa ba : Nat) (La : Spans) (fb bb : Nat) (Lb : Spans) (w : World) (e : Ending) (w' : World) : Prop :=
  ∃ F B L c bl, e = .returned (.pointer (some ⟨bl, 0, none⟩)) ∧ LayAt w' w.heap.size bl k F B L c ∧ GoodL k F B L c ∧ (∀ z, MemL k F B L z ↔ MemL k fa ba La z ∧ MemL k fb bb Lb z) ∧ SubL fa ba La F B L ∧ w.heap.size ≤ bl ∧ Below w.heap.size w w'
theorem good_of_lay {k f b : Nat} {S L : Spans} (ok : PatOk k f b) (hl : Laid k f b S L) (hr : Rising S) : GoodL k (narF f L) (narB f b L) L (sumR f L) ∧ ∀ z, MemL k (narF f L) (narB f b L) L z ↔ (z < 2 ^ k ∧ Fits f b z ∧ InSpans S z) := by
  obtain ⟨g, hm⟩ := good_of_laid ok hl (hl.rise hr)
  refine ⟨g, fun z => (hm z).trans ?_⟩
  unfold MemL
  constructor
  · rintro ⟨h1, h2, h3⟩
    exact ⟨h1, h2, (hl.same z h1 h2).2 h3⟩
  · rintro ⟨h1, h2, h3⟩
    exact ⟨h1, h2, (hl.same z h1 h2).1 h3⟩
/-- what meet does, for every two layouts (proved in VMeet) -/
def MeetHolds : Prop := ∀ (bla blb k fa ba fb bb : Nat) (La Lb : Spans) (sla slb : Value) (ca cb : Int), GoodL k fa ba La ca → GoodL k fb bb Lb cb → La.length ≤ 9 → Lb.length ≤ 9 → ∀ w : World,
    At w bla (layC k fa ba sla ca) 158 → At w blb (layC k fb bb slb cb) 158 → SrcV w sla La → SrcV w slb Lb →
    Calls Tryz.prog 131 #[.pointer (some ⟨bla, 0, none⟩), .pointer (some ⟨blb, 0, none⟩)] w (MeetPost k fa ba La fb bb Lb w)
end Go.Proofs.YtblahbmhbfcggaaGreatDoor
