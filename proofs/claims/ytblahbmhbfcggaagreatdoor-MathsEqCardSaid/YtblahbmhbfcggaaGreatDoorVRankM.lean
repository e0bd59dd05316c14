/- A pattern's least number that is not below another, as package val reckons it. Plain mathematics. -/
import Derived.Test.YtblahbmhbfcggaaGreatDoorVRef
namespace Go.Proofs.YtblahbmhbfcggaaGreatDoor
open Go.RowKit

structure PatOk (k f b : Nat) : Prop where
  hk : isWn k
  hf : f < 2 ^ k
  hb : b < 2 ^ k
  hbf : ∀ i, f.testBit i = true → b.testBit i = false

theorem lfit_up {k f b n j : Nat} (hbf : ∀ i, f.testBit i = true → b.testBit i = false) (hn : n < 2 ^ k) (hno : ¬ Fits f b n) (hj : j < k) (hg : Good f b n j) (hlow : ∀ i, i < j → ¬ Good f b n i) : LeastFit k f b n (upAt n b j : Nat) :=
  Or.inr ⟨_, rfl, upAt_lt hj hn, Nat.le_of_lt (upAt_gt hg), upAt_fits hg, fun x hx hnx hfx => least_up hbf hg hlow hx hfx (by
    rcases Nat.lt_or_ge n x with h' | h'
    · exact h'
    · obtain rfl : n = x := by omega
      exact absurd hfx hno)⟩

theorem succ_bits {a i : Nat} (h1 : ∀ x, x < i → a.testBit x = true) (h0 : a.testBit i = false) (x : Nat) : (a + 1).testBit x = if i < x then a.testBit x else decide (x = i) := by
  have hm : a % 2 ^ (i + 1) = 2 ^ i - 1 := by
    apply Nat.eq_of_testBit_eq
    intro y
    rw [Nat.testBit_mod_two_pow, Nat.testBit_two_pow_sub_one]
    by_cases h : y < i
    · simp [h, h1 y h]; omega
    · by_cases e : y = i
      · subst e; simp [h0]
      · have : ¬ y < i + 1 := by omega
        simp [this, h]
  have hp : 1 ≤ 2 ^ i := Nat.one_le_two_pow
  have hd := Nat.div_add_mod a (2 ^ (i + 1))
  have h2 : 2 ^ (i + 1) = 2 * 2 ^ i := by rw [Nat.pow_succ]; omega
  have e1 : a + 1 = 2 ^ (i + 1) * (a / 2 ^ (i + 1)) + 2 ^ i := by omega
  rw [e1, Nat.testBit_two_pow_mul_add _ (by omega)]
  by_cases h : x < i + 1
  · rw [if_pos h, Nat.testBit_two_pow, if_neg (by omega)]
    by_cases e : x = i <;> simp [e]; omega
  · rw [if_neg h, if_pos (by omega), ← Nat.shiftRight_eq_div_pow, Nat.testBit_shiftRight]
    congr 1; omega

theorem low_zero (k : Nat) : ∀ a : Nat, a < 2 ^ k → a ≠ 2 ^ k - 1 → ∃ i, i < k ∧ a.testBit i = false ∧ ∀ x, x < i → a.testBit x = true := by
  intro a ha hne
  have key : ∀ m, m ≤ k → (∀ x, x < m → a.testBit x = true) ∨ ∃ i, i < m ∧ a.testBit i = false ∧ ∀ x, x < i → a.testBit x = true := by
    intro m
    induction m with
    | zero => intro _; exact Or.inl (fun x h => absurd h (by omega))
    | succ m ih =>
      intro hm
      rcases ih (by omega) with h | ⟨i, hi, h⟩
      · cases e : a.testBit m
        · exact Or.inr ⟨m, by omega, e, h⟩
        · refine Or.inl (fun x hx => ?_)
          rcases Nat.lt_or_ge x m with h' | h'
          · exact h x h'
          · obtain rfl : x = m := by omega
            exact e
      · exact Or.inr ⟨i, by omega, h⟩
  rcases key k (Nat.le_refl _) with h | h
  · exfalso
    apply hne
    apply Nat.eq_of_testBit_eq
    intro y
    rw [Nat.testBit_two_pow_sub_one]
    by_cases hy : y < k
    · simp [hy, h y hy]
    · simp [hy]
      exact Nat.testBit_lt_two_pow (Nat.lt_of_lt_of_le ha (Nat.pow_le_pow_right (by decide) (by omega)))
  · exact h

def fixedN (k f : Nat) : Nat := nandn (2 ^ k - 1) f
theorem fixedN_bit (k f i : Nat) : (fixedN k f).testBit i = (decide (i < k) && !f.testBit i) := by
  unfold fixedN; rw [nandn_bit, Nat.testBit_two_pow_sub_one]
theorem fixedN_lt (k f : Nat) : fixedN k f < 2 ^ k := nandn_lt (by have : 1 ≤ 2 ^ k := Nat.one_le_two_pow; omega)
def offN (k f b n : Nat) : Nat := (n ^^^ b) &&& fixedN k f
def lowN (k f b n : Nat) : Nat := 2 ^ blen (offN k f b n) - 1
theorem offN_lt (k f b n : Nat) : offN k f b n < 2 ^ k := by unfold offN; rw [Nat.and_comm]; exact lt_of_and (fixedN_lt k f)

section
variable {k f b n : Nat}
theorem out_bit {x i : Nat} (h : x < 2 ^ k) (hi : ¬ i < k) : x.testBit i = false := Nat.testBit_lt_two_pow (Nat.lt_of_lt_of_le h (Nat.pow_le_pow_right (by decide) (by omega)))

/-- nothing is off: n fits -/
theorem off_zero (ok : PatOk k f b) (hn : n < 2 ^ k) (h : offN k f b n = 0) : Fits f b n := by
  intro i hi
  by_cases hk : i < k
  · have : (offN k f b n).testBit i = false := by rw [h]; simp
    unfold offN at this
    rw [Nat.testBit_and, Nat.testBit_xor, fixedN_bit, hi] at this
    simp [hk] at this
    exact this
  · rw [out_bit hn hk, out_bit ok.hb hk]
/-- the highest place that is off -/
theorem off_top (ok : PatOk k f b) (hn : n < 2 ^ k) (h : offN k f b n ≠ 0) : ∃ j, blen (offN k f b n) = j + 1 ∧ j < k ∧ f.testBit j = false ∧ (n.testBit j != b.testBit j) = true ∧ ∀ i, j < i → f.testBit i = false → n.testBit i = b.testBit i := by
  have hp := ok.hk.pow
  have hlt := offN_lt k f b n
  obtain ⟨h1, h2, h3⟩ := blen_spec (x := offN k f b n) (by omega) h
  refine ⟨blen (offN k f b n) - 1, by omega, ?_⟩
  generalize hj : blen (offN k f b n) - 1 = j at *
  have hbl : blen (offN k f b n) = j + 1 := by omega
  rw [hbl] at h3
  have hbit : (offN k f b n).testBit j = true := by
    rw [Nat.testBit_eq_decide_div_mod_eq]
    have : offN k f b n / 2 ^ j = 1 := by
      have e : 2 ^ (j + 1) = 2 * 2 ^ j := by rw [Nat.pow_succ]; omega
      have hpj : 0 < 2 ^ j := Nat.two_pow_pos j
      apply Nat.div_eq_of_lt_le <;> omega
    simp [this]
  have hjk : j < k := by
    rcases Nat.lt_or_ge j k with h' | h'
    · exact h'
    · rw [out_bit hlt (by omega)] at hbit; cases hbit
  have hb2 := hbit
  unfold offN at hb2
  rw [Nat.testBit_and, Nat.testBit_xor, fixedN_bit] at hb2
  simp [hjk] at hb2
  refine ⟨hjk, hb2.2, by simpa using hb2.1, fun i hi hf => ?_⟩
  by_cases hik : i < k
  · have : (offN k f b n).testBit i = false := Nat.testBit_lt_two_pow (Nat.lt_of_lt_of_le h3 (Nat.pow_le_pow_right (by decide) (by omega)))
    unfold offN at this
    rw [Nat.testBit_and, Nat.testBit_xor, fixedN_bit, hf] at this
    simpa [hik] using this
  · rw [out_bit hn hik, out_bit ok.hb hik]

theorem low_bit {j i : Nat} (h : blen (offN k f b n) = j + 1) : (lowN k f b n).testBit i = decide (i ≤ j) := by
  unfold lowN; rw [h, Nat.testBit_two_pow_sub_one]; congr 1; rw [Nat.lt_succ_iff]

theorem from_yes (ok : PatOk k f b) (hn : n < 2 ^ k) (hle : n &&& lowN k f b n ≤ b &&& lowN k f b n) : LeastFit k f b n ((nandn n (lowN k f b n) &&& f ||| b : Nat) : Int) := by
  by_cases h0 : offN k f b n = 0
  · have hf := off_zero ok hn h0
    have e : nandn n (lowN k f b n) &&& f ||| b = n := by
      have hl : lowN k f b n = 0 := by unfold lowN; rw [h0, blen_zero]
      apply Nat.eq_of_testBit_eq
      intro i
      rw [hl, Nat.testBit_or, Nat.testBit_and, nandn_bit]
      cases e : f.testBit i
      · rw [hf i e]; simp
      · rw [ok.hbf i e]; simp
    rw [e]
    exact fit_here hn hf
  · obtain ⟨j, hb, hjk, hfj, hne, habove⟩ := off_top ok hn h0
    have hno : ¬ Fits f b n := fun hf => by rw [hf j hfj] at hne; simp at hne
    cases hnj : n.testBit j
    · have hbj : b.testBit j = true := by rw [hnj] at hne; simpa using hne
      have hg : Good f b n j := ⟨habove, hnj, Or.inr hbj⟩
      have e : nandn n (lowN k f b n) &&& f ||| b = upAt n b j := by
        apply Nat.eq_of_testBit_eq
        intro i
        rw [Nat.testBit_or, Nat.testBit_and, nandn_bit, low_bit hb, upAt_bit]
        by_cases h1 : j < i
        · have h2 : ¬ i ≤ j := by omega
          simp only [h1, if_true, h2, decide_false, Bool.not_false, Bool.and_true]
          cases e : f.testBit i
          · rw [habove i h1 e]; simp
          · rw [ok.hbf i e]; simp
        · have h2 : i ≤ j := by omega
          simp only [h1, if_false, h2, decide_true, Bool.not_true, Bool.and_false, Bool.false_and, Bool.false_or]
          by_cases e : i = j
          · simp [e, hbj]
          · simp [e]
      rw [e]
      refine lfit_up ok.hbf hn hno hjk hg (fun i hi hgi => ?_)
      have := hgi.above j hi hfj
      rw [this] at hne; simp at hne
    · exfalso
      have hbj : b.testBit j = false := by rw [hnj] at hne; simpa using hne
      have : b &&& lowN k f b n < n &&& lowN k f b n := by
        refine lt_of_bit j ?_ ?_ ?_
        · rw [Nat.testBit_and, hbj]; simp
        · rw [Nat.testBit_and, hnj, low_bit hb]; simp
        · intro i hi
          have h2 : ¬ i ≤ j := by omega
          rw [Nat.testBit_and, Nat.testBit_and, low_bit hb]; simp [h2]
      omega
/-- where n has more there than b -/
theorem from_no (ok : PatOk k f b) (hn : n < 2 ^ k) (hle : ¬ n &&& lowN k f b n ≤ b &&& lowN k f b n) : ¬ Fits f b n ∧ ∃ j, blen (offN k f b n) = j + 1 ∧ j < k ∧ n.testBit j = true ∧ (∀ i, j < i → f.testBit i = false → n.testBit i = b.testBit i) ∧ ∀ i, Good f b n i → j < i ∧ f.testBit i = true := by
  have h0 : offN k f b n ≠ 0 := by
    intro h0
    apply hle
    have hl : lowN k f b n = 0 := by unfold lowN; rw [h0, blen_zero]
    rw [hl]; simp
  obtain ⟨j, hb, hjk, hfj, hne, habove⟩ := off_top ok hn h0
  have hno : ¬ Fits f b n := fun hf => by rw [hf j hfj] at hne; simp at hne
  have hnj : n.testBit j = true := by
    cases hnj : n.testBit j
    · exfalso
      apply hle
      have hbj : b.testBit j = true := by rw [hnj] at hne; simpa using hne
      refine Nat.le_of_lt (lt_of_bit j ?_ ?_ ?_)
      · rw [Nat.testBit_and, hnj]; simp
      · rw [Nat.testBit_and, hbj, low_bit hb]; simp
      · intro i hi
        have h2 : ¬ i ≤ j := by omega
        rw [Nat.testBit_and, Nat.testBit_and, low_bit hb]; simp [h2]
    · rfl
  refine ⟨hno, j, hb, hjk, hnj, habove, fun i hg => ?_⟩
  have hij : j < i := by
    rcases Nat.lt_trichotomy i j with h | h | h
    · have := hg.above j h hfj
      rw [this] at hne; simp at hne
    · have hz := hg.zero
      rw [h, hnj] at hz; cases hz
    · exact h
  refine ⟨hij, ?_⟩
  cases e : f.testBit i
  · exfalso
    have h1 := habove i hij e
    rw [hg.zero] at h1
    rcases hg.one with h2 | h2
    · rw [e] at h2; cases h2
    · rw [← h1] at h2; cases h2
  · rfl
def fullN (k f b n : Nat) : Nat := n ||| lowN k f b n ||| fixedN k f
theorem full_bit {j i : Nat} (h : blen (offN k f b n) = j + 1) : (fullN k f b n).testBit i = (n.testBit i || decide (i ≤ j) || (decide (i < k) && !f.testBit i)) := by
  unfold fullN; rw [Nat.testBit_or, Nat.testBit_or, low_bit h, fixedN_bit]
theorem full_lt (ok : PatOk k f b) (hn : n < 2 ^ k) : fullN k f b n < 2 ^ k := by
  have hp := ok.hk.pow
  have hlo : lowN k f b n < 2 ^ k := by
    unfold lowN
    have h1 := blen_le (k := k) (by have := ok.hk.le; omega) (offN_lt k f b n)
    have h2 : 2 ^ blen (offN k f b n) ≤ 2 ^ k := Nat.pow_le_pow_right (by decide) h1
    have h3 : 1 ≤ 2 ^ blen (offN k f b n) := Nat.one_le_two_pow
    omega
  exact Nat.or_lt_two_pow (Nat.or_lt_two_pow hn hlo) (fixedN_lt k f)
theorem from_none (ok : PatOk k f b) (hn : n < 2 ^ k) (hle : ¬ n &&& lowN k f b n ≤ b &&& lowN k f b n) (hfull : fullN k f b n = 2 ^ k - 1) : LeastFit k f b n (-1) := by
  obtain ⟨hno, j, hb, hjk, hnj, habove, hgood⟩ := from_no ok hn hle
  refine fit_none hno (fun i hi hg => ?_)
  obtain ⟨hij, hfi⟩ := hgood i hg
  have h1 : (fullN k f b n).testBit i = true := by rw [hfull, Nat.testBit_two_pow_sub_one]; simpa using hi
  rw [full_bit hb, hg.zero, hfi] at h1
  simp at h1
  omega
theorem from_up (ok : PatOk k f b) (hn : n < 2 ^ k) (hle : ¬ n &&& lowN k f b n ≤ b &&& lowN k f b n) (hfull : fullN k f b n ≠ 2 ^ k - 1) : LeastFit k f b n (((fullN k f b n + 1) &&& f ||| b : Nat) : Int) := by
  obtain ⟨hno, j, hb, hjk, hnj, habove, hgood⟩ := from_no ok hn hle
  obtain ⟨i, hi, hz, hall⟩ := low_zero k _ (full_lt ok hn) hfull
  have hz' := hz
  rw [full_bit hb] at hz'
  simp [hi] at hz'
  obtain ⟨⟨hni, hij⟩, hfi⟩ := hz'
  have hg : Good f b n i := ⟨fun x hx => habove x (by omega), hni, Or.inl hfi⟩
  have e : (fullN k f b n + 1) &&& f ||| b = upAt n b i := by
    apply Nat.eq_of_testBit_eq
    intro x
    rw [Nat.testBit_or, Nat.testBit_and, succ_bits hall hz, upAt_bit]
    by_cases h1 : i < x
    · simp only [h1, if_true]
      rw [full_bit hb]
      have h2 : ¬ x ≤ j := by omega
      cases e : f.testBit x
      · rw [habove x (by omega) e]; simp
      · rw [ok.hbf x e]; simp [h2]
    · simp only [h1, if_false]
      by_cases e : x = i
      · simp [e, hfi]
      · simp [e]
  rw [e]
  refine lfit_up ok.hbf hn hno hi hg (fun x hx hgx => ?_)
  have h1 := hall x hx
  obtain ⟨hjx, hfx⟩ := hgood x hgx
  rw [full_bit hb, hgx.zero, hfx] at h1
  simp at h1
  omega
end
end Go.Proofs.YtblahbmhbfcggaaGreatDoor

/- A number's rank: its free bits, moved together. Plain mathematics. -/
namespace Go.Proofs.YtblahbmhbfcggaaGreatDoor
open Go.RowKit

def cmpF : Nat → Nat → Nat → Nat
  | 0, _, _ => 0
  | m + 1, f, n => if f % 2 = 1 then n % 2 + 2 * cmpF m (f / 2) (n / 2) else cmpF m (f / 2) (n / 2)
def cmpr (f n : Nat) : Nat := cmpF 32 f n

theorem testBit_zero' (x : Nat) : x.testBit 0 = decide (x % 2 = 1) := Nat.testBit_zero x
theorem cmpF_zero (m n : Nat) : cmpF m 0 n = 0 := by
  induction m generalizing n with
  | zero => rfl
  | succ m ih => simp [cmpF, ih]
theorem cmpF_lt (m f n : Nat) : cmpF m f n < 2 ^ m := by
  induction m generalizing f n with
  | zero => simp [cmpF]
  | succ m ih =>
    have h := ih (f / 2) (n / 2)
    rw [Nat.pow_succ]
    unfold cmpF
    split <;> omega
theorem cmpF_step (m : Nat) : ∀ (x y j n : Nat), x < 2 ^ m → x.testBit j = true → (∀ i, i < j → x.testBit i = false) → (∀ i, y.testBit i = (x.testBit i && decide (i ≠ j))) → cmpF m x n = (n.testBit j).toNat + 2 * cmpF m y n := by
  induction m with
  | zero =>
    intro x y j n hx hj
    obtain rfl : x = 0 := by omega
    simp at hj
  | succ m ih =>
    intro x y j n hx hj hlow hy
    rw [Nat.pow_succ] at hx
    cases j with
    | zero =>
      have ox : x % 2 = 1 := by simpa [testBit_zero'] using hj
      have oy : ¬ y % 2 = 1 := by
        have := hy 0
        rw [testBit_zero'] at this
        simpa using this
      have e : y / 2 = x / 2 := by
        apply Nat.eq_of_testBit_eq
        intro i
        have := hy (i + 1)
        rw [← Nat.testBit_succ, ← Nat.testBit_succ, this]; simp
      have en : (n.testBit 0).toNat = n % 2 := by
        rw [testBit_zero']
        by_cases h : n % 2 = 1
        · simp [h]
        · have : n % 2 = 0 := by omega
          simp [this]
      unfold cmpF
      rw [if_pos ox, if_neg oy, e, en]
    | succ j =>
      have ox : ¬ x % 2 = 1 := by
        have := hlow 0 (by omega)
        rw [testBit_zero'] at this
        simpa using this
      have oy : ¬ y % 2 = 1 := by
        have := hy 0
        rw [hlow 0 (by omega), testBit_zero'] at this
        simpa using this
      have := ih (x / 2) (y / 2) j (n / 2) (by omega) (by rw [← Nat.testBit_succ]; exact hj) (fun i hi => by rw [← Nat.testBit_succ]; exact hlow _ (by omega)) (fun i => by
        rw [← Nat.testBit_succ, ← Nat.testBit_succ, hy]; simp)
      unfold cmpF
      rw [if_neg ox, if_neg oy, this, ← Nat.testBit_succ]
theorem cmpF_all (m : Nat) : ∀ (f n : Nat), f < 2 ^ m → f &&& (f + 1) = 0 → cmpF m f n = n &&& f := by
  induction m with
  | zero =>
    intro f n hf _
    obtain rfl : f = 0 := by omega
    simp [cmpF]
  | succ m ih =>
    intro f n hf h
    rw [Nat.pow_succ] at hf
    have hb : ∀ i, (f.testBit i && (f + 1).testBit i) = false := fun i => by rw [← Nat.testBit_and, h]; simp
    by_cases o : f % 2 = 1
    · have e1 : (f / 2) &&& (f / 2 + 1) = 0 := by
        apply Nat.eq_of_testBit_eq
        intro i
        rw [Nat.testBit_and, Nat.zero_testBit]
        have := hb (i + 1)
        rw [Nat.testBit_succ, Nat.testBit_succ, show (f + 1) / 2 = f / 2 + 1 by omega] at this
        exact this
      have e2 := ih (f / 2) (n / 2) (by omega) e1
      unfold cmpF
      rw [if_pos o, e2]
      apply Nat.eq_of_testBit_eq
      intro i
      cases i with
      | zero =>
        rw [Nat.testBit_and, testBit_zero', testBit_zero', testBit_zero']
        simp [o]

      | succ i =>
        rw [Nat.testBit_succ, Nat.testBit_and, Nat.testBit_succ, Nat.testBit_succ, show (n % 2 + 2 * (n / 2 &&& f / 2)) / 2 = n / 2 &&& f / 2 by omega, Nat.testBit_and]
    · have hz : f = 0 := by
        apply Nat.eq_of_testBit_eq
        intro i
        rw [Nat.zero_testBit]
        cases i with
        | zero => rw [testBit_zero']; simpa using o
        | succ i =>
          have := hb (i + 1)
          rw [Nat.testBit_succ, Nat.testBit_succ, show (f + 1) / 2 = f / 2 by omega] at this
          rw [Nat.testBit_succ]
          simpa using this
      rw [hz, cmpF_zero]; simp
/-- the lowest of x's bits -/
theorem lowest {x : Nat} (hx : x < 2 ^ 32) (h0 : x ≠ 0) : ∃ j, j < 32 ∧ x.testBit j = true ∧ (∀ i, i < j → x.testBit i = false) ∧ nandn x (x - 1) = 2 ^ j ∧ ∀ i, (x &&& (x - 1)).testBit i = (x.testBit i && decide (i ≠ j)) := by
  obtain ⟨j, hj, hz, hall⟩ := low_zero 32 (x - 1) (by omega) (by omega)
  have hs := succ_bits hall hz
  rw [show x - 1 + 1 = x by omega] at hs
  have b1 : x.testBit j = true := by rw [hs]; simp
  have b2 : ∀ i, i < j → x.testBit i = false := fun i hi => by rw [hs, if_neg (by omega)]; simp; omega
  have b3 : ∀ i, j < i → (x - 1).testBit i = x.testBit i := fun i hi => by rw [hs, if_pos hi]
  refine ⟨j, hj, b1, b2, ?_, fun i => ?_⟩
  · apply Nat.eq_of_testBit_eq
    intro i
    rw [nandn_bit, Nat.testBit_two_pow]
    rcases Nat.lt_trichotomy i j with h | h | h
    · rw [b2 i h]; simp; omega
    · subst h; simp [b1, hz]
    · rw [b3 i h]; simp; omega
  · rw [Nat.testBit_and]
    rcases Nat.lt_trichotomy i j with h | h | h
    · rw [b2 i h]; simp
    · subst h; simp [hz]
    · rw [b3 i h]; simp; omega
theorem bits_neg {x : Nat} (hx : x < 2 ^ 62) (h0 : x ≠ 0) : bits .and .i64 (x : Int) (-(x : Int)) = (nandn x (x - 1) : Nat) := by
  rw [← bits_andNot (y := x - 1) hx]
  show IntKind.i64.wrap ((BitVec.ofInt 64 (x : Int) &&& BitVec.ofInt 64 (-(x : Int))).toNat : Int) = IntKind.i64.wrap ((BitVec.ofInt 64 (x : Int) &&& ~~~ BitVec.ofInt 64 ((x - 1 : Nat) : Int)).toNat : Int)
  have e : BitVec.ofInt 64 (-(x : Int)) = ~~~ BitVec.ofInt 64 ((x - 1 : Nat) : Int) := by
    apply BitVec.eq_of_toNat_eq
    rw [BitVec.toNat_not, BitVec.toNat_ofInt, BitVec.toNat_ofInt]
    omega
  rw [e]
end Go.Proofs.YtblahbmhbfcggaaGreatDoor
