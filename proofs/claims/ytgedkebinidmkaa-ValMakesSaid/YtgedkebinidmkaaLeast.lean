/- Numbers with fixed bits: the least one that is not below another. Plain mathematics. -/
namespace Go.Proofs.Ytgedkebinidmkaa

/-- x has, where f has none, b's bits -/
def Fits (f b x : Nat) : Prop := ∀ i, f.testBit i = false → x.testBit i = b.testBit i

theorem div_eq_of_bits {x y : Nat} (i : Nat) (h : ∀ j, i ≤ j → x.testBit j = y.testBit j) : x / 2 ^ i = y / 2 ^ i := by
  apply Nat.eq_of_testBit_eq
  intro j
  rw [← Nat.shiftRight_eq_div_pow, ← Nat.shiftRight_eq_div_pow, Nat.testBit_shiftRight, Nat.testBit_shiftRight]
  exact h _ (by omega)

theorem lt_of_bit {x y : Nat} (i : Nat) (hx : x.testBit i = false) (hy : y.testBit i = true) (h : ∀ j, i < j → x.testBit j = y.testBit j) : x < y := by
  have e := div_eq_of_bits (i + 1) (fun j hj => h j (by omega))
  have bx : x / 2 ^ i % 2 = 0 := by
    rw [Nat.testBit_eq_decide_div_mod_eq] at hx; simp at hx; omega
  have by_ : y / 2 ^ i % 2 = 1 := by
    rw [Nat.testBit_eq_decide_div_mod_eq] at hy; simpa using hy
  have ex : x / 2 ^ (i + 1) = x / 2 ^ i / 2 := by rw [Nat.pow_succ, Nat.div_div_eq_div_mul]
  have ey : y / 2 ^ (i + 1) = y / 2 ^ i / 2 := by rw [Nat.pow_succ, Nat.div_div_eq_div_mul]
  rw [ex, ey] at e
  have hlt : x / 2 ^ i < y / 2 ^ i := by omega
  exact Nat.lt_of_div_lt_div hlt

theorem top_bit : ∀ (w : Nat) {x y : Nat}, x < y → y < 2 ^ w → ∃ i, i < w ∧ x.testBit i = false ∧ y.testBit i = true ∧ ∀ j, i < j → x.testBit j = y.testBit j := by
  intro w
  induction w with
  | zero => intro x y h h'; simp at h'; omega
  | succ w ih =>
    intro x y h h'
    rcases Nat.lt_or_ge (x / 2) (y / 2) with hd | hd
    · obtain ⟨i, hi, a, b, c⟩ := ih hd (by rw [Nat.pow_succ] at h'; omega)
      refine ⟨i + 1, by omega, by rw [Nat.testBit_succ]; exact a, by rw [Nat.testBit_succ]; exact b, fun j hj => ?_⟩
      obtain ⟨k, rfl⟩ : ∃ k, j = k + 1 := ⟨j - 1, by omega⟩
      rw [Nat.testBit_succ, Nat.testBit_succ]
      exact c k (by omega)
    · have e : x / 2 = y / 2 := by omega
      refine ⟨0, by omega, by rw [Nat.testBit_zero]; simp; omega, by rw [Nat.testBit_zero]; simp; omega, fun j hj => ?_⟩
      obtain ⟨k, rfl⟩ : ∃ k, j = k + 1 := ⟨j - 1, by omega⟩
      rw [Nat.testBit_succ, Nat.testBit_succ, e]

/-- n's bits above j, 1 at j, b's below -/
def upAt (n b j : Nat) : Nat := (n >>> (j + 1) <<< (j + 1) ||| 1 <<< j) ||| (b &&& (2 ^ j - 1))
theorem upAt_bit (n b j i : Nat) : (upAt n b j).testBit i = if j < i then n.testBit i else if i = j then true else b.testBit i := by
  unfold upAt
  rw [Nat.testBit_or, Nat.testBit_or, Nat.testBit_and, Nat.testBit_two_pow_sub_one, Nat.testBit_shiftLeft, Nat.testBit_shiftRight, Nat.testBit_shiftLeft]
  by_cases h : j < i
  · rw [if_pos h]
    have h1 : j + 1 ≤ i := h
    have h2 : ¬ i < j := by omega
    have h3 : j + 1 + (i - (j + 1)) = i := by omega
    have h4 : (1 : Nat).testBit (i - j) = false := by
      rw [show (1 : Nat) = 2 ^ 0 from rfl, Nat.testBit_two_pow]; simp; omega
    simp [h1, h2, h3, h4]
  · rw [if_neg h]
    by_cases e : i = j
    · subst e; simp
    · have h2 : i < j := by omega
      have h3 : ¬ j + 1 ≤ i := by omega
      have h4 : ¬ j ≤ i := by omega
      simp [h2, h3, h4, e]

structure Good (f b n j : Nat) : Prop where
  above : ∀ i, j < i → f.testBit i = false → n.testBit i = b.testBit i
  zero : n.testBit j = false
  one : f.testBit j = true ∨ b.testBit j = true

variable {w f b n : Nat}

theorem upAt_fits {j : Nat} (h : Good f b n j) : Fits f b (upAt n b j) := by
  intro i hi
  rw [upAt_bit]
  by_cases h1 : j < i
  · rw [if_pos h1]; exact h.above i h1 hi
  · rw [if_neg h1]
    by_cases e : i = j
    · subst e
      rcases h.one with h2 | h2
      · rw [h2] at hi; cases hi
      · simp [h2]
    · simp [e]
theorem upAt_lt {j : Nat} (hj : j < w) (hn : n < 2 ^ w) : upAt n b j < 2 ^ w := by
  apply Nat.lt_pow_two_of_testBit
  intro i hi
  have hn' : n.testBit i = false := Nat.testBit_lt_two_pow (Nat.lt_of_lt_of_le hn (Nat.pow_le_pow_right (by decide) hi))
  rw [upAt_bit, if_pos (by omega)]
  exact hn'
theorem upAt_gt {j : Nat} (h : Good f b n j) : n < upAt n b j := by
  refine lt_of_bit j h.zero ?_ ?_
  · rw [upAt_bit]; simp
  · intro i hi; rw [upAt_bit, if_pos hi]
/-- whatever fits and is above n shows a good place, and is not below what is made there -/
theorem good_of {x : Nat} (hx : x < 2 ^ w) (hf : Fits f b x) (hn : n < x) : ∃ j, j < w ∧ Good f b n j ∧ (∀ i, j < i → n.testBit i = x.testBit i) ∧ x.testBit j = true := by
  obtain ⟨j, hj, a, c, d⟩ := top_bit w hn hx
  refine ⟨j, hj, ⟨fun i hi hfi => by rw [d i hi]; exact hf i hfi, a, ?_⟩, d, c⟩
  cases e : f.testBit j
  · exact Or.inr (by rw [← hf j e]; exact c)
  · exact Or.inl rfl
theorem upAt_le {x j : Nat} (hbf : ∀ i, f.testBit i = true → b.testBit i = false) (hf : Fits f b x) (hd : ∀ i, j < i → n.testBit i = x.testBit i) (hc : x.testBit j = true) : upAt n b j ≤ x := by
  apply Nat.le_of_testBit
  intro i hi
  rw [upAt_bit] at hi
  by_cases h1 : j < i
  · rw [if_pos h1] at hi; rw [← hd i h1]; exact hi
  · rw [if_neg h1] at hi
    by_cases e : i = j
    · rw [e]; exact hc
    · simp [e] at hi
      cases e2 : f.testBit i
      · rw [hf i e2]; exact hi
      · rw [hbf i e2] at hi; cases hi
/-- the lowest good place makes the least -/
theorem least_up {x j : Nat} (hbf : ∀ i, f.testBit i = true → b.testBit i = false) (hj : Good f b n j) (hlow : ∀ i, i < j → ¬ Good f b n i) (hx : x < 2 ^ w) (hf : Fits f b x) (hn : n < x) : upAt n b j ≤ x := by
  obtain ⟨i, hi, hg, hd, hc⟩ := good_of hx hf hn
  rcases Nat.lt_trichotomy i j with h | h | h
  · exact absurd hg (hlow i h)
  · subst h; exact upAt_le hbf hf hd hc
  · refine Nat.le_of_lt (lt_of_bit i ?_ hc ?_)
    · rw [upAt_bit, if_pos h]; exact hg.zero
    · intro k hk; rw [upAt_bit, if_pos (by omega)]; exact hd k hk
theorem none_up {x : Nat} (h : ∀ j, j < w → ¬ Good f b n j) (hx : x < 2 ^ w) (hf : Fits f b x) : ¬ n < x := fun hn => by
  obtain ⟨j, hj, hg, _⟩ := good_of hx hf hn
  exact h j hj hg
end Go.Proofs.Ytgedkebinidmkaa
