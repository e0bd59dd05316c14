/- A number's rank: its free bits, moved together. Plain mathematics. -/
import Derived.Test.YtgedkebinidmkaaVFrom
namespace Go.Proofs.Ytgedkebinidmkaa
open Go.RowKit

def cmpF : Nat → Nat → Nat → Nat
  | 0, _, _ => 0
  | m + 1, f, n => if f % 2 = 1 then n % 2 + 2 * cmpF m (f / 2) (n / 2) else cmpF m (f / 2) (n / 2)
def cmpr (f n : Nat) : Nat := cmpF 32 f n

theorem testBit_zero' (x : Nat) : x.testBit 0 = decide (x % 2 = 1) := Nat.testBit_zero x
theorem cmpF_zero (m n : Nat) : cmpF m 0 n = 0 := by
  induction m generalizing n with
  | zero => rfl
  | succ m ih => simp [cmpF, ih]
theorem cmpF_lt (m f n : Nat) : cmpF m f n < 2 ^ m := by
  induction m generalizing f n with
  | zero => simp [cmpF]
  | succ m ih =>
    have h := ih (f / 2) (n / 2)
    rw [Nat.pow_succ]
    unfold cmpF
    split <;> omega
theorem cmpF_step (m : Nat) : ∀ (x y j n : Nat), x < 2 ^ m → x.testBit j = true → (∀ i, i < j → x.testBit i = false) → (∀ i, y.testBit i = (x.testBit i && decide (i ≠ j))) → cmpF m x n = (n.testBit j).toNat + 2 * cmpF m y n := by
  induction m with
  | zero =>
    intro x y j n hx hj
    obtain rfl : x = 0 := by omega
    simp at hj
  | succ m ih =>
    intro x y j n hx hj hlow hy
    rw [Nat.pow_succ] at hx
    cases j with
    | zero =>
      have ox : x % 2 = 1 := by simpa [testBit_zero'] using hj
      have oy : ¬ y % 2 = 1 := by
        have := hy 0
        rw [testBit_zero'] at this
        simpa using this
      have e : y / 2 = x / 2 := by
        apply Nat.eq_of_testBit_eq
        intro i
        have := hy (i + 1)
        rw [← Nat.testBit_succ, ← Nat.testBit_succ, this]; simp
      have en : (n.testBit 0).toNat = n % 2 := by
        rw [testBit_zero']
        by_cases h : n % 2 = 1
        · simp [h]
        · have : n % 2 = 0 := by omega
          simp [this]
      unfold cmpF
      rw [if_pos ox, if_neg oy, e, en]
    | succ j =>
      have ox : ¬ x % 2 = 1 := by
        have := hlow 0 (by omega)
        rw [testBit_zero'] at this
        simpa using this
      have oy : ¬ y % 2 = 1 := by
        have := hy 0
        rw [hlow 0 (by omega), testBit_zero'] at this
        simpa using this
      have := ih (x / 2) (y / 2) j (n / 2) (by omega) (by rw [← Nat.testBit_succ]; exact hj) (fun i hi => by rw [← Nat.testBit_succ]; exact hlow _ (by omega)) (fun i => by
        rw [← Nat.testBit_succ, ← Nat.testBit_succ, hy]; simp)
      unfold cmpF
      rw [if_neg ox, if_neg oy, this, ← Nat.testBit_succ]
theorem cmpF_all (m : Nat) : ∀ (f n : Nat), f < 2 ^ m → f &&& (f + 1) = 0 → cmpF m f n = n &&& f := by
  induction m with
  | zero =>
    intro f n hf _
    obtain rfl : f = 0 := by omega
    simp [cmpF]
  | succ m ih =>
    intro f n hf h
    rw [Nat.pow_succ] at hf
    have hb : ∀ i, (f.testBit i && (f + 1).testBit i) = false := fun i => by rw [← Nat.testBit_and, h]; simp
    by_cases o : f % 2 = 1
    · have e1 : (f / 2) &&& (f / 2 + 1) = 0 := by
        apply Nat.eq_of_testBit_eq
        intro i
        rw [Nat.testBit_and, Nat.zero_testBit]
        have := hb (i + 1)
        rw [Nat.testBit_succ, Nat.testBit_succ, show (f + 1) / 2 = f / 2 + 1 by omega] at this
        exact this
      have e2 := ih (f / 2) (n / 2) (by omega) e1
      unfold cmpF
      rw [if_pos o, e2]
      apply Nat.eq_of_testBit_eq
      intro i
      cases i with
      | zero =>
        rw [Nat.testBit_and, testBit_zero', testBit_zero', testBit_zero']
        simp [o]

      | succ i =>
        rw [Nat.testBit_succ, Nat.testBit_and, Nat.testBit_succ, Nat.testBit_succ, show (n % 2 + 2 * (n / 2 &&& f / 2)) / 2 = n / 2 &&& f / 2 by omega, Nat.testBit_and]
    · have hz : f = 0 := by
        apply Nat.eq_of_testBit_eq
        intro i
        rw [Nat.zero_testBit]
        cases i with
        | zero => rw [testBit_zero']; simpa using o
        | succ i =>
          have := hb (i + 1)
          rw [Nat.testBit_succ, Nat.testBit_succ, show (f + 1) / 2 = f / 2 by omega] at this
          rw [Nat.testBit_succ]
          simpa using this
      rw [hz, cmpF_zero]; simp
/-- the lowest of x's bits -/
theorem lowest {x : Nat} (hx : x < 2 ^ 32) (h0 : x ≠ 0) : ∃ j, j < 32 ∧ x.testBit j = true ∧ (∀ i, i < j → x.testBit i = false) ∧ nandn x (x - 1) = 2 ^ j ∧ ∀ i, (x &&& (x - 1)).testBit i = (x.testBit i && decide (i ≠ j)) := by
  obtain ⟨j, hj, hz, hall⟩ := low_zero 32 (x - 1) (by omega) (by omega)
  have hs := succ_bits hall hz
  rw [show x - 1 + 1 = x by omega] at hs
  have b1 : x.testBit j = true := by rw [hs]; simp
  have b2 : ∀ i, i < j → x.testBit i = false := fun i hi => by rw [hs, if_neg (by omega)]; simp; omega
  have b3 : ∀ i, j < i → (x - 1).testBit i = x.testBit i := fun i hi => by rw [hs, if_pos hi]
  refine ⟨j, hj, b1, b2, ?_, fun i => ?_⟩
  · apply Nat.eq_of_testBit_eq
    intro i
    rw [nandn_bit, Nat.testBit_two_pow]
    rcases Nat.lt_trichotomy i j with h | h | h
    · rw [b2 i h]; simp; omega
    · subst h; simp [b1, hz]
    · rw [b3 i h]; simp; omega
  · rw [Nat.testBit_and]
    rcases Nat.lt_trichotomy i j with h | h | h
    · rw [b2 i h]; simp
    · subst h; simp [hz]
    · rw [b3 i h]; simp; omega
theorem bits_neg {x : Nat} (hx : x < 2 ^ 62) (h0 : x ≠ 0) : bits .and .i64 (x : Int) (-(x : Int)) = (nandn x (x - 1) : Nat) := by
  rw [← bits_andNot (y := x - 1) hx]
  show IntKind.i64.wrap ((BitVec.ofInt 64 (x : Int) &&& BitVec.ofInt 64 (-(x : Int))).toNat : Int) = IntKind.i64.wrap ((BitVec.ofInt 64 (x : Int) &&& ~~~ BitVec.ofInt 64 ((x - 1 : Nat) : Int)).toNat : Int)
  have e : BitVec.ofInt 64 (-(x : Int)) = ~~~ BitVec.ofInt 64 ((x - 1 : Nat) : Int) := by
    apply BitVec.eq_of_toNat_eq
    rw [BitVec.toNat_not, BitVec.toNat_ofInt, BitVec.toNat_ofInt]
    omega
  rw [e]
end Go.Proofs.Ytgedkebinidmkaa
