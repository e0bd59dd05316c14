/- Numbers of 64 bits without a sign: masks and products. -/
import Derived.Test.YtbamphfoobmblaaWord
namespace Go.Proofs.Ytbamphfoobmblaa
open Go.ChangeShapes Go.WideShapes Go.ChangeAt Go.RowKit Go.Joins Go.Deep
set_option linter.unusedVariables false

theorem and_mask_u64 (n : Int) (k : Nat) (hk : k ≤ 62) : bits .and .u64 n (2 ^ k - 1) = n % 2 ^ k := by
  have e1 : ((2 : Int) ^ k - 1) = ((2 ^ k - 1 : Nat) : Int) := by
    have : 1 ≤ 2 ^ k := Nat.one_le_two_pow
    rw [Int.natCast_sub this]; simp
  have h62 : (2 : Nat) ^ k ≤ 2 ^ 62 := Nat.pow_le_pow_right (by decide) hk
  have e2 : (BitVec.ofInt 64 ((2 : Int) ^ k - 1)).toNat = 2 ^ k - 1 := by
    rw [e1, BitVec.ofInt_natCast, BitVec.toNat_ofNat]
    exact Nat.mod_eq_of_lt (by omega)
  show IntKind.u64.wrap ((BitVec.ofInt 64 n &&& BitVec.ofInt 64 ((2 : Int) ^ k - 1)).toNat : Int) = _
  rw [BitVec.toNat_and, e2, Nat.and_two_pow_sub_one_eq_mod]
  have e3 : ((BitVec.ofInt 64 n).toNat : Int) = n % 2 ^ 64 := by
    rw [BitVec.toNat_ofInt]
    have : 0 ≤ n % ((2 ^ 64 : Nat) : Int) := Int.emod_nonneg _ (by decide)
    omega
  have e4 : (((BitVec.ofInt 64 n).toNat % 2 ^ k : Nat) : Int) = n % 2 ^ k := by
    rw [Int.natCast_emod, e3]
    have hd : ((2 : Int) ^ k) ∣ 2 ^ 64 := ⟨2 ^ (64 - k), by rw [← Int.pow_add]; congr 1; omega⟩
    simp only [Int.natCast_pow, Int.cast_ofNat_Int]
    exact Int.emod_emod_of_dvd n hd
  rw [e4]
  have l0 : 0 ≤ n % 2 ^ k := Int.emod_nonneg _ (by have : (0:Int) < 2 ^ k := Int.pow_pos (by decide); omega)
  have l1 : n % 2 ^ k < 2 ^ 62 := by
    have a : n % 2 ^ k < 2 ^ k := Int.emod_lt_of_pos _ (Int.pow_pos (by decide))
    have b : ((2 : Int) ^ k) ≤ 2 ^ 62 := by exact_mod_cast h62
    omega
  generalize n % 2 ^ k = m at *
  simp [IntKind.wrap, IntKind.bits, IntKind.signed]
  omega
theorem u64_eq (n : Int) : IntKind.u64.wrap n = n % 18446744073709551616 := by
  simp [IntKind.wrap, IntKind.bits, IntKind.signed]
theorem wrap64_at (n : Int) : ∃ q, wrap64 n = n + 18446744073709551616 * q := by
  unfold wrap64
  exact ⟨-((n + 9223372036854775808) / 18446744073709551616), by omega⟩
theorem wrap64_small {n : Int} (h : 0 ≤ n) (h' : n < 9223372036854775808) : wrap64 n = n := by
  unfold wrap64
  omega
theorem mul_mask (x y : Int) (k : Nat) (hk : k ≤ 62) : wrap64 (bits .and .u64 (IntKind.u64.wrap (IntKind.u64.wrap x * IntKind.u64.wrap y)) (2 ^ k - 1)) = wrap64 (x * y) % 2 ^ k := by
  rw [and_mask_u64 _ k hk, u64_eq, u64_eq, u64_eq, ← Int.mul_emod]
  have hd : ((2 : Int) ^ k) ∣ 18446744073709551616 := ⟨2 ^ (64 - k), by rw [← Int.pow_add, show k + (64 - k) = 64 by omega]; rfl⟩
  rw [Int.emod_emod_of_dvd _ hd]
  obtain ⟨q, hq⟩ := wrap64_at (x * y)
  obtain ⟨r, hr⟩ := hd
  have e : wrap64 (x * y) % 2 ^ k = (x * y) % 2 ^ k := by
    rw [hq, hr, Int.mul_assoc, Int.add_mul_emod_self_left]
  rw [e]
  have h62 : (2 : Nat) ^ k ≤ 2 ^ 62 := Nat.pow_le_pow_right (by decide) hk
  have b : ((2 : Int) ^ k) ≤ 2 ^ 62 := by exact_mod_cast h62
  have l0 : 0 ≤ (x * y) % 2 ^ k := Int.emod_nonneg _ (by have : (0:Int) < 2 ^ k := Int.pow_pos (by decide); omega)
  have a : (x * y) % 2 ^ k < 2 ^ k := Int.emod_lt_of_pos _ (Int.pow_pos (by decide))
  exact wrap64_small l0 (by omega)
theorem mul_mask_8 (x y : Int) : wrap64 (bits .and .u64 (IntKind.u64.wrap (IntKind.u64.wrap x * IntKind.u64.wrap y)) 255) = wrapI (wrap64 (x * y)) 8 := mul_mask x y 8 (by decide)
theorem mul_mask_16 (x y : Int) : wrap64 (bits .and .u64 (IntKind.u64.wrap (IntKind.u64.wrap x * IntKind.u64.wrap y)) 65535) = wrapI (wrap64 (x * y)) 16 := mul_mask x y 16 (by decide)
theorem mul_mask_32 (x y : Int) : wrap64 (bits .and .u64 (IntKind.u64.wrap (IntKind.u64.wrap x * IntKind.u64.wrap y)) 4294967295) = wrapI (wrap64 (x * y)) 32 := mul_mask x y 32 (by decide)
end Go.Proofs.Ytbamphfoobmblaa
