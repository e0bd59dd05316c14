/- The model's bit operations on numbers that are not below 0, as those of natural numbers. -/
import Derived.WalkKit
namespace Go.Proofs.Ytnhbaigagphpmaa
open Go Go.RowKit

/-- x's bits where y has none -/
def nandn (x y : Nat) : Nat := Nat.bitwise (fun a b => a && !b) x y
theorem nandn_bit (x y i : Nat) : (nandn x y).testBit i = (x.testBit i && !y.testBit i) := Nat.testBit_bitwise rfl x y i
theorem lt_of_and {x y k : Nat} (h : x < 2 ^ k) : x &&& y < 2 ^ k := Nat.lt_of_le_of_lt Nat.and_le_left h
theorem nandn_lt {x y k : Nat} (h : x < 2 ^ k) : nandn x y < 2 ^ k := by
  apply Nat.lt_pow_two_of_testBit
  intro i hi
  rw [nandn_bit, Nat.testBit_lt_two_pow (Nat.lt_of_lt_of_le h (Nat.pow_le_pow_right (by decide) hi))]
  rfl
theorem wrap_nat {m : Nat} (h : m < 2 ^ 62) : IntKind.i64.wrap (m : Int) = m := by
  simp [IntKind.wrap, IntKind.bits, IntKind.signed]
  omega
theorem ofInt_nat (x : Nat) : BitVec.ofInt 64 (x : Int) = BitVec.ofNat 64 x := BitVec.ofInt_natCast ..
theorem toNat_small {x : Nat} (h : x < 2 ^ 62) : (BitVec.ofNat 64 x).toNat = x := by
  rw [BitVec.toNat_ofNat]; exact Nat.mod_eq_of_lt (by omega)
theorem bits_and {x y : Nat} (hx : x < 2 ^ 62) (hy : y < 2 ^ 62) : bits .and .i64 (x : Int) (y : Int) = ((x &&& y : Nat) : Int) := by
  show IntKind.i64.wrap ((BitVec.ofInt 64 (x : Int) &&& BitVec.ofInt 64 (y : Int)).toNat : Int) = _
  rw [ofInt_nat, ofInt_nat, BitVec.toNat_and, toNat_small hx, toNat_small hy]
  exact wrap_nat (lt_of_and hx)
theorem bits_or {x y : Nat} (hx : x < 2 ^ 62) (hy : y < 2 ^ 62) : bits .or .i64 (x : Int) (y : Int) = ((x ||| y : Nat) : Int) := by
  show IntKind.i64.wrap ((BitVec.ofInt 64 (x : Int) ||| BitVec.ofInt 64 (y : Int)).toNat : Int) = _
  rw [ofInt_nat, ofInt_nat, BitVec.toNat_or, toNat_small hx, toNat_small hy]
  exact wrap_nat (Nat.or_lt_two_pow hx hy)
theorem bits_xor {x y : Nat} (hx : x < 2 ^ 62) (hy : y < 2 ^ 62) : bits .xor .i64 (x : Int) (y : Int) = ((x ^^^ y : Nat) : Int) := by
  show IntKind.i64.wrap ((BitVec.ofInt 64 (x : Int) ^^^ BitVec.ofInt 64 (y : Int)).toNat : Int) = _
  rw [ofInt_nat, ofInt_nat, BitVec.toNat_xor, toNat_small hx, toNat_small hy]
  exact wrap_nat (Nat.xor_lt_two_pow hx hy)
theorem bits_andNot {x y : Nat} (hx : x < 2 ^ 62) : bits .andNot .i64 (x : Int) (y : Int) = ((nandn x y : Nat) : Int) := by
  show IntKind.i64.wrap ((BitVec.ofInt 64 (x : Int) &&& ~~~ BitVec.ofInt 64 (y : Int)).toNat : Int) = _
  have e : (BitVec.ofInt 64 (x : Int) &&& ~~~ BitVec.ofInt 64 (y : Int)).toNat = nandn x y := by
    rw [ofInt_nat, ofInt_nat]
    apply Nat.eq_of_testBit_eq
    intro i
    rw [nandn_bit, BitVec.toNat_and, Nat.testBit_and, toNat_small hx, BitVec.testBit_toNat, BitVec.getLsbD_not, BitVec.getLsbD_ofNat]
    by_cases h : i < 64
    · simp [h]
    · have : x.testBit i = false := Nat.testBit_lt_two_pow (Nat.lt_of_lt_of_le hx (Nat.pow_le_pow_right (by decide) (by omega)))
      simp [this]
  rw [e]
  exact wrap_nat (nandn_lt hx)
/-- a bit, asked by a shift and a mask -/
theorem bit_int (x j : Nat) : ((x : Int) / 2 ^ j) % 2 = ((x.testBit j).toNat : Int) := by
  rw [Nat.testBit_eq_decide_div_mod_eq]
  have e : ((x : Int) / 2 ^ j) % 2 = ((x / 2 ^ j % 2 : Nat) : Int) := by
    rw [Int.natCast_emod, Int.natCast_ediv, Int.natCast_pow]; rfl
  rw [e]
  have : x / 2 ^ j % 2 < 2 := Nat.mod_lt _ (by decide)
  by_cases h : x / 2 ^ j % 2 = 1
  · simp [h]
  · have h0 : x / 2 ^ j % 2 = 0 := by omega
    simp [h0]
/-- where nothing but the fixed bits is left, and they are b's -/
theorem fits_iff {x f b : Nat} (hbf : ∀ i, f.testBit i = true → b.testBit i = false) : nandn x f = b ↔ ∀ i, f.testBit i = false → x.testBit i = b.testBit i := by
  constructor
  · intro h i hi
    rw [← h, nandn_bit, hi]; simp
  · intro h
    apply Nat.eq_of_testBit_eq
    intro i
    rw [nandn_bit]
    cases e : f.testBit i
    · rw [h i e]; simp
    · rw [hbf i e]; simp
end Go.Proofs.Ytnhbaigagphpmaa
