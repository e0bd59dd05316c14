/- The contracts of the pure functions of package word. -/
import Derived.Test.YtlefbaekloinhaaRows
import Derived.WalkKit
import Derived.ProofKit
import Derived.WalkLawsBesides
import Derived.WalkSpells
namespace Go.Proofs.Ytlefbaekloinhaa
open Go.ChangeShapes Go.WideShapes Go.ChangeAt Go.RowKit

/-- a number of so many bits -/
def wrapI (n : Int) (w : Int) : Int := n % 2 ^ w.toNat
def viewI (n : Int) (w : Int) : Int := if n < 2 ^ (w.toNat - 1) then n else n - 2 ^ w.toNat

theorem and_mask (n : Int) (k : Nat) (hk : k ≤ 62) : bits .and .i64 n (2 ^ k - 1) = n % 2 ^ k := by
  have e1 : ((2 : Int) ^ k - 1) = ((2 ^ k - 1 : Nat) : Int) := by
    have : 1 ≤ 2 ^ k := Nat.one_le_two_pow
    rw [Int.natCast_sub this]; simp
  have h62 : (2 : Nat) ^ k ≤ 2 ^ 62 := Nat.pow_le_pow_right (by decide) hk
  have e2 : (BitVec.ofInt 64 ((2 : Int) ^ k - 1)).toNat = 2 ^ k - 1 := by
    rw [e1, BitVec.ofInt_natCast, BitVec.toNat_ofNat]
    exact Nat.mod_eq_of_lt (by omega)
  show IntKind.i64.wrap ((BitVec.ofInt 64 n &&& BitVec.ofInt 64 ((2 : Int) ^ k - 1)).toNat : Int) = _
  rw [BitVec.toNat_and, e2, Nat.and_two_pow_sub_one_eq_mod]
  have e3 : ((BitVec.ofInt 64 n).toNat : Int) = n % 2 ^ 64 := by
    rw [BitVec.toNat_ofInt]
    have : 0 ≤ n % ((2 ^ 64 : Nat) : Int) := Int.emod_nonneg _ (by decide)
    omega
  have e4 : (((BitVec.ofInt 64 n).toNat % 2 ^ k : Nat) : Int) = n % 2 ^ k := by
    rw [Int.natCast_emod, e3]
    have hd : ((2 : Int) ^ k) ∣ 2 ^ 64 := ⟨2 ^ (64 - k), by rw [← Int.pow_add]; congr 1; omega⟩
    simp only [Int.natCast_pow, Int.cast_ofNat_Int]
    exact Int.emod_emod_of_dvd n hd
  rw [e4]
  have l0 : 0 ≤ n % 2 ^ k := Int.emod_nonneg _ (by have : (0:Int) < 2 ^ k := Int.pow_pos (by decide); omega)
  have l1 : n % 2 ^ k < 2 ^ 62 := by
    have a : n % 2 ^ k < 2 ^ k := Int.emod_lt_of_pos _ (Int.pow_pos (by decide))
    have b : ((2 : Int) ^ k) ≤ 2 ^ 62 := by exact_mod_cast h62
    omega
  generalize n % 2 ^ k = m at *
  simp [IntKind.wrap, IntKind.bits, IntKind.signed]
  omega
theorem and_255 (n : Int) : bits .and .i64 n 255 = n % 256 := and_mask n 8 (by decide)
theorem and_65535 (n : Int) : bits .and .i64 n 65535 = n % 65536 := and_mask n 16 (by decide)
theorem and_4294967295 (n : Int) : bits .and .i64 n 4294967295 = n % 4294967296 := and_mask n 32 (by decide)
theorem ret_2 {a b c d : Int} (h : a = b) (h' : c = d) : Ending.returned (.tuple #[.int .i64 a, .int .i64 c]) = .returned (.tuple #[.int .i64 b, .int .i64 d]) := by rw [h, h']

theorem num_any (n : Int) (w : World) : Calls Try.prog 10 #[.int .i64 n] w fun e w' => e = .returned (.int .i64 n) ∧ w = w' := by
  go_enter Try.func10, Try.ntmps10
  go_wp2
  go_ret
  exact ⟨rfl, rfl⟩

theorem num_back (n : Int) (w : World) : Calls Try.prog 10 #[.int .i64 n] w fun e w' => e = .returned (.int .i64 n) ∧ w' = w :=
  (num_any n w).mono fun _ _ h => ⟨h.1, h.2.symm⟩

theorem wrapI_8 (n : Int) : wrapI n 8 = n % 256 := rfl
theorem wrapI_16 (n : Int) : wrapI n 16 = n % 65536 := rfl
theorem wrapI_32 (n : Int) : wrapI n 32 = n % 4294967296 := rfl
theorem viewI_8 (n : Int) : viewI n 8 = if n < 128 then n else n - 256 := rfl
theorem viewI_16 (n : Int) : viewI n 16 = if n < 32768 then n else n - 65536 := rfl
theorem viewI_32 (n : Int) : viewI n 32 = if n < 2147483648 then n else n - 4294967296 := rfl

theorem wrap_yes (n w : Int) (h : w = 8 ∨ w = 16 ∨ w = 32) (wd : World) : Calls Try.prog 15 #[.int .i64 n, .int .i64 w] wd fun e w' => e = .returned (.tuple #[.int .i64 (wrapI n w), .int .i64 0]) ∧ wd = w' := by
  rcases h with rfl | rfl | rfl
  all_goals
    go_enter Try.func15, Try.ntmps15
    go_wp2
    go_ret2
    refine ⟨ret_2 ?_ rfl, rfl⟩
    first | exact and_255 n | exact and_65535 n | exact and_4294967295 n
theorem view_yes (n w : Int) (h : w = 8 ∨ w = 16 ∨ w = 32) (h0 : 0 ≤ n) (h1 : n < 2 ^ w.toNat) (wd : World) : Calls Try.prog 16 #[.int .i64 n, .int .i64 w] wd fun e w' => e = .returned (.tuple #[.int .i64 (viewI n w), .int .i64 0]) ∧ wd = w' := by
  rcases h with rfl | rfl | rfl
  all_goals
    simp only [Int.reduceToNat, Int.reducePow] at h1
    go_enter Try.func16, Try.ntmps16
    go_wp2
    all_goals
      go_ret2
      refine ⟨ret_2 ?_ rfl, rfl⟩
      simp [viewI]
      omega

theorem wakes_any (wd : World) : Calls Try.prog 21 #[] wd fun e w' => e = .returned (.bool true) ∧ wd = w' := by
  go_enter Try.func21, Try.ntmps21
  go_wp2
  go_ret
  exact ⟨rfl, rfl⟩
end Go.Proofs.Ytlefbaekloinhaa
