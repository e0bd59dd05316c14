/- The contracts of package word and of the document's own numbers (widths, views, wrapped numbers). -/
import Derived.Test.YtblahbmhbfcggaaGreatDoorBase
namespace Go.Proofs.YtblahbmhbfcggaaGreatDoor.Al
open Go.ChangeShapes Go.WideShapes Go.ChangeAt Go.RowKit Go.Joins Go.Deep
set_option linter.unusedVariables false

def wrapI (n : Int) (w : Int) : Int := n % 2 ^ w.toNat
def viewI (n : Int) (w : Int) : Int := if n < 2 ^ (w.toNat - 1) then n else n - 2 ^ w.toNat
def widthI (k : Int) : Int := if k = 1 ∨ k = 2 then 8 else if k = 3 ∨ k = 4 then 16 else if k = 5 ∨ k = 6 then 32 else 0
def signedB (k : Int) : Bool := decide (k = 2 ∨ k = 4 ∨ k = 6)
def isW (w : Int) : Prop := w = 8 ∨ w = 16 ∨ w = 32
def isN (n w : Int) : Prop := 0 ≤ n ∧ n < 2 ^ w.toNat
theorem wrapI_8 (n : Int) : wrapI n 8 = n % 256 := rfl
theorem wrapI_16 (n : Int) : wrapI n 16 = n % 65536 := rfl
theorem wrapI_32 (n : Int) : wrapI n 32 = n % 4294967296 := rfl
theorem viewI_8 (n : Int) : viewI n 8 = if n < 128 then n else n - 256 := rfl
theorem viewI_16 (n : Int) : viewI n 16 = if n < 32768 then n else n - 65536 := rfl
theorem viewI_32 (n : Int) : viewI n 32 = if n < 2147483648 then n else n - 4294967296 := rfl
theorem num_cases {k : Int} (h : 1 ≤ k ∧ k ≤ 6) : k = 1 ∨ k = 2 ∨ k = 3 ∨ k = 4 ∨ k = 5 ∨ k = 6 := by omega
theorem width_no {k : Int} (h : ¬ (1 ≤ k ∧ k ≤ 6)) : widthI k = 0 := by unfold widthI; rw [if_neg (by omega), if_neg (by omega), if_neg (by omega)]
theorem width_pos {k : Int} (h : 1 ≤ k ∧ k ≤ 6) : 0 < widthI k := by rcases num_cases h with rfl | rfl | rfl | rfl | rfl | rfl <;> decide
theorem width_isW {k : Int} (h : 1 ≤ k ∧ k ≤ 6) : isW (widthI k) := by unfold isW; rcases num_cases h with rfl | rfl | rfl | rfl | rfl | rfl <;> decide
theorem signed_no {k : Int} (h : ¬ (1 ≤ k ∧ k ≤ 6)) : signedB k = false := by simp [signedB]; omega
theorem wrapI_isN {w : Int} (h : isW w) (n : Int) : isN (wrapI n w) w := by
  rcases h with rfl | rfl | rfl <;> simp only [isN, wrapI_8, wrapI_16, wrapI_32, Int.reduceToNat, Int.reducePow] <;> omega
theorem isN_32 {n w : Int} (h : isW w) (hn : isN n w) : 0 ≤ n ∧ n < 4294967296 := by
  rcases h with rfl | rfl | rfl <;> simp only [isN, Int.reduceToNat, Int.reducePow] at hn <;> omega
theorem ret_b {a b : Bool} (h : a = b) : Ending.returned (.bool a) = .returned (.bool b) := by rw [h]
theorem ret_i {a b : Int} (h : a = b) : Ending.returned (.int .i64 a) = .returned (.int .i64 b) := by rw [h]

theorem Width_yes (k : Int) (h : 1 ≤ k ∧ k ≤ 6) (w : World) : Calls Tryz.prog 78 #[.int .i64 k] w fun e w' => e = .returned (.tuple #[.int .i64 (widthI k), .int .i64 0]) ∧ w = w' := by
  rcases num_cases h with rfl | rfl | rfl | rfl | rfl | rfl
  all_goals
    go_enter Tryz.func78, Tryz.ntmps78
    go_wp2
    go_ret2
    exact ⟨rfl, rfl⟩
theorem Width_no (k : Int) (h : ¬ (1 ≤ k ∧ k ≤ 6)) (w : World) : Calls Tryz.prog 78 #[.int .i64 k] w fun e w' => e = .returned (.tuple #[.int .i64 0, .int .i64 1]) ∧ w = w' := by
  rcases (show k ≤ 0 ∨ 7 ≤ k by omega) with h1 | h1
  · have d1 : decide (1 ≤ k) = false := by simp; omega
    go_enter Tryz.func78, Tryz.ntmps78
    go_wp2
    go_ret2
    exact ⟨rfl, rfl⟩
  · have d1 : decide (k ≤ 6) = false := by simp; omega
    go_enter Tryz.func78, Tryz.ntmps78
    go_wp2
    go_ret2
    exact ⟨rfl, rfl⟩
theorem Signed_yes (k : Int) (h : 1 ≤ k ∧ k ≤ 6) (w : World) : Calls Tryz.prog 79 #[.int .i64 k] w fun e w' => e = .returned (.tuple #[.bool (signedB k), .int .i64 0]) ∧ w = w' := by
  rcases num_cases h with rfl | rfl | rfl | rfl | rfl | rfl
  all_goals
    go_enter Tryz.func79, Tryz.ntmps79
    go_wp2
    go_ret2
    exact ⟨rfl, rfl⟩
theorem Signed_no (k : Int) (h : ¬ (1 ≤ k ∧ k ≤ 6)) (w : World) : Calls Tryz.prog 79 #[.int .i64 k] w fun e w' => e = .returned (.tuple #[.bool false, .int .i64 1]) ∧ w = w' := by
  rcases (show k ≤ 0 ∨ 7 ≤ k by omega) with h1 | h1
  · have d1 : decide (1 ≤ k) = false := by simp; omega
    go_enter Tryz.func79, Tryz.ntmps79
    go_wp2
    go_ret2
    exact ⟨rfl, rfl⟩
  · have d1 : decide (k ≤ 6) = false := by simp; omega
    go_enter Tryz.func79, Tryz.ntmps79
    go_wp2
    go_ret2
    exact ⟨rfl, rfl⟩
theorem rWidth_any (k : Int) (w : World) : Calls Tryz.prog 13 #[.int .i64 k] w fun e w' => e = .returned (.int .i64 (widthI k)) ∧ w = w' := by
  by_cases h : 1 ≤ k ∧ k ≤ 6
  · rcases num_cases h with rfl | rfl | rfl | rfl | rfl | rfl
    all_goals
      go_enter Tryz.func13, Tryz.ntmps13
      go_wp2
      go_ret
      exact ⟨rfl, rfl⟩
  · rw [width_no h]
    have a1 : (k == 1) = false := by simp; omega
    have a2 : (k == 2) = false := by simp; omega
    have a3 : (k == 3) = false := by simp; omega
    have a4 : (k == 4) = false := by simp; omega
    have a5 : (k == 5) = false := by simp; omega
    have a6 : (k == 6) = false := by simp; omega
    go_enter Tryz.func13, Tryz.ntmps13
    go_wp2
    go_ret
    exact ⟨rfl, rfl⟩
theorem rSigned_any (k : Int) (w : World) : Calls Tryz.prog 48 #[.int .i64 k] w fun e w' => e = .returned (.bool (signedB k)) ∧ w = w' := by
  by_cases h : 1 ≤ k ∧ k ≤ 6
  · rcases num_cases h with rfl | rfl | rfl | rfl | rfl | rfl
    all_goals
      go_enter Tryz.func48, Tryz.ntmps48
      go_wp2
      go_ret
      exact ⟨rfl, rfl⟩
  · rw [signed_no h]
    have a1 : (k == 1) = false := by simp; omega
    have a2 : (k == 2) = false := by simp; omega
    have a3 : (k == 3) = false := by simp; omega
    have a4 : (k == 4) = false := by simp; omega
    have a5 : (k == 5) = false := by simp; omega
    have a6 : (k == 6) = false := by simp; omega
    go_enter Tryz.func48, Tryz.ntmps48
    go_wp2
    go_ret
    exact ⟨rfl, rfl⟩
theorem Wrap_yes (n w : Int) (h : isW w) (wd : World) : Calls Tryz.prog 121 #[.int .i64 n, .int .i64 w] wd fun e w' => e = .returned (.tuple #[.int .i64 (wrapI n w), .int .i64 0]) ∧ wd = w' := by
  rcases h with rfl | rfl | rfl
  all_goals
    go_enter Tryz.func121, Tryz.ntmps121
    go_wp2
    go_ret2
    refine ⟨ret_2 ?_ rfl, rfl⟩
    first | exact and_255 n | exact and_65535 n | exact and_4294967295 n
theorem View_yes (n w : Int) (h : isW w) (hn : isN n w) (wd : World) : Calls Tryz.prog 156 #[.int .i64 n, .int .i64 w] wd fun e w' => e = .returned (.tuple #[.int .i64 (viewI n w), .int .i64 0]) ∧ wd = w' := by
  rcases h with rfl | rfl | rfl
  all_goals
    simp only [isN, Int.reduceToNat, Int.reducePow] at hn
    obtain ⟨h0, h1⟩ := hn
    go_enter Tryz.func156, Tryz.ntmps156
    go_wp2
    all_goals
      go_ret2
      refine ⟨ret_2 ?_ rfl, rfl⟩
      simp [viewI]
      omega
theorem rWrap_any (n w : Int) (h : isW w) (wd : World) : Calls Tryz.prog 29 #[.int .i64 n, .int .i64 w] wd fun e w' => e = .returned (.int .i64 (wrapI n w)) ∧ wd = w' := by
  rcases h with rfl | rfl | rfl
  all_goals
    go_enter Tryz.func29, Tryz.ntmps29
    go_wp2
    go_ret
    refine ⟨ret_i ?_, rfl⟩
    first | exact and_255 n | exact and_65535 n | exact and_4294967295 n
theorem rNumber_yes (n w : Int) (h : isW w) (hn : isN n w) (wd : World) : Calls Tryz.prog 38 #[.int .i64 n, .int .i64 w] wd fun e w' => e = .returned (.bool true) ∧ wd = w' := by
  rcases h with rfl | rfl | rfl
  all_goals
    simp only [isN, Int.reduceToNat, Int.reducePow] at hn
    obtain ⟨h1, h2⟩ := hn
    go_enter Tryz.func38, Tryz.ntmps38
    go_wp2
    go_ret
    first | exact ⟨rfl, rfl⟩ | (refine ⟨ret_b ?_, rfl⟩; simp; omega)
theorem rNumber_no (n w : Int) (h : isW w) (hn : ¬ isN n w) (wd : World) : Calls Tryz.prog 38 #[.int .i64 n, .int .i64 w] wd fun e w' => e = .returned (.bool false) ∧ wd = w' := by
  rcases h with rfl | rfl | rfl
  all_goals
    simp only [isN, Int.reduceToNat, Int.reducePow] at hn
    by_cases h0 : n < 0
    all_goals
      go_enter Tryz.func38, Tryz.ntmps38
      go_wp2
      go_ret
      first | exact ⟨rfl, rfl⟩ | (refine ⟨ret_b ?_, rfl⟩; simp; omega)
theorem rView_any (n w : Int) (h : isW w) (hn : isN n w) (wd : World) : Calls Tryz.prog 68 #[.int .i64 n, .int .i64 w] wd fun e w' => e = .returned (.int .i64 (viewI n w)) ∧ wd = w' := by
  rcases h with rfl | rfl | rfl
  all_goals
    simp only [isN, Int.reduceToNat, Int.reducePow] at hn
    obtain ⟨h0, h1⟩ := hn
    go_enter Tryz.func68, Tryz.ntmps68
    go_wp2
    all_goals
      go_ret
      refine ⟨ret_i ?_, rfl⟩
      simp [viewI]
      omega
end Go.Proofs.YtblahbmhbfcggaaGreatDoor.Al

/- Numbers of 64 bits without a sign: masks and products. -/
namespace Go.Proofs.YtblahbmhbfcggaaGreatDoor.Al
open Go.ChangeShapes Go.WideShapes Go.ChangeAt Go.RowKit Go.Joins Go.Deep
set_option linter.unusedVariables false

theorem and_mask_u64 (n : Int) (k : Nat) (hk : k ≤ 62) : bits .and .u64 n (2 ^ k - 1) = n % 2 ^ k := by
  have e1 : ((2 : Int) ^ k - 1) = ((2 ^ k - 1 : Nat) : Int) := by
    have : 1 ≤ 2 ^ k := Nat.one_le_two_pow
    rw [Int.natCast_sub this]; simp
  have h62 : (2 : Nat) ^ k ≤ 2 ^ 62 := Nat.pow_le_pow_right (by decide) hk
  have e2 : (BitVec.ofInt 64 ((2 : Int) ^ k - 1)).toNat = 2 ^ k - 1 := by
    rw [e1, BitVec.ofInt_natCast, BitVec.toNat_ofNat]
    exact Nat.mod_eq_of_lt (by omega)
  show IntKind.u64.wrap ((BitVec.ofInt 64 n &&& BitVec.ofInt 64 ((2 : Int) ^ k - 1)).toNat : Int) = _
  rw [BitVec.toNat_and, e2, Nat.and_two_pow_sub_one_eq_mod]
  have e3 : ((BitVec.ofInt 64 n).toNat : Int) = n % 2 ^ 64 := by
    rw [BitVec.toNat_ofInt]
    have : 0 ≤ n % ((2 ^ 64 : Nat) : Int) := Int.emod_nonneg _ (by decide)
    omega
  have e4 : (((BitVec.ofInt 64 n).toNat % 2 ^ k : Nat) : Int) = n % 2 ^ k := by
    rw [Int.natCast_emod, e3]
    have hd : ((2 : Int) ^ k) ∣ 2 ^ 64 := ⟨2 ^ (64 - k), by rw [← Int.pow_add]; congr 1; omega⟩
    simp only [Int.natCast_pow, Int.cast_ofNat_Int]
    exact Int.emod_emod_of_dvd n hd
  rw [e4]
  have l0 : 0 ≤ n % 2 ^ k := Int.emod_nonneg _ (by have : (0:Int) < 2 ^ k := Int.pow_pos (by decide); omega)
  have l1 : n % 2 ^ k < 2 ^ 62 := by
    have a : n % 2 ^ k < 2 ^ k := Int.emod_lt_of_pos _ (Int.pow_pos (by decide))
    have b : ((2 : Int) ^ k) ≤ 2 ^ 62 := by exact_mod_cast h62
    omega
  generalize n % 2 ^ k = m at *
  simp [IntKind.wrap, IntKind.bits, IntKind.signed]
  omega
theorem u64_eq (n : Int) : IntKind.u64.wrap n = n % 18446744073709551616 := by
  simp [IntKind.wrap, IntKind.bits, IntKind.signed]
theorem wrap64_at (n : Int) : ∃ q, wrap64 n = n + 18446744073709551616 * q := by
  unfold wrap64
  exact ⟨-((n + 9223372036854775808) / 18446744073709551616), by omega⟩
theorem wrap64_small {n : Int} (h : 0 ≤ n) (h' : n < 9223372036854775808) : wrap64 n = n := by
  unfold wrap64
  omega
theorem mul_mask (x y : Int) (k : Nat) (hk : k ≤ 62) : wrap64 (bits .and .u64 (IntKind.u64.wrap (IntKind.u64.wrap x * IntKind.u64.wrap y)) (2 ^ k - 1)) = wrap64 (x * y) % 2 ^ k := by
  rw [and_mask_u64 _ k hk, u64_eq, u64_eq, u64_eq, ← Int.mul_emod]
  have hd : ((2 : Int) ^ k) ∣ 18446744073709551616 := ⟨2 ^ (64 - k), by rw [← Int.pow_add, show k + (64 - k) = 64 by omega]; rfl⟩
  rw [Int.emod_emod_of_dvd _ hd]
  obtain ⟨q, hq⟩ := wrap64_at (x * y)
  obtain ⟨r, hr⟩ := hd
  have e : wrap64 (x * y) % 2 ^ k = (x * y) % 2 ^ k := by
    rw [hq, hr, Int.mul_assoc, Int.add_mul_emod_self_left]
  rw [e]
  have h62 : (2 : Nat) ^ k ≤ 2 ^ 62 := Nat.pow_le_pow_right (by decide) hk
  have b : ((2 : Int) ^ k) ≤ 2 ^ 62 := by exact_mod_cast h62
  have l0 : 0 ≤ (x * y) % 2 ^ k := Int.emod_nonneg _ (by have : (0:Int) < 2 ^ k := Int.pow_pos (by decide); omega)
  have a : (x * y) % 2 ^ k < 2 ^ k := Int.emod_lt_of_pos _ (Int.pow_pos (by decide))
  exact wrap64_small l0 (by omega)
theorem mul_mask_8 (x y : Int) : wrap64 (bits .and .u64 (IntKind.u64.wrap (IntKind.u64.wrap x * IntKind.u64.wrap y)) 255) = wrapI (wrap64 (x * y)) 8 := mul_mask x y 8 (by decide)
theorem mul_mask_16 (x y : Int) : wrap64 (bits .and .u64 (IntKind.u64.wrap (IntKind.u64.wrap x * IntKind.u64.wrap y)) 65535) = wrapI (wrap64 (x * y)) 16 := mul_mask x y 16 (by decide)
theorem mul_mask_32 (x y : Int) : wrap64 (bits .and .u64 (IntKind.u64.wrap (IntKind.u64.wrap x * IntKind.u64.wrap y)) 4294967295) = wrapI (wrap64 (x * y)) 32 := mul_mask x y 32 (by decide)
end Go.Proofs.YtblahbmhbfcggaaGreatDoor.Al

/- The contracts of the document's own operators, and of the numbers that package alu asks. -/
namespace Go.Proofs.YtblahbmhbfcggaaGreatDoor.Al
open Go.ChangeShapes Go.WideShapes Go.ChangeAt Go.RowKit Go.Joins Go.Deep
set_option linter.unusedVariables false

theorem calls_flip {P : Program} {f : Nat} {args : Array Value} {w : World} {E : Ending} (h : Calls P f args w fun e w' => e = E ∧ w = w') : Calls P f args w fun e w' => e = E ∧ w' = w :=
  h.mono fun _ _ h => ⟨h.1, h.2.symm⟩

/-- only draws -/
def Draws (w w' : World) : Prop := ∃ n, w' = w.drewN n
def seeI (k n : Int) : Int := if signedB k = true then viewI n (widthI k) else n
def halfI (k : Int) : Int := 2 ^ ((widthI k).toNat - 1)
def fitsB (k v : Int) : Bool := !signedB k || (decide (-(halfI k) ≤ v) && decide (v < halfI k))
def fitI (k v : Int) : Int × Int := if fitsB k v = true then (wrapI v (widthI k), 0) else (0, 4)
def truthI (b : Bool) : Int := if b = true then 1 else 0
def quoI (k u v w : Int) (q : Int) : Int × Int := if v = 0 then (0, 6) else if signedB k = true ∧ u = -(halfI k) ∧ v = -1 then (0, 4) else (wrapI q w, 0)
def shI (k v w : Int) (q : Int) : Int × Int := if 0 ≤ v ∧ v < w then (wrapI q w, 0) else (0, 5)
def twoI (op k a b : Int) : Int × Int :=
  if op = 8 then fitI k (seeI k a + seeI k b)
  else if op = 9 then fitI k (seeI k a - seeI k b)
  else if op = 10 then fitI k (wrap64 (seeI k a * seeI k b))
  else if op = 11 then quoI k (seeI k a) (seeI k b) (widthI k) (wrap64 ((seeI k a).tdiv (seeI k b)))
  else if op = 12 then quoI k (seeI k a) (seeI k b) (widthI k) ((seeI k a).tmod (seeI k b))
  else if op = 13 then (bits .and .i64 a b, 0)
  else if op = 14 then (bits .or .i64 a b, 0)
  else if op = 15 then (bits .xor .i64 a b, 0)
  else if op = 16 then shI k (seeI k b) (widthI k) (wrap64 (a * 2 ^ (seeI k b).toNat))
  else if op = 17 then shI k (seeI k b) (widthI k) (seeI k a / 2 ^ (seeI k b).toNat)
  else if op = 18 then (truthI (decide (seeI k a = seeI k b)), 0)
  else (truthI (decide (seeI k a < seeI k b)), 0)

theorem see_bd {k n : Int} (h : 1 ≤ k ∧ k ≤ 6) (hn : isN n (widthI k)) : -2147483648 ≤ seeI k n ∧ seeI k n ≤ 4294967295 := by
  rcases num_cases h with rfl | rfl | rfl | rfl | rfl | rfl
  all_goals
    simp only [isN, show widthI 1 = 8 from rfl, show widthI 2 = 8 from rfl, show widthI 3 = 16 from rfl, show widthI 4 = 16 from rfl, show widthI 5 = 32 from rfl, show widthI 6 = 32 from rfl, Int.reduceToNat, Int.reducePow] at hn
    simp only [seeI, signedB, show widthI 1 = 8 from rfl, show widthI 2 = 8 from rfl, show widthI 3 = 16 from rfl, show widthI 4 = 16 from rfl, show widthI 5 = 32 from rfl, show widthI 6 = 32 from rfl, viewI_8, viewI_16, viewI_32]
    simp
    first | omega | (split <;> omega)
theorem see_inj {k a b : Int} (h : 1 ≤ k ∧ k ≤ 6) (ha : isN a (widthI k)) (hb : isN b (widthI k)) : seeI k a = seeI k b ↔ a = b := by
  rcases num_cases h with rfl | rfl | rfl | rfl | rfl | rfl
  all_goals
    simp only [isN, show widthI 1 = 8 from rfl, show widthI 2 = 8 from rfl, show widthI 3 = 16 from rfl, show widthI 4 = 16 from rfl, show widthI 5 = 32 from rfl, show widthI 6 = 32 from rfl, Int.reduceToNat, Int.reducePow] at ha hb
    simp only [seeI, signedB, show widthI 1 = 8 from rfl, show widthI 2 = 8 from rfl, show widthI 3 = 16 from rfl, show widthI 4 = 16 from rfl, show widthI 5 = 32 from rfl, show widthI 6 = 32 from rfl, viewI_8, viewI_16, viewI_32]
    simp
    try (first | omega | (split <;> split <;> omega))

theorem rsee_any (k n : Int) (h : 1 ≤ k ∧ k ≤ 6) (hn : isN n (widthI k)) (w : World) : Calls Tryz.prog 46 #[.int .i64 k, .int .i64 n] w fun e w' => e = .returned (.int .i64 (seeI k n)) ∧ w = w' := by
  by_cases hs : signedB k = true
  · have e1 : seeI k n = viewI n (widthI k) := by unfold seeI; rw [if_pos hs]
    rw [e1]
    clear e1
    go_enter Tryz.func46, Tryz.ntmps46
    go_wp2_with (first | (go_at_call 48; refine (rSigned_any _ _).mono ?_; rintro e w' ⟨rfl, rfl⟩) | (go_at_call 13; refine (rWidth_any _ _).mono ?_; rintro e w' ⟨rfl, rfl⟩) | (go_at_call 68; refine (rView_any _ _ (width_isW h) hn _).mono ?_; rintro e w' ⟨rfl, rfl⟩))
    go_ret
    exact ⟨rfl, rfl⟩
  · have hs : signedB k = false := by simpa using hs
    have e1 : seeI k n = n := by unfold seeI; rw [hs]; rfl
    rw [e1]
    clear e1
    go_enter Tryz.func46, Tryz.ntmps46
    go_wp2_with (first | (go_at_call 48; refine (rSigned_any _ _).mono ?_; rintro e w' ⟨rfl, rfl⟩))
    go_ret
    exact ⟨rfl, rfl⟩
theorem Between_yes (n a b : Int) (h1 : a ≤ n) (h2 : n ≤ b) (w : World) : Calls Tryz.prog 36 #[.int .i64 n, .int .i64 a, .int .i64 b] w fun e w' => e = .returned (.bool true) ∧ w = w' := by
  go_enter Tryz.func36, Tryz.ntmps36
  go_wp2
  go_ret
  first | exact ⟨rfl, rfl⟩ | (refine ⟨ret_b ?_, rfl⟩; simp; omega)
theorem Between_no (n a b : Int) (h : ¬ (a ≤ n ∧ n ≤ b)) (w : World) : Calls Tryz.prog 36 #[.int .i64 n, .int .i64 a, .int .i64 b] w fun e w' => e = .returned (.bool false) ∧ w = w' := by
  by_cases h1 : a ≤ n
  · have h2 : b < n := by omega
    go_enter Tryz.func36, Tryz.ntmps36
    go_wp2
    go_ret
    first | exact ⟨rfl, rfl⟩ | (refine ⟨ret_b ?_, rfl⟩; simp; omega)
  · have h2 : n < a := by omega
    have d1 : decide (a ≤ n) = false := by simp; omega
    go_enter Tryz.func36, Tryz.ntmps36
    go_wp2
    go_ret
    first | exact ⟨rfl, rfl⟩ | (refine ⟨ret_b ?_, rfl⟩; simp; omega)
theorem rNum_yes (n b : Int) (h1 : 0 ≤ n) (h2 : n ≤ b) (w : World) : Calls Tryz.prog 49 #[.int .i64 n, .int .i64 b] w fun e w' => e = .returned (.bool true) ∧ w = w' := by
  go_enter Tryz.func49, Tryz.ntmps49
  go_wp2
  go_ret
  first | exact ⟨rfl, rfl⟩ | (refine ⟨ret_b ?_, rfl⟩; simp; omega)
theorem rNum_no (n b : Int) (h : ¬ (0 ≤ n ∧ n ≤ b)) (w : World) : Calls Tryz.prog 49 #[.int .i64 n, .int .i64 b] w fun e w' => e = .returned (.bool false) ∧ w = w' := by
  by_cases h1 : 0 ≤ n
  · have h2 : b < n := by omega
    go_enter Tryz.func49, Tryz.ntmps49
    go_wp2
    go_ret
    first | exact ⟨rfl, rfl⟩ | (refine ⟨ret_b ?_, rfl⟩; simp; omega)
  · have h2 : n < 0 := by omega
    have d1 : decide (0 ≤ n) = false := by simp; omega
    go_enter Tryz.func49, Tryz.ntmps49
    go_wp2
    go_ret
    first | exact ⟨rfl, rfl⟩ | (refine ⟨ret_b ?_, rfl⟩; simp; omega)
theorem rtruth_any (b : Bool) (w : World) : Calls Tryz.prog 50 #[.bool b] w fun e w' => e = .returned (.int .i64 (truthI b)) ∧ w = w' := by
  cases b
  all_goals
    go_enter Tryz.func50, Tryz.ntmps50
    go_wp2
    go_ret
    exact ⟨rfl, rfl⟩
theorem atruth_any (b : Bool) (w : World) : Calls Tryz.prog 112 #[.bool b] w fun e w' => e = .returned (.int .i64 (truthI b)) ∧ w = w' := by
  cases b
  all_goals
    go_enter Tryz.func112, Tryz.ntmps112
    go_wp2
    go_ret
    exact ⟨rfl, rfl⟩
theorem isNumber_yes (n w : Int) (h : isW w) (hn : isN n w) (wd : World) : Calls Tryz.prog 80 #[.int .i64 n, .int .i64 w] wd fun e w' => e = .returned (.bool true) ∧ wd = w' := by
  have e1 : wrapI n w = n := by
    rcases h with rfl | rfl | rfl <;> simp only [isN, Int.reduceToNat, Int.reducePow] at hn <;> simp only [wrapI_8, wrapI_16, wrapI_32] <;> omega
  have c := Wrap_yes n w h wd
  rw [e1] at c
  clear e1
  go_enter Tryz.func80, Tryz.ntmps80
  go_wp2_with (go_at_call 121; refine c.mono ?_; rintro e w' ⟨rfl, rfl⟩)
  go_ret
  first | exact ⟨rfl, rfl⟩ | (refine ⟨ret_b ?_, rfl⟩; simp)
theorem isNumber_no (n w : Int) (h : isW w) (hn : ¬ isN n w) (wd : World) : Calls Tryz.prog 80 #[.int .i64 n, .int .i64 w] wd fun e w' => e = .returned (.bool false) ∧ wd = w' := by
  have e1 : (wrapI n w == n) = false := by
    rcases h with rfl | rfl | rfl <;> simp only [isN, Int.reduceToNat, Int.reducePow] at hn <;> simp only [wrapI_8, wrapI_16, wrapI_32] <;> simp <;> omega
  go_enter Tryz.func80, Tryz.ntmps80
  go_wp2_with (go_at_call 121; refine (Wrap_yes n w h wd).mono ?_; rintro e w' ⟨rfl, rfl⟩)
  go_ret
  first | exact ⟨rfl, rfl⟩ | (refine ⟨ret_b ?_, rfl⟩; simp; omega)

theorem fits_u {k v : Int} (h : signedB k = false) : fitsB k v = true := by simp [fitsB, h]
theorem fit_yes {k v : Int} (h : fitsB k v = true) : fitI k v = (wrapI v (widthI k), 0) := by unfold fitI; rw [if_pos h]
theorem fit_no {k v : Int} (h : fitsB k v = false) : fitI k v = (0, 4) := by unfold fitI; rw [h]; rfl

theorem rFit_1 (v : Int) (w : World) : Calls Tryz.prog 47 #[.int .i64 1, .int .i64 v] w fun e w' => e = .returned (.tuple #[.int .i64 (fitI 1 v).1, .int .i64 (fitI 1 v).2]) ∧ Draws w w' := by
  have hs : signedB 1 = false := by decide
  have hw : widthI 1 = 8 := by decide
  have hW : isW 8 := by unfold isW; decide
  have cS := fun w => rSigned_any 1 w
  rw [hs] at cS
  have cW := fun w => rWidth_any 1 w
  rw [hw] at cW
  rw [fit_yes (fits_u hs), hw]
  clear hs hw
  go_enter Tryz.func47, Tryz.ntmps47
  go_wp2_with (first | (go_at_call 13; refine (cW _).mono ?_; rintro e w' ⟨rfl, rfl⟩))
  go_quiet ((go_at_call 48; exact Calls.quiet_of_same (calls_flip (cS _))))
  go_wp2_with (first | (go_at_call 29; refine (rWrap_any _ _ hW _).mono ?_; rintro e w' ⟨rfl, rfl⟩))
  go_ret2
  exact ⟨rfl, ⟨_, rfl⟩⟩
theorem rFit_2 (v : Int) (w : World) : Calls Tryz.prog 47 #[.int .i64 2, .int .i64 v] w fun e w' => e = .returned (.tuple #[.int .i64 (fitI 2 v).1, .int .i64 (fitI 2 v).2]) ∧ Draws w w' := by
  have hs : signedB 2 = true := by decide
  have hw : widthI 2 = 8 := by decide
  have hW : isW 8 := by unfold isW; decide
  have cS := fun w => rSigned_any 2 w
  rw [hs] at cS
  have cW := fun w => rWidth_any 2 w
  rw [hw] at cW
  have q1 : IntKind.i64.wrap 7 = 7 := by decide
  have q2 : IntKind.i64.wrap 128 = 128 := by decide
  have q3 : IntKind.i64.wrap (-128) = -128 := by decide
  have q4 : IntKind.i64.wrap 127 = 127 := by decide
  by_cases hf : fitsB 2 v = true
  · rw [fit_yes hf]
    have hB : -128 ≤ v ∧ v ≤ 127 := by simp [fitsB, hs, halfI, hw] at hf; omega
    clear hf
    obtain ⟨hB1, hB2⟩ := hB
    clear hs hw
    have hBt := fun w => Between_yes v (-128) 127 hB1 hB2 w
    go_enter Tryz.func47, Tryz.ntmps47
    go_wp2_with (first | (go_at_call 13; refine (cW _).mono ?_; rintro e w' ⟨rfl, rfl⟩))
    go_quiet ((first | (go_at_call 48; exact Calls.quiet_of_same (calls_flip (cS _))) | (go_at_call 36; exact Calls.quiet_of_same (calls_flip (hBt _)))))
    go_wp2_with (first | (go_at_call 29; refine (rWrap_any _ _ hW _).mono ?_; rintro e w' ⟨rfl, rfl⟩))
    go_ret2
    exact ⟨rfl, ⟨_, rfl⟩⟩
  · have hf' : fitsB 2 v = false := by simpa using hf
    rw [fit_no hf']
    have hB : ¬ (-128 ≤ v ∧ v ≤ 127) := by simp [fitsB, hs, halfI, hw] at hf; omega
    clear hf hf' hs hw
    have hBt := fun w => Between_no v (-128) 127 hB w
    go_enter Tryz.func47, Tryz.ntmps47
    go_wp2_with (first | (go_at_call 13; refine (cW _).mono ?_; rintro e w' ⟨rfl, rfl⟩))
    go_quiet ((first | (go_at_call 48; exact Calls.quiet_of_same (calls_flip (cS _))) | (go_at_call 36; exact Calls.quiet_of_same (calls_flip (hBt _)))))
    go_wp2_with fail
    go_ret2
    exact ⟨rfl, ⟨_, rfl⟩⟩
theorem rFit_3 (v : Int) (w : World) : Calls Tryz.prog 47 #[.int .i64 3, .int .i64 v] w fun e w' => e = .returned (.tuple #[.int .i64 (fitI 3 v).1, .int .i64 (fitI 3 v).2]) ∧ Draws w w' := by
  have hs : signedB 3 = false := by decide
  have hw : widthI 3 = 16 := by decide
  have hW : isW 16 := by unfold isW; decide
  have cS := fun w => rSigned_any 3 w
  rw [hs] at cS
  have cW := fun w => rWidth_any 3 w
  rw [hw] at cW
  rw [fit_yes (fits_u hs), hw]
  clear hs hw
  go_enter Tryz.func47, Tryz.ntmps47
  go_wp2_with (first | (go_at_call 13; refine (cW _).mono ?_; rintro e w' ⟨rfl, rfl⟩))
  go_quiet ((go_at_call 48; exact Calls.quiet_of_same (calls_flip (cS _))))
  go_wp2_with (first | (go_at_call 29; refine (rWrap_any _ _ hW _).mono ?_; rintro e w' ⟨rfl, rfl⟩))
  go_ret2
  exact ⟨rfl, ⟨_, rfl⟩⟩
theorem rFit_4 (v : Int) (w : World) : Calls Tryz.prog 47 #[.int .i64 4, .int .i64 v] w fun e w' => e = .returned (.tuple #[.int .i64 (fitI 4 v).1, .int .i64 (fitI 4 v).2]) ∧ Draws w w' := by
  have hs : signedB 4 = true := by decide
  have hw : widthI 4 = 16 := by decide
  have hW : isW 16 := by unfold isW; decide
  have cS := fun w => rSigned_any 4 w
  rw [hs] at cS
  have cW := fun w => rWidth_any 4 w
  rw [hw] at cW
  have q1 : IntKind.i64.wrap 15 = 15 := by decide
  have q2 : IntKind.i64.wrap 32768 = 32768 := by decide
  have q3 : IntKind.i64.wrap (-32768) = -32768 := by decide
  have q4 : IntKind.i64.wrap 32767 = 32767 := by decide
  by_cases hf : fitsB 4 v = true
  · rw [fit_yes hf]
    have hB : -32768 ≤ v ∧ v ≤ 32767 := by simp [fitsB, hs, halfI, hw] at hf; omega
    clear hf
    obtain ⟨hB1, hB2⟩ := hB
    clear hs hw
    have hBt := fun w => Between_yes v (-32768) 32767 hB1 hB2 w
    go_enter Tryz.func47, Tryz.ntmps47
    go_wp2_with (first | (go_at_call 13; refine (cW _).mono ?_; rintro e w' ⟨rfl, rfl⟩))
    go_quiet ((first | (go_at_call 48; exact Calls.quiet_of_same (calls_flip (cS _))) | (go_at_call 36; exact Calls.quiet_of_same (calls_flip (hBt _)))))
    go_wp2_with (first | (go_at_call 29; refine (rWrap_any _ _ hW _).mono ?_; rintro e w' ⟨rfl, rfl⟩))
    go_ret2
    exact ⟨rfl, ⟨_, rfl⟩⟩
  · have hf' : fitsB 4 v = false := by simpa using hf
    rw [fit_no hf']
    have hB : ¬ (-32768 ≤ v ∧ v ≤ 32767) := by simp [fitsB, hs, halfI, hw] at hf; omega
    clear hf hf' hs hw
    have hBt := fun w => Between_no v (-32768) 32767 hB w
    go_enter Tryz.func47, Tryz.ntmps47
    go_wp2_with (first | (go_at_call 13; refine (cW _).mono ?_; rintro e w' ⟨rfl, rfl⟩))
    go_quiet ((first | (go_at_call 48; exact Calls.quiet_of_same (calls_flip (cS _))) | (go_at_call 36; exact Calls.quiet_of_same (calls_flip (hBt _)))))
    go_wp2_with fail
    go_ret2
    exact ⟨rfl, ⟨_, rfl⟩⟩
theorem rFit_5 (v : Int) (w : World) : Calls Tryz.prog 47 #[.int .i64 5, .int .i64 v] w fun e w' => e = .returned (.tuple #[.int .i64 (fitI 5 v).1, .int .i64 (fitI 5 v).2]) ∧ Draws w w' := by
  have hs : signedB 5 = false := by decide
  have hw : widthI 5 = 32 := by decide
  have hW : isW 32 := by unfold isW; decide
  have cS := fun w => rSigned_any 5 w
  rw [hs] at cS
  have cW := fun w => rWidth_any 5 w
  rw [hw] at cW
  rw [fit_yes (fits_u hs), hw]
  clear hs hw
  go_enter Tryz.func47, Tryz.ntmps47
  go_wp2_with (first | (go_at_call 13; refine (cW _).mono ?_; rintro e w' ⟨rfl, rfl⟩))
  go_quiet ((go_at_call 48; exact Calls.quiet_of_same (calls_flip (cS _))))
  go_wp2_with (first | (go_at_call 29; refine (rWrap_any _ _ hW _).mono ?_; rintro e w' ⟨rfl, rfl⟩))
  go_ret2
  exact ⟨rfl, ⟨_, rfl⟩⟩
theorem rFit_6 (v : Int) (w : World) : Calls Tryz.prog 47 #[.int .i64 6, .int .i64 v] w fun e w' => e = .returned (.tuple #[.int .i64 (fitI 6 v).1, .int .i64 (fitI 6 v).2]) ∧ Draws w w' := by
  have hs : signedB 6 = true := by decide
  have hw : widthI 6 = 32 := by decide
  have hW : isW 32 := by unfold isW; decide
  have cS := fun w => rSigned_any 6 w
  rw [hs] at cS
  have cW := fun w => rWidth_any 6 w
  rw [hw] at cW
  have q1 : IntKind.i64.wrap 31 = 31 := by decide
  have q2 : IntKind.i64.wrap 2147483648 = 2147483648 := by decide
  have q3 : IntKind.i64.wrap (-2147483648) = -2147483648 := by decide
  have q4 : IntKind.i64.wrap 2147483647 = 2147483647 := by decide
  by_cases hf : fitsB 6 v = true
  · rw [fit_yes hf]
    have hB : -2147483648 ≤ v ∧ v ≤ 2147483647 := by simp [fitsB, hs, halfI, hw] at hf; omega
    clear hf
    obtain ⟨hB1, hB2⟩ := hB
    clear hs hw
    have hBt := fun w => Between_yes v (-2147483648) 2147483647 hB1 hB2 w
    go_enter Tryz.func47, Tryz.ntmps47
    go_wp2_with (first | (go_at_call 13; refine (cW _).mono ?_; rintro e w' ⟨rfl, rfl⟩))
    go_quiet ((first | (go_at_call 48; exact Calls.quiet_of_same (calls_flip (cS _))) | (go_at_call 36; exact Calls.quiet_of_same (calls_flip (hBt _)))))
    go_wp2_with (first | (go_at_call 29; refine (rWrap_any _ _ hW _).mono ?_; rintro e w' ⟨rfl, rfl⟩))
    go_ret2
    exact ⟨rfl, ⟨_, rfl⟩⟩
  · have hf' : fitsB 6 v = false := by simpa using hf
    rw [fit_no hf']
    have hB : ¬ (-2147483648 ≤ v ∧ v ≤ 2147483647) := by simp [fitsB, hs, halfI, hw] at hf; omega
    clear hf hf' hs hw
    have hBt := fun w => Between_no v (-2147483648) 2147483647 hB w
    go_enter Tryz.func47, Tryz.ntmps47
    go_wp2_with (first | (go_at_call 13; refine (cW _).mono ?_; rintro e w' ⟨rfl, rfl⟩))
    go_quiet ((first | (go_at_call 48; exact Calls.quiet_of_same (calls_flip (cS _))) | (go_at_call 36; exact Calls.quiet_of_same (calls_flip (hBt _)))))
    go_wp2_with fail
    go_ret2
    exact ⟨rfl, ⟨_, rfl⟩⟩
end Go.Proofs.YtblahbmhbfcggaaGreatDoor.Al
