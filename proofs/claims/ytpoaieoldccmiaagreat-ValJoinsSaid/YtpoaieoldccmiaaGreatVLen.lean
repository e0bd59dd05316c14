/- math/bits: how many bits a number has. -/
import Derived.Test.YtpoaieoldccmiaaGreatVNum
import Derived.Test.YtpoaieoldccmiaaGreatMem
import Derived.Lib.BitFns
import Derived.Lib.ItoaNum
namespace Go.Proofs.YtpoaieoldccmiaaGreat
open Go.ChangeShapes Go.WideShapes Go.ChangeAt Go.RowKit Go.Joins Go.Deep
set_option linter.unusedVariables false

def blen (x : Nat) : Nat := Lib.bitLen x
theorem blen_zero : blen 0 = 0 := Lib.bitLenAux_zero 64
theorem blen_spec {x : Nat} (h : x < 2 ^ 32) (h0 : x ≠ 0) : 1 ≤ blen x ∧ 2 ^ (blen x - 1) ≤ x ∧ x < 2 ^ blen x := Lib.bitLenAux_bounds 64 x (by omega) h0
theorem blen_le {x k : Nat} (hk : k ≤ 64) (h : x < 2 ^ k) : blen x ≤ k := Lib.bitLen_le x k hk h
theorem wrap_len (a : Nat) (ha : a ≤ 64) : wrap64 (a : Int) = (a : Int) := by unfold wrap64; omega

theorem tab_get (y : Nat) (h : y < Lib.len8tab.size) : ((Lib.len8tab[y]'h).toNat : Int) = (blen y : Int) := by
  have h' := h
  rw [Lib.len8tab_size] at h'
  have e := Lib.len8_of (y : Int) (by omega) (by omega)
  unfold Lib.len8 at e
  simp only [Int.toNat_natCast] at e
  rw [getElem?_pos Lib.len8tab y h] at e
  exact e
theorem tab_lt {y : Nat} (h : y < 256) : y < Lib.len8tab.size := by rw [Lib.len8tab_size]; exact h
theorem blen_shift {k x : Nat} (h : 2 ^ k ≤ x) (hx : x < 4294967296) : blen x = k + blen (x / 2 ^ k) := Lib.bitLen_shift k x h (by omega)
theorem end_len (k y x : Nat) (h : y < Lib.len8tab.size) (hk : k ≤ 24) (e : blen x = k + blen y) : wrap64 ((k : Int) + wrap64 ((Lib.len8tab[y]'h).toNat : Int)) = (blen x : Int) := by
  have h' := h
  rw [Lib.len8tab_size] at h'
  have hl := blen_le (x := y) (k := 8) (by decide) h'
  rw [tab_get, wrap_len _ (by omega), e]
  unfold wrap64
  omega
theorem end_len0 (y : Nat) (h : y < Lib.len8tab.size) : wrap64 (wrap64 ((Lib.len8tab[y]'h).toNat : Int)) = (blen y : Int) := by
  have h' := h
  rw [Lib.len8tab_size] at h'
  have hl := blen_le (x := y) (k := 8) (by decide) h'
  rw [tab_get, wrap_len _ (by omega), wrap_len _ (by omega)]

theorem end_len8 (k y x : Nat) (z : Int) (hz : z = y) (h : y < 256) (hk : k ≤ 24) (e : blen x = k + blen y) : wrap64 ((k : Int) + wrap64 (Lib.len8 (z % 256))) = (blen x : Int) := by
  have hl := blen_le (x := y) (k := 8) (by decide) h
  have e2 := Lib.len8_of (y : Int) (by omega) (by omega)
  simp only [Int.toNat_natCast] at e2
  have e3 : z % 256 = (y : Int) := by omega
  rw [e3, e2]
  show wrap64 ((k : Int) + wrap64 (blen y : Int)) = _
  rw [wrap_len _ (by omega), e]
  unfold wrap64
  omega
theorem end_len80 (y : Nat) (h : y < 256) : wrap64 (wrap64 (Lib.len8 ((y : Int) % 256))) = (blen y : Int) := by
  have hl := blen_le (x := y) (k := 8) (by decide) h
  have e2 := Lib.len8_of (y : Int) (by omega) (by omega)
  simp only [Int.toNat_natCast] at e2
  have e3 : (y : Int) % 256 = (y : Int) := by omega
  rw [e3, e2]
  show wrap64 (wrap64 (blen y : Int)) = _
  rw [wrap_len _ (by omega), wrap_len _ (by omega)]

set_option maxRecDepth 100000 in
set_option maxHeartbeats 1600000 in
theorem Len64_any (x : Nat) (hx : x < 4294967296) (w : World) :
    Calls Tryz.prog 80 #[.int .u64 x] w fun e w' => e = .returned (.int .i64 (blen x)) ∧ w = w' := by
  have t0 : decide ((4294967296 : Int) ≤ (x : Int)) = false := by simp; omega
  by_cases h1 : 65536 ≤ x
  · have t1 : decide ((65536 : Int) ≤ (x : Int)) = true := by simp; omega
    by_cases h2 : 256 ≤ x / 65536
    · have t2 : decide ((256 : Int) ≤ (x : Int) / 65536) = true := by simp; omega
      have hb := tab_lt (y := x / 65536 / 256) (by omega)
      have e : blen x = 24 + blen (x / 65536 / 256) := by rw [blen_shift (k := 24) (by omega) hx, Nat.div_div_eq_div_mul]
      clear h1 h2
      go_enter Tryz.func80, Tryz.ntmps80
      go_wp2
      go_ret
      exact ⟨ret_i (end_len 24 _ _ hb (by omega) e), rfl⟩
    · have t2 : decide ((256 : Int) ≤ (x : Int) / 65536) = false := by simp; omega
      have hb := tab_lt (y := x / 65536) (by omega)
      have e : blen x = 16 + blen (x / 65536) := by rw [blen_shift (k := 16) (by omega) hx]
      go_enter Tryz.func80, Tryz.ntmps80
      go_wp2
      go_ret
      exact ⟨ret_i (end_len 16 _ _ hb (by omega) e), rfl⟩
  · have t1 : decide ((65536 : Int) ≤ (x : Int)) = false := by simp; omega
    by_cases h2 : 256 ≤ x
    · have t2 : decide ((256 : Int) ≤ (x : Int)) = true := by simp; omega
      have hb := tab_lt (y := x / 256) (by omega)
      have e : blen x = 8 + blen (x / 256) := by rw [blen_shift (k := 8) (by omega) hx]
      go_enter Tryz.func80, Tryz.ntmps80
      go_wp2
      go_ret
      exact ⟨ret_i (end_len 8 _ _ hb (by omega) e), rfl⟩
    · have t2 : decide ((256 : Int) ≤ (x : Int)) = false := by simp; omega
      have hb := tab_lt (y := x) (by omega)
      go_enter Tryz.func80, Tryz.ntmps80
      go_wp2
      go_ret
      exact ⟨ret_i (end_len0 _ hb), rfl⟩
theorem Len_any (x : Nat) (hx : x < 4294967296) (w : World) :
    Calls Tryz.prog 68 #[.int .u64 x] w fun e w' => e = .returned (.int .i64 (blen x)) ∧ w = w' := by
  go_enter Tryz.func68, Tryz.ntmps68
  go_wp2_with ((go_at_call 80; refine (Len64_any x hx _).mono ?_; rintro e w' ⟨rfl, rfl⟩))
  go_ret
  exact ⟨rfl, rfl⟩
end Go.Proofs.YtpoaieoldccmiaaGreat
