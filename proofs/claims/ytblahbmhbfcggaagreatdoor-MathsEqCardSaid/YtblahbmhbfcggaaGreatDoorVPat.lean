/- Package val: a pattern's calls top, fixed, from. -/
import Derived.Test.YtblahbmhbfcggaaGreatDoorVRankM
import Derived.Deep.RegionHeld3
import Derived.RegionTactic
namespace Go.Proofs.YtblahbmhbfcggaaGreatDoor
open Go.ChangeShapes Go.WideShapes Go.ChangeAt Go.RowKit Go.Joins Go.Deep
set_option linter.unusedVariables false

abbrev patV (k f b : Int) : Value := .agg #[.int .i64 k, .int .i64 f, .int .i64 b]
def IntPost (r : Int) (w : World) (e : Ending) (w' : World) : Prop := e = .returned (.int .i64 r) ∧ Below w.heap.size w w'

theorem one_shl (k : Nat) (hk : k ≤ 40) : wrap64 (2 ^ k) = ((2 ^ k : Nat) : Int) := by
  have hp : (2 : Nat) ^ k ≤ 2 ^ 40 := Nat.pow_le_pow_right (by decide) hk
  have e : ((2 : Int) ^ k) = ((2 ^ k : Nat) : Int) := by simp
  rw [e, w64 _ (by omega)]
theorem pow_pred (k : Nat) : ((2 : Int) ^ k - 1) = ((2 ^ k - 1 : Nat) : Int) := by
  have h1 : 1 ≤ 2 ^ k := Nat.one_le_two_pow
  rw [Int.natCast_sub h1]; simp
theorem one_pred (k : Nat) (hk : k ≤ 40) : wrap64 (2 ^ k - 1) = ((2 ^ k - 1 : Nat) : Int) := by
  have hp : (2 : Nat) ^ k ≤ 2 ^ 40 := Nat.pow_le_pow_right (by decide) hk
  rw [pow_pred, w64 _ (by omega)]

set_option maxRecDepth 100000 in
theorem top_any (k f b : Nat) (hk : k ≤ 32) (w : World) :
    Calls Tryz.prog 187 #[patV k f b] w (IntPost ((2 ^ k - 1 : Nat) : Int) w) := by
  have e0 := one_shl k (by omega)
  have e1 := one_pred k (by omega)
  go_enter Tryz.func187, Tryz.ntmps187
  go_wp2
  go_ret
  exact ⟨ret_i (one_pred k (by omega)), (Below.refl _ _).alloc (Nat.le_refl _) _⟩
set_option maxRecDepth 100000 in
set_option maxHeartbeats 800000 in
theorem fixed_any (k f b : Nat) (hk : k ≤ 32) (w : World) :
    Calls Tryz.prog 161 #[patV k f b] w (IntPost (fixedN k f : Nat) w) := by
  have hp : (2 : Nat) ^ k ≤ 2 ^ 32 := Nat.pow_le_pow_right (by decide) hk
  have e0 := bits_andNot (x := 2 ^ k - 1) (y := f) (by omega)
  have cT := fun w => top_any k f b hk w
  have d0 := At.new w #[.int .i64 k, .int .i64 f, .int .i64 b] 152
  have k0 := d0.cell 0 rfl
  have k1 : (w.alloc (.cells #[.int .i64 k, .int .i64 f, .int .i64 b] 152)).cell? ⟨w.heap.size, 1, none⟩ = some (.int .i64 f) := d0.cell 1 rfl
  clear d0
  go_enter Tryz.func161, Tryz.ntmps161
  go_wp2
  go_region_held3 (fun w' => w'.cell? ⟨w.heap.size, 0, none⟩ = some (.int .i64 k) ∧ w'.cell? ⟨w.heap.size, 1, none⟩ = some (.int .i64 f) ∧ w'.cell? ⟨w.heap.size, 2, none⟩ = some (.int .i64 b))
    (first
      | exact ⟨by simp, by simp, by simp⟩
      | exact ⟨(hbm.cell (p := ⟨w.heap.size, 0, none⟩) (by simp)).trans (by simp), (hbm.cell (p := ⟨w.heap.size, 1, none⟩) (by simp)).trans (by simp), (hbm.cell (p := ⟨w.heap.size, 2, none⟩) (by simp)).trans (by simp)⟩)
    ((go_at_call 187; (with_reducible refine (cT _).mono ?_); rintro e w' ⟨rfl, hbm⟩))
  go_wp2_with fail
  go_ret
  exact ⟨rfl, ((Below.refl _ _).alloc (Nat.le_refl _) _).trans ((Joins.below_draws _ _ _).trans (hbm.mono (by simp)))⟩

/-- what is told of the least that fits -/
def FromRes (k f b n : Nat) (r : Int) (is : Bool) : Prop := (is = true ∧ ∃ m : Nat, r = m ∧ LeastFit k f b n m) ∨ (is = false ∧ r = 0 ∧ LeastFit k f b n (-1))
def FromPost (k f b n : Nat) (w : World) (e : Ending) (w' : World) : Prop := ∃ r is, FromRes k f b n r is ∧ e = .returned (.tuple #[.int .i64 r, .bool is]) ∧ Below w.heap.size w w'

def YesPost (m : Nat) (w : World) (e : Ending) (w' : World) : Prop := e = .returned (.tuple #[.int .i64 m, .bool true]) ∧ Below w.heap.size w w'
def NoPost (w : World) (e : Ending) (w' : World) : Prop := e = .returned (.tuple #[.int .i64 0, .bool false]) ∧ Below w.heap.size w w'
set_option maxRecDepth 100000 in
set_option maxHeartbeats 1600000 in
theorem from_w1 (k f b n off lo fx : Nat) (hk3 : k ≤ 32) (hn : n < 4294967296) (hf3 : f < 4294967296) (hb3 : b < 4294967296) (hoff : off < 4294967296) (hlo : lo < 4294967296) (hfx : fx < 4294967296) (hbl : blen off ≤ 32)
    (e1 : bits .and .i64 ((n ^^^ b : Nat) : Int) (fx : Nat) = (off : Nat)) (el : wrap64 (wrap64 (2 ^ blen off) - 1) = (lo : Nat))
    (cF : ∀ w, Calls Tryz.prog 161 #[patV k f b] w (IntPost (fx : Nat) w)) (hle : n &&& lo ≤ b &&& lo) (w : World) :
    Calls Tryz.prog 181 #[patV k f b, .int .i64 n] w (YesPost (nandn n lo &&& f ||| b) w) := by
  have e0 := bits_xor (x := n) (y := b) (by omega) (by omega)
  have e2 := bits_and (x := n) (y := lo) (by omega) (by omega)
  have e3 := bits_and (x := b) (y := lo) (by omega) (by omega)
  have e4 := bits_andNot (x := n) (y := lo) (by omega)
  have e5 := bits_and (x := nandn n lo) (y := f) (nandn_lt (by omega)) (by omega)
  have e6 := bits_or (x := nandn n lo &&& f) (y := b) (lt_of_and (nandn_lt (by omega))) (by omega)
  have t0 : decide (n &&& lo ≤ b &&& lo) = true := by simpa using hle
  have cL := fun w => Len_any off hoff w
  go_enter Tryz.func181, Tryz.ntmps181
  go_wp2
  go_region_held3 (fun w' => w'.cell? ⟨w.heap.size, 0, none⟩ = some (.int .i64 k) ∧ w'.cell? ⟨w.heap.size, 1, none⟩ = some (.int .i64 f) ∧ w'.cell? ⟨w.heap.size, 2, none⟩ = some (.int .i64 b))
    (first
      | exact ⟨by simp, by simp, by simp⟩
      | exact ⟨(hbm.cell (p := ⟨w.heap.size, 0, none⟩) (by simp)).trans (by simp), (hbm.cell (p := ⟨w.heap.size, 1, none⟩) (by simp)).trans (by simp), (hbm.cell (p := ⟨w.heap.size, 2, none⟩) (by simp)).trans (by simp)⟩)
    ((go_at_call 161; (with_reducible refine (cF _).mono ?_); rintro e w' ⟨rfl, hbm⟩))
  obtain ⟨k0, k1, k2⟩ : w'.cell? ⟨w.heap.size, 0, none⟩ = some (.int .i64 k) ∧ w'.cell? ⟨w.heap.size, 1, none⟩ = some (.int .i64 f) ∧ w'.cell? ⟨w.heap.size, 2, none⟩ = some (.int .i64 b) := by assumption
  have hb1 : Below w.heap.size w w' := ((Below.refl _ _).alloc (Nat.le_refl _) _).trans ((Joins.below_draws _ _ _).trans (hbm.mono (by simp)))
  have hs1 : w.heap.size < w'.heap.size := by have := hbm.size; simp at this; omega
  clear hbm
  go_wp2_with ((go_at_call 164; (with_reducible refine (cL _).mono ?_); rintro e w'' ⟨rfl, rfl⟩))
  go_ret2
  exact ⟨rfl, hb1⟩
set_option maxRecDepth 100000 in
set_option maxHeartbeats 1600000 in
theorem from_w2 (tp : Nat) (k f b n off lo fx : Nat) (hk3 : k ≤ 32) (hn : n < 4294967296) (hf3 : f < 4294967296) (hb3 : b < 4294967296) (hoff : off < 4294967296) (hlo : lo < 4294967296) (hfx : fx < 4294967296) (hbl : blen off ≤ 32)
    (e1 : bits .and .i64 ((n ^^^ b : Nat) : Int) (fx : Nat) = (off : Nat)) (el : wrap64 (wrap64 (2 ^ blen off) - 1) = (lo : Nat))
    (cF : ∀ w, Calls Tryz.prog 161 #[patV k f b] w (IntPost (fx : Nat) w)) (hle : ¬ n &&& lo ≤ b &&& lo) (hfull : n ||| lo ||| fx = tp) 
    (cT : ∀ w, Calls Tryz.prog 187 #[patV k f b] w (IntPost (tp : Nat) w)) (w : World) :
    Calls Tryz.prog 181 #[patV k f b, .int .i64 n] w (NoPost w) := by
  have e0 := bits_xor (x := n) (y := b) (by omega) (by omega)
  have e2 := bits_and (x := n) (y := lo) (by omega) (by omega)
  have e3 := bits_and (x := b) (y := lo) (by omega) (by omega)
  have e7 := bits_or (x := n) (y := lo) (by omega) (by omega)
  have e8 := bits_or (x := n ||| lo) (y := fx) (Nat.or_lt_two_pow (by omega) (by omega)) (by omega)
  have t0 : decide (n &&& lo ≤ b &&& lo) = false := by simpa using hle
  have t1 : (((n ||| lo ||| fx : Nat) : Int) == (tp : Int)) = true := by rw [hfull]; simp
  have cL := fun w => Len_any off hoff w
  go_enter Tryz.func181, Tryz.ntmps181
  go_wp2
  go_region_held3 (fun w' => w'.cell? ⟨w.heap.size, 0, none⟩ = some (.int .i64 k) ∧ w'.cell? ⟨w.heap.size, 1, none⟩ = some (.int .i64 f) ∧ w'.cell? ⟨w.heap.size, 2, none⟩ = some (.int .i64 b))
    (first
      | exact ⟨by simp, by simp, by simp⟩
      | exact ⟨(hbm.cell (p := ⟨w.heap.size, 0, none⟩) (by simp)).trans (by simp), (hbm.cell (p := ⟨w.heap.size, 1, none⟩) (by simp)).trans (by simp), (hbm.cell (p := ⟨w.heap.size, 2, none⟩) (by simp)).trans (by simp)⟩)
    ((go_at_call 161; (with_reducible refine (cF _).mono ?_); rintro e w' ⟨rfl, hbm⟩))
  obtain ⟨k0, k1, k2⟩ : w'.cell? ⟨w.heap.size, 0, none⟩ = some (.int .i64 k) ∧ w'.cell? ⟨w.heap.size, 1, none⟩ = some (.int .i64 f) ∧ w'.cell? ⟨w.heap.size, 2, none⟩ = some (.int .i64 b) := by assumption
  have hb1 : Below w.heap.size w w' := ((Below.refl _ _).alloc (Nat.le_refl _) _).trans ((Joins.below_draws _ _ _).trans (hbm.mono (by simp)))
  have hs1 : w.heap.size < w'.heap.size := by have := hbm.size; simp at this; omega
  clear hbm
  go_wp2_with ((go_at_call 164; (with_reducible refine (cL _).mono ?_); rintro e w'' ⟨rfl, rfl⟩))
  refine (cF _).mono ?_
  rintro e w2 ⟨rfl, hbf⟩
  have k0' := (hbf.cell (p := ⟨w.heap.size, 0, none⟩) hs1).trans k0
  have k1' := (hbf.cell (p := ⟨w.heap.size, 1, none⟩) hs1).trans k1
  have k2' := (hbf.cell (p := ⟨w.heap.size, 2, none⟩) hs1).trans k2
  have hs3 : w.heap.size < w2.heap.size := by have := hbf.size; omega
  replace hb1 := hb1.trans (hbf.mono hb1.size)
  clear k0 k1 k2 hbf hs1
  go_wp2_with fail
  refine (cT _).mono ?_
  rintro e w3 ⟨rfl, hbt⟩
  have k0 := (hbt.cell (p := ⟨w.heap.size, 0, none⟩) hs3).trans k0'
  have k1 := (hbt.cell (p := ⟨w.heap.size, 1, none⟩) hs3).trans k1'
  have k2 := (hbt.cell (p := ⟨w.heap.size, 2, none⟩) hs3).trans k2'
  clear k0' k1' k2'
  go_wp2_with fail
  go_ret2
  exact ⟨rfl, hb1.trans (hbt.mono hb1.size)⟩
set_option maxRecDepth 100000 in
set_option maxHeartbeats 1600000 in
theorem from_w3 (tp : Nat) (k f b n off lo fx : Nat) (hk3 : k ≤ 32) (hn : n < 4294967296) (hf3 : f < 4294967296) (hb3 : b < 4294967296) (hoff : off < 4294967296) (hlo : lo < 4294967296) (hfx : fx < 4294967296) (hbl : blen off ≤ 32)
    (e1 : bits .and .i64 ((n ^^^ b : Nat) : Int) (fx : Nat) = (off : Nat)) (el : wrap64 (wrap64 (2 ^ blen off) - 1) = (lo : Nat))
    (cF : ∀ w, Calls Tryz.prog 161 #[patV k f b] w (IntPost (fx : Nat) w)) (hle : ¬ n &&& lo ≤ b &&& lo) (hfull : n ||| lo ||| fx ≠ tp) 
    (cT : ∀ w, Calls Tryz.prog 187 #[patV k f b] w (IntPost (tp : Nat) w)) (w : World) :
    Calls Tryz.prog 181 #[patV k f b, .int .i64 n] w (YesPost ((n ||| lo ||| fx) + 1 &&& f ||| b) w) := by
  have e0 := bits_xor (x := n) (y := b) (by omega) (by omega)
  have e2 := bits_and (x := n) (y := lo) (by omega) (by omega)
  have e3 := bits_and (x := b) (y := lo) (by omega) (by omega)
  have e7 := bits_or (x := n) (y := lo) (by omega) (by omega)
  have e8 := bits_or (x := n ||| lo) (y := fx) (Nat.or_lt_two_pow (by omega) (by omega)) (by omega)
  have t0 : decide (n &&& lo ≤ b &&& lo) = false := by simpa using hle
  have hfu : n ||| lo ||| fx < 2 ^ 32 := Nat.or_lt_two_pow (Nat.or_lt_two_pow (by omega) (by omega)) (by omega)
  have t1 : (((n ||| lo ||| fx : Nat) : Int) == (tp : Int)) = false := by simp; omega
  have e9 : bits .and .i64 (((n ||| lo ||| fx : Nat) : Int) + 1) (f : Nat) = ((n ||| lo ||| fx) + 1 &&& f : Nat) := bits_and (x := (n ||| lo ||| fx) + 1) (y := f) (by omega) (by omega)
  have e10 := bits_or (x := (n ||| lo ||| fx) + 1 &&& f) (y := b) (lt_of_and (by omega)) (by omega)
  have cL := fun w => Len_any off hoff w
  go_enter Tryz.func181, Tryz.ntmps181
  go_wp2
  go_region_held3 (fun w' => w'.cell? ⟨w.heap.size, 0, none⟩ = some (.int .i64 k) ∧ w'.cell? ⟨w.heap.size, 1, none⟩ = some (.int .i64 f) ∧ w'.cell? ⟨w.heap.size, 2, none⟩ = some (.int .i64 b))
    (first
      | exact ⟨by simp, by simp, by simp⟩
      | exact ⟨(hbm.cell (p := ⟨w.heap.size, 0, none⟩) (by simp)).trans (by simp), (hbm.cell (p := ⟨w.heap.size, 1, none⟩) (by simp)).trans (by simp), (hbm.cell (p := ⟨w.heap.size, 2, none⟩) (by simp)).trans (by simp)⟩)
    ((go_at_call 161; (with_reducible refine (cF _).mono ?_); rintro e w' ⟨rfl, hbm⟩))
  obtain ⟨k0, k1, k2⟩ : w'.cell? ⟨w.heap.size, 0, none⟩ = some (.int .i64 k) ∧ w'.cell? ⟨w.heap.size, 1, none⟩ = some (.int .i64 f) ∧ w'.cell? ⟨w.heap.size, 2, none⟩ = some (.int .i64 b) := by assumption
  have hb1 : Below w.heap.size w w' := ((Below.refl _ _).alloc (Nat.le_refl _) _).trans ((Joins.below_draws _ _ _).trans (hbm.mono (by simp)))
  have hs1 : w.heap.size < w'.heap.size := by have := hbm.size; simp at this; omega
  clear hbm
  go_wp2_with ((go_at_call 164; (with_reducible refine (cL _).mono ?_); rintro e w'' ⟨rfl, rfl⟩))
  refine (cF _).mono ?_
  rintro e w2 ⟨rfl, hbf⟩
  have k0' := (hbf.cell (p := ⟨w.heap.size, 0, none⟩) hs1).trans k0
  have k1' := (hbf.cell (p := ⟨w.heap.size, 1, none⟩) hs1).trans k1
  have k2' := (hbf.cell (p := ⟨w.heap.size, 2, none⟩) hs1).trans k2
  have hs3 : w.heap.size < w2.heap.size := by have := hbf.size; omega
  replace hb1 := hb1.trans (hbf.mono hb1.size)
  clear k0 k1 k2 hbf hs1
  go_wp2_with fail
  refine (cT _).mono ?_
  rintro e w3 ⟨rfl, hbt⟩
  have k0 := (hbt.cell (p := ⟨w.heap.size, 0, none⟩) hs3).trans k0'
  have k1 := (hbt.cell (p := ⟨w.heap.size, 1, none⟩) hs3).trans k1'
  have k2 := (hbt.cell (p := ⟨w.heap.size, 2, none⟩) hs3).trans k2'
  clear k0' k1' k2'
  go_wp2_with fail
  go_ret2
  exact ⟨rfl, hb1.trans (hbt.mono hb1.size)⟩

theorem lowN_lt {k f b : Nat} (hk : k ≤ 32) (n : Nat) : lowN k f b n < 2 ^ 32 := by
  have h1 := blen_le (k := k) (by omega) (offN_lt k f b n)
  unfold lowN
  generalize blen (offN k f b n) = m at *
  have h2 : 2 ^ m ≤ 2 ^ 32 := Nat.pow_le_pow_right (by decide) (by omega)
  have h3 : 1 ≤ 2 ^ m := Nat.one_le_two_pow
  omega
theorem lowN_el {k f b : Nat} (hk : k ≤ 32) (n : Nat) : wrap64 (wrap64 (2 ^ blen (offN k f b n)) - 1) = (lowN k f b n : Nat) := by
  have h1 := blen_le (k := k) (by omega) (offN_lt k f b n)
  unfold lowN
  generalize blen (offN k f b n) = m at *
  rw [one_shl _ (by omega)]
  have := one_pred m (by omega)
  simpa using this
theorem from_any (k f b n : Nat) (ok : PatOk k f b) (hn : n < 2 ^ k) (w : World) :
    Calls Tryz.prog 181 #[patV k f b, .int .i64 n] w (FromPost k f b n w) := by
  have hp := ok.hk.pow
  have hk3 := ok.hk.le
  have hfl := fixedN_lt k f
  have hol := offN_lt k f b n
  have hf3 := ok.hf
  have hb3 := ok.hb
  have hbl := blen_le (x := offN k f b n) (k := 32) (by decide) (Nat.lt_of_lt_of_le hol hp)
  have hlo := lowN_lt (f := f) (b := b) hk3 n
  have el := lowN_el (f := f) (b := b) hk3 n
  have hfx : fixedN k f < 2 ^ 32 := Nat.lt_of_lt_of_le hfl hp
  have hox : offN k f b n < 2 ^ 32 := Nat.lt_of_lt_of_le hol hp
  have hxor : n ^^^ b < 2 ^ 62 := Nat.xor_lt_two_pow (by omega) (by omega)
  have e1 : bits .and .i64 ((n ^^^ b : Nat) : Int) (fixedN k f : Nat) = (offN k f b n : Nat) := bits_and hxor (Nat.lt_of_lt_of_le hfx (by decide))
  have cF := fun w => fixed_any k f b hk3 w
  have cT := fun w => top_any k f b hk3 w
  have y1 := from_yes ok hn
  have y2 := from_none ok hn
  have y3 := from_up ok hn
  have efull : fullN k f b n = n ||| lowN k f b n ||| fixedN k f := rfl
  rw [efull] at y2 y3
  clear efull hfl hol
  generalize lowN k f b n = lo at *
  generalize fixedN k f = fx at *
  generalize offN k f b n = off at *
  by_cases hle : n &&& lo ≤ b &&& lo
  · exact (from_w1 k f b n off lo fx hk3 (by omega) (by omega) (by omega) (by omega) (by omega) (by omega) hbl e1 el cF hle w).mono fun e w' ⟨h1, h2⟩ => ⟨_, _, Or.inl ⟨rfl, _, rfl, y1 hle⟩, h1, h2⟩
  · by_cases hfull : n ||| lo ||| fx = 2 ^ k - 1
    · exact (from_w2 (2 ^ k - 1) k f b n off lo fx hk3 (by omega) (by omega) (by omega) (by omega) (by omega) (by omega) hbl e1 el cF hle hfull cT w).mono fun e w' ⟨h1, h2⟩ => ⟨_, _, Or.inr ⟨rfl, rfl, y2 hle hfull⟩, h1, h2⟩
    · exact (from_w3 (2 ^ k - 1) k f b n off lo fx hk3 (by omega) (by omega) (by omega) (by omega) (by omega) (by omega) hbl e1 el cF hle hfull cT w).mono fun e w' ⟨h1, h2⟩ => ⟨_, _, Or.inl ⟨rfl, _, rfl, y3 hle hfull⟩, h1, h2⟩
end Go.Proofs.YtblahbmhbfcggaaGreatDoor
