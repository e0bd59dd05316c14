/- Package val: a number's rank. -/
import Derived.Test.YtblahbmhbfcggaaGreatDoorVRankM
import Derived.Test.YtblahbmhbfcggaaGreatDoorVPat
import Derived.Test.YtblahbmhbfcggaaGreatDoorVTrim
import Derived.Defers
import Derived.Laws.Pointers
import Derived.Laws.LoneSync
import Derived.Laws.NewBlocks
import Derived.RegionCalls
import Derived.Deep.RegionWith
import Derived.ChangeAlike
namespace Go.Proofs.YtblahbmhbfcggaaGreatDoor
open Go.ChangeShapes Go.WideShapes Go.ChangeAt Go.RowKit Go.Joins Go.Deep
set_option linter.unusedVariables false

/-- what the round holds: so much of the rank is reckoned -/
def RelRank (f n : Nat) (vr vp vl : Value) : Prop :=
  ∃ r t l p : Nat, p = 2 ^ t ∧ t ≤ 32 ∧ l < 2 ^ 32 ∧ r < 2 ^ t ∧ vr = .int .i64 r ∧ vp = .int .i64 p ∧ vl = .int .i64 l ∧ cmpr f n = r + 2 ^ t * cmpr l n ∧ ∀ i, i < t → l.testBit i = false
set_option maxRecDepth 100000 in
set_option maxHeartbeats 1600000 in
theorem rank_all (k f b n : Nat) (hk : k ≤ 32) (hf : f < 2 ^ k) (hn : n < 2 ^ 32) (hall : f &&& (f + 1) = 0) (w : World) :
    Calls Tryz.prog 185 #[patV k f b, .int .i64 n] w (IntPost (cmpr f n : Nat) w) := by
  have hp : (2 : Nat) ^ k ≤ 2 ^ 32 := Nat.pow_le_pow_right (by decide) hk
  have e0 : bits .and .i64 (f : Int) ((f : Int) + 1) = ((f &&& (f + 1) : Nat) : Int) := bits_and (x := f) (y := f + 1) (by omega) (by omega)
  have e1 := bits_and (x := n) (y := f) (by omega) (by omega)
  have fin : cmpr f n = n &&& f := cmpF_all 32 f n (by omega) hall
  rw [fin]
  rw [hall] at e0
  clear fin hall
  go_enter Tryz.func185, Tryz.ntmps185
  go_wp2
  go_ret
  exact ⟨rfl, (Below.refl _ _).alloc (Nat.le_refl _) _⟩
theorem or_pow {r t : Nat} (h : r < 2 ^ t) : r ||| 2 ^ t = r + 2 ^ t := by
  have := Nat.two_pow_add_eq_or_of_lt h 1
  rw [Nat.mul_one] at this
  rw [Nat.or_comm, ← this, Nat.add_comm]
set_option maxRecDepth 100000 in
set_option maxHeartbeats 1600000 in
theorem rank_loop (k f b n : Nat) (hk : k ≤ 32) (hf : f < 2 ^ k) (hn : n < 2 ^ 32) (hall : f &&& (f + 1) ≠ 0) (w : World) :
    Calls Tryz.prog 185 #[patV k f b, .int .i64 n] w (IntPost (cmpr f n : Nat) w) := by
  have hp : (2 : Nat) ^ k ≤ 2 ^ 32 := Nat.pow_le_pow_right (by decide) hk
  have e0 : bits .and .i64 (f : Int) ((f : Int) + 1) = ((f &&& (f + 1) : Nat) : Int) := bits_and (x := f) (y := f + 1) (by omega) (by omega)
  have t0 : (((f &&& (f + 1) : Nat) : Int) == 0) = false := by simp; omega
  clear hall
  go_enter Tryz.func185, Tryz.ntmps185
  go_wp2
  go_loop [5, 6, 7] (fun vr vp vl => RelRank f n vr vp vl) (fun _ _ vl => (intOf vl).toNat)
  case atStart => exact ⟨0, 0, f, 1, rfl, by omega, by omega, by omega, rfl, rfl, rfl, by simp, fun i hi => absurd hi (by omega)⟩
  case round =>
    obtain ⟨r, t, l, p, hpe, ht, hl, hr, rfl, rfl, rfl, hc, hz⟩ := hrel
    by_cases h0 : l = 0
    · subst h0
      have hc' : cmpr f n = r := by rw [hc]; unfold cmpr; rw [cmpF_zero]; simp
      have HC := Lib.hid hc'
      clear hc hc' e0 t0 hpe hr
      go_wp2_with fail
      go_ret
      exact ⟨ret_i (by rw [HC.out]), (Below.refl _ _).alloc (Nat.le_refl _) _⟩
    · obtain ⟨j, hj, hlj, hlow, he, hy⟩ := lowest hl h0
      have htj : t ≤ j := by
        rcases Nat.lt_or_ge j t with h | h
        · rw [hz j h] at hlj; cases hlj
        · exact h
      have hstep : cmpr l n = (n.testBit j).toNat + 2 * cmpr (l &&& (l - 1)) n := cmpF_step 32 l _ j n hl hlj hlow hy
      have hp2 : 2 ^ t ≤ 2 ^ 31 := Nat.pow_le_pow_right (by decide) (by omega)
      have hp3 : 2 ^ j ≤ 2 ^ 31 := Nat.pow_le_pow_right (by decide) (by omega)
      have t1 : ((l : Int) != 0) = true := by simp; omega
      have e1 := bits_neg (x := l) (by omega) h0
      rw [he] at e1
      have e2 := bits_and (x := n) (y := 2 ^ j) (by omega) (by omega)
      have e3 : bits .and .i64 (l : Int) ((l : Int) - 1) = ((l &&& (l - 1) : Nat) : Int) := by
        rw [show ((l : Int) - 1) = ((l - 1 : Nat) : Int) by omega]
        exact bits_and (by omega) (by omega)
      have hl2 : l &&& (l - 1) < l := Nat.lt_of_le_of_lt Nat.and_le_right (by omega)
      have hz2 : ∀ i, i < t + 1 → (l &&& (l - 1)).testBit i = false := fun i hi => by
        rw [hy]
        rcases Nat.lt_or_ge i j with h | h
        · rw [hlow i h]; simp
        · have : i = j := by omega
          simp [this]
      have hpt : 2 ^ (t + 1) = 2 * 2 ^ t := by rw [Nat.pow_succ]; omega
      rw [← hpe] at hr hp2 hpt hc
      have hp4 : p < 4294967296 := by omega
      have e5 : wrap64 ((p : Int) * 2) = ((2 ^ (t + 1) : Nat) : Int) := by rw [hpt]; unfold wrap64; omega
      have hor : r ||| p = r + p := by rw [hpe]; rw [hpe] at hr; exact or_pow hr
      have e6 := bits_or (x := r) (y := p) (by omega) (by omega)
      rw [hor] at e6
      obtain ⟨P2, hP2⟩ : ∃ P2, P2 = 2 ^ (t + 1) := ⟨_, rfl⟩
      obtain ⟨J, hJ⟩ : ∃ J, J = 2 ^ j := ⟨_, rfl⟩
      rw [← hP2] at e5 hpt
      rw [← hJ] at e1 e2 hp3
      have hJ0 : 0 < J := by rw [hJ]; exact Nat.two_pow_pos j
      have HP := Lib.hid hP2
      have HPE := Lib.hid hpt
      cases hnj : n.testBit j
      · rw [hnj] at hstep
        have q : n &&& J = 0 := by
          apply Nat.eq_of_testBit_eq
          intro i
          rw [hJ, Nat.testBit_and, Nat.testBit_two_pow, Nat.zero_testBit]
          by_cases e : j = i
          · rw [← e, hnj]; rfl
          · simp [e]
        rw [q] at e2
        have hc' : cmpr f n = r + P2 * cmpr (l &&& (l - 1)) n := by rw [hc, hstep, hpt]; simp; rw [← Nat.mul_assoc, Nat.mul_comm p 2]
        have HC := Lib.hid hc'
        have e7 : bits .and .i64 (n : Int) (J : Int) = 0 := by rw [e2]; rfl
        have hrP : r < P2 := by omega
        have hlx : l &&& (l - 1) < 2 ^ 32 := by omega
        clear hc hc' hstep q hy hlow hlj he hz e2 hJ hpe hor hpt hP2 hnj
        go_wp2_with fail
        go_round
        case rel => exact ⟨r, t + 1, l &&& (l - 1), P2, HP.out, by omega, hlx, by rw [← HP.out]; exact hrP, rfl, congrArg (Value.int .i64) (by have := HPE.out; omega), rfl, by rw [← HP.out]; exact HC.out, hz2⟩
        case measure => simp [intOf]; omega
      · rw [hnj] at hstep
        have q : n &&& J = J := by
          apply Nat.eq_of_testBit_eq
          intro i
          rw [hJ, Nat.testBit_and, Nat.testBit_two_pow]
          by_cases e : j = i
          · rw [← e, hnj]; rfl
          · simp [e]
        rw [q] at e2
        have hc' : cmpr f n = (r + p) + P2 * cmpr (l &&& (l - 1)) n := by rw [hc, hstep, hpt]; simp; rw [Nat.mul_add, ← Nat.mul_assoc, Nat.mul_comm p 2]; omega
        have HC := Lib.hid hc'
        have t7 : ((J : Int) != 0) = true := by simp; omega
        have hrP : r + p < P2 := by omega
        have hlx : l &&& (l - 1) < 2 ^ 32 := by omega
        clear hc hc' hstep q hy hlow hlj he hz hJ hpe hor hpt hP2 hnj
        go_wp2_with fail
        go_round
        case rel => exact ⟨r + p, t + 1, l &&& (l - 1), P2, HP.out, by omega, hlx, by rw [← HP.out]; exact hrP, rfl, congrArg (Value.int .i64) (by have := HPE.out; omega), rfl, by rw [← HP.out]; exact HC.out, hz2⟩
        case measure => simp [intOf]; omega
theorem rank_any (k f b n : Nat) (hk : k ≤ 32) (hf : f < 2 ^ k) (hn : n < 2 ^ 32) (w : World) :
    Calls Tryz.prog 185 #[patV k f b, .int .i64 n] w (IntPost (cmpr f n : Nat) w) := by
  by_cases h : f &&& (f + 1) = 0
  · exact rank_all k f b n hk hf hn h w
  · exact rank_loop k f b n hk hf hn h w
end Go.Proofs.YtblahbmhbfcggaaGreatDoor

/- Package val: a layout in memory, its members counted in an atomic; sync.Once as far as it is asked here. -/
namespace Go.Proofs.YtblahbmhbfcggaaGreatDoor
open Go.ChangeShapes Go.WideShapes Go.ChangeAt Go.RowKit Go.Joins Go.Deep
set_option linter.unusedVariables false

def layC (k f b : Int) (sl : Value) (c : Int) : Array Value := #[.int .i64 k, .int .i64 f, .int .i64 b, sl, .int .i64 c]

set_option maxRecDepth 100000 in
theorem load64 (bl : Nat) (k f b : Int) (sl : Value) (c : Int) (w : World) (h : At w bl (layC k f b sl c) 158) :
    Calls Tryz.prog 127 #[.pointer (some ⟨bl, 4, none⟩)] w fun e w' => e = .returned (.int .i64 c) ∧ w = w' := by
  have c4 : w.cell? ⟨bl, 4, none⟩ = some (.int .i64 c) := h.cell 4 rfl
  have hl := run_call_load (P := Tryz.prog) Tryz.func160 (by kernel_rfl) (by kernel_rfl) (by kernel_rfl) .i64 (by kernel_rfl) c4
  go_enter Tryz.func127, Tryz.ntmps127
  go_wp2
  go_ret
  exact ⟨rfl, rfl⟩
set_option maxRecDepth 100000 in
theorem add64 (bl : Nat) (k f b : Int) (sl : Value) (c d : Int) (hcd : -9223372036854775808 ≤ c + d ∧ c + d ≤ 9223372036854775807) (w : World) (h : At w bl (layC k f b sl c) 158) :
    Calls Tryz.prog 184 #[.pointer (some ⟨bl, 4, none⟩), .int .i64 d] w fun e w' => e = .returned (.int .i64 (c + d)) ∧ w' = w.setCell ⟨bl, 4, none⟩ (.int .i64 (c + d)) := by
  have c4 : w.cell? ⟨bl, 4, none⟩ = some (.int .i64 c) := h.cell 4 rfl
  have f4 := h.free 4
  have iw : IntKind.i64.wrap (c + d) = c + d := by rw [IntKind.wrap_i64]; omega
  have hadd := run_call_add (P := Tryz.prog) Tryz.func202 (by kernel_rfl) (by kernel_rfl) (by kernel_rfl) .i64 (by kernel_rfl) (y := d) (s := c + d) c4 f4 (by simp [go_sem, iw])
  go_enter Tryz.func184, Tryz.ntmps184
  go_wp2
  go_ret
  exact ⟨rfl, rfl⟩
set_option maxRecDepth 100000 in
theorem count_any (bl : Nat) (k f b : Int) (sl : Value) (c : Int) (w : World) (h : At w bl (layC k f b sl c) 158) :
    Calls Tryz.prog 91 #[.pointer (some ⟨bl, 0, none⟩)] w fun e w' => e = .returned (.int .i64 c) ∧ w = w' := by
  have cL := fun w h => load64 bl k f b sl c w h
  have c4 : w.cell? ⟨bl, 0, none⟩ = some (.int .i64 k) := h.cell 0 rfl
  go_enter Tryz.func91, Tryz.ntmps91
  go_wp2_with ((go_at_call 127; refine (cL _ h).mono ?_; rintro e w' ⟨rfl, rfl⟩))
  go_ret
  exact ⟨rfl, rfl⟩
end Go.Proofs.YtblahbmhbfcggaaGreatDoor
