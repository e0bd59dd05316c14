/- math/bits: how many bits a number has. -/
import Derived.Test.YtblahbmhbfcggaaGreatDoorVNum
import Derived.Test.YtblahbmhbfcggaaGreatDoorMem
import Derived.Lib.BitFns
import Derived.Lib.ItoaNum
namespace Go.Proofs.YtblahbmhbfcggaaGreatDoor
open Go.ChangeShapes Go.WideShapes Go.ChangeAt Go.RowKit Go.Joins Go.Deep
set_option linter.unusedVariables false

def blen (x : Nat) : Nat := Lib.bitLen x
theorem blen_zero : blen 0 = 0 := Lib.bitLenAux_zero 64
theorem blen_spec {x : Nat} (h : x < 2 ^ 32) (h0 : x ≠ 0) : 1 ≤ blen x ∧ 2 ^ (blen x - 1) ≤ x ∧ x < 2 ^ blen x := Lib.bitLenAux_bounds 64 x (by omega) h0
theorem blen_le {x k : Nat} (hk : k ≤ 64) (h : x < 2 ^ k) : blen x ≤ k := Lib.bitLen_le x k hk h
theorem wrap_len (a : Nat) (ha : a ≤ 64) : wrap64 (a : Int) = (a : Int) := by unfold wrap64; omega

theorem tab_get (y : Nat) (h : y < Lib.len8tab.size) : ((Lib.len8tab[y]'h).toNat : Int) = (blen y : Int) := by
  have h' := h
  rw [Lib.len8tab_size] at h'
  have e := Lib.len8_of (y : Int) (by omega) (by omega)
  unfold Lib.len8 at e
  simp only [Int.toNat_natCast] at e
  rw [getElem?_pos Lib.len8tab y h] at e
  exact e
theorem tab_lt {y : Nat} (h : y < 256) : y < Lib.len8tab.size := by rw [Lib.len8tab_size]; exact h
theorem blen_shift {k x : Nat} (h : 2 ^ k ≤ x) (hx : x < 4294967296) : blen x = k + blen (x / 2 ^ k) := Lib.bitLen_shift k x h (by omega)
theorem end_len (k y x : Nat) (h : y < Lib.len8tab.size) (hk : k ≤ 24) (e : blen x = k + blen y) : wrap64 ((k : Int) + wrap64 ((Lib.len8tab[y]'h).toNat : Int)) = (blen x : Int) := by
  have h' := h
  rw [Lib.len8tab_size] at h'
  have hl := blen_le (x := y) (k := 8) (by decide) h'
  rw [tab_get, wrap_len _ (by omega), e]
  unfold wrap64
  omega
theorem end_len0 (y : Nat) (h : y < Lib.len8tab.size) : wrap64 (wrap64 ((Lib.len8tab[y]'h).toNat : Int)) = (blen y : Int) := by
  have h' := h
  rw [Lib.len8tab_size] at h'
  have hl := blen_le (x := y) (k := 8) (by decide) h'
  rw [tab_get, wrap_len _ (by omega), wrap_len _ (by omega)]

theorem end_len8 (k y x : Nat) (z : Int) (hz : z = y) (h : y < 256) (hk : k ≤ 24) (e : blen x = k + blen y) : wrap64 ((k : Int) + wrap64 (Lib.len8 (z % 256))) = (blen x : Int) := by
  have hl := blen_le (x := y) (k := 8) (by decide) h
  have e2 := Lib.len8_of (y : Int) (by omega) (by omega)
  simp only [Int.toNat_natCast] at e2
  have e3 : z % 256 = (y : Int) := by omega
  rw [e3, e2]
  show wrap64 ((k : Int) + wrap64 (blen y : Int)) = _
  rw [wrap_len _ (by omega), e]
  unfold wrap64
  omega
theorem end_len80 (y : Nat) (h : y < 256) : wrap64 (wrap64 (Lib.len8 ((y : Int) % 256))) = (blen y : Int) := by
  have hl := blen_le (x := y) (k := 8) (by decide) h
  have e2 := Lib.len8_of (y : Int) (by omega) (by omega)
  simp only [Int.toNat_natCast] at e2
  have e3 : (y : Int) % 256 = (y : Int) := by omega
  rw [e3, e2]
  show wrap64 (wrap64 (blen y : Int)) = _
  rw [wrap_len _ (by omega), wrap_len _ (by omega)]

set_option maxRecDepth 100000 in
set_option maxHeartbeats 1600000 in
theorem Len64_any (x : Nat) (hx : x < 4294967296) (w : World) :
    Calls Tryz.prog 190 #[.int .u64 x] w fun e w' => e = .returned (.int .i64 (blen x)) ∧ w = w' := by
  have t0 : decide ((4294967296 : Int) ≤ (x : Int)) = false := by simp; omega
  by_cases h1 : 65536 ≤ x
  · have t1 : decide ((65536 : Int) ≤ (x : Int)) = true := by simp; omega
    by_cases h2 : 256 ≤ x / 65536
    · have t2 : decide ((256 : Int) ≤ (x : Int) / 65536) = true := by simp; omega
      have hb := tab_lt (y := x / 65536 / 256) (by omega)
      have e : blen x = 24 + blen (x / 65536 / 256) := by rw [blen_shift (k := 24) (by omega) hx, Nat.div_div_eq_div_mul]
      clear h1 h2
      go_enter Tryz.func190, Tryz.ntmps190
      go_wp2
      go_ret
      exact ⟨ret_i (end_len 24 _ _ hb (by omega) e), rfl⟩
    · have t2 : decide ((256 : Int) ≤ (x : Int) / 65536) = false := by simp; omega
      have hb := tab_lt (y := x / 65536) (by omega)
      have e : blen x = 16 + blen (x / 65536) := by rw [blen_shift (k := 16) (by omega) hx]
      go_enter Tryz.func190, Tryz.ntmps190
      go_wp2
      go_ret
      exact ⟨ret_i (end_len 16 _ _ hb (by omega) e), rfl⟩
  · have t1 : decide ((65536 : Int) ≤ (x : Int)) = false := by simp; omega
    by_cases h2 : 256 ≤ x
    · have t2 : decide ((256 : Int) ≤ (x : Int)) = true := by simp; omega
      have hb := tab_lt (y := x / 256) (by omega)
      have e : blen x = 8 + blen (x / 256) := by rw [blen_shift (k := 8) (by omega) hx]
      go_enter Tryz.func190, Tryz.ntmps190
      go_wp2
      go_ret
      exact ⟨ret_i (end_len 8 _ _ hb (by omega) e), rfl⟩
    · have t2 : decide ((256 : Int) ≤ (x : Int)) = false := by simp; omega
      have hb := tab_lt (y := x) (by omega)
      go_enter Tryz.func190, Tryz.ntmps190
      go_wp2
      go_ret
      exact ⟨ret_i (end_len0 _ hb), rfl⟩
theorem Len_any (x : Nat) (hx : x < 4294967296) (w : World) :
    Calls Tryz.prog 164 #[.int .u64 x] w fun e w' => e = .returned (.int .i64 (blen x)) ∧ w = w' := by
  go_enter Tryz.func164, Tryz.ntmps164
  go_wp2_with ((go_at_call 190; refine (Len64_any x hx _).mono ?_; rintro e w' ⟨rfl, rfl⟩))
  go_ret
  exact ⟨rfl, rfl⟩
end Go.Proofs.YtblahbmhbfcggaaGreatDoor

/- The document's own sets: what may be, has, the least member from a number on, a single one. -/
namespace Go.Proofs.YtblahbmhbfcggaaGreatDoor
open Go.ChangeShapes Go.WideShapes Go.ChangeAt Go.RowKit Go.Joins Go.Deep
set_option linter.unusedVariables false

/-- a set as it is handed in -/
abbrev valV (w : Int) (no : Bool) (l h f b : Int) : Value := .agg #[.int .i64 w, .bool no, .int .i64 l, .int .i64 h, .int .i64 f, .int .i64 b]

def isWn (k : Nat) : Prop := k = 8 ∨ k = 16 ∨ k = 32
structure SetOk (k l h f b : Nat) : Prop where
  hk : isWn k
  hl : l < 2 ^ k
  hh : h < 2 ^ k
  hf : f < 2 ^ k
  hb : b < 2 ^ k
  hbf : ∀ i, f.testBit i = true → b.testBit i = false

def FitPost (k f b n : Nat) (w : World) (e : Ending) (w' : World) : Prop := ∃ r : Int, LeastFit k f b n r ∧ e = .returned (.int .i64 r) ∧ Below w.heap.size w w'

theorem isWn.le {k : Nat} (h : isWn k) : k ≤ 32 := by unfold isWn at h; omega
theorem isWn.pow {k : Nat} (h : isWn k) : 2 ^ k ≤ 2 ^ 32 := Nat.pow_le_pow_right (by decide) h.le
theorem SetOk.lt {k l h f b : Nat} (ok : SetOk k l h f b) : l < 4294967296 ∧ h < 4294967296 ∧ f < 4294967296 ∧ b < 4294967296 := by
  have hp := ok.hk.pow
  have h1 := ok.hl
  have h2 := ok.hh
  have h3 := ok.hf
  have h4 := ok.hb
  omega
theorem and_one (x j : Nat) : bits .and .i64 ((x : Int) / 2 ^ j) 1 = ((x.testBit j).toNat : Int) := by
  have := and_mask ((x : Int) / 2 ^ j) 1 (by decide)
  rw [← bit_int]
  exact this
theorem and_one_0 {x j : Nat} (h : x.testBit j = false) : bits .and .i64 ((x : Int) / 2 ^ j) 1 = 0 := by rw [and_one, h]; rfl
theorem and_one_1 {x j : Nat} (h : x.testBit j = true) : bits .and .i64 ((x : Int) / 2 ^ j) 1 = 1 := by rw [and_one, h]; rfl

/-- nothing is off above j -/
theorem off_iff {n f b j : Nat} (hbf : ∀ i, f.testBit i = true → b.testBit i = false) : (nandn n f ^^^ b) / 2 ^ (j + 1) = 0 ↔ ∀ i, j < i → f.testBit i = false → n.testBit i = b.testBit i := by
  rw [← Nat.shiftRight_eq_div_pow]
  constructor
  · intro h i hi hf
    have : ((nandn n f ^^^ b) >>> (j + 1)).testBit (i - (j + 1)) = false := by rw [h]; simp
    rw [Nat.testBit_shiftRight, show j + 1 + (i - (j + 1)) = i by omega, Nat.testBit_xor, nandn_bit, hf] at this
    simpa using this
  · intro h
    apply Nat.eq_of_testBit_eq
    intro i
    rw [Nat.testBit_shiftRight, Nat.testBit_xor, nandn_bit, Nat.zero_testBit]
    cases hf : f.testBit (j + 1 + i)
    · rw [h _ (by omega) hf]; simp
    · rw [hbf _ hf]; simp
theorem w64 (n : Nat) (h : n < 2 ^ 62) : wrap64 (n : Int) = n := by unfold wrap64; omega
theorem upAt_int (n b j : Nat) (hn : n < 2 ^ 32) (hb : b < 2 ^ 32) (hj : j < 32) : bits .or .i64 (bits .or .i64 (wrap64 ((n : Int) / 2 ^ (j + 1) * 2 ^ (j + 1))) (wrap64 (2 ^ j))) (bits .and .i64 (b : Int) (wrap64 (wrap64 (2 ^ j) - 1))) = (upAt n b j : Nat) := by
  have hp : (2 : Nat) ^ j ≤ 2 ^ 31 := Nat.pow_le_pow_right (by decide) (by omega)
  have h1 : 1 ≤ 2 ^ j := Nat.one_le_two_pow
  have e1 : ((n : Int) / 2 ^ (j + 1) * 2 ^ (j + 1)) = ((n / 2 ^ (j + 1) * 2 ^ (j + 1) : Nat) : Int) := by simp
  have e2 : ((2 : Int) ^ j) = ((2 ^ j : Nat) : Int) := by simp
  have e3 : ((2 : Int) ^ j - 1) = ((2 ^ j - 1 : Nat) : Int) := by rw [Int.natCast_sub h1]; simp
  have hd : n / 2 ^ (j + 1) * 2 ^ (j + 1) ≤ n := Nat.div_mul_le_self _ _
  rw [e1, e2, w64 _ (by omega), w64 _ (by omega), ← e2, e3, w64 _ (by omega), e2, bits_or (by omega) (by omega), bits_and (by omega) (by omega), bits_or (Nat.or_lt_two_pow (by omega) (by omega)) (lt_of_and (by omega))]
  unfold upAt
  rw [Nat.shiftRight_eq_div_pow, Nat.shiftLeft_eq, Nat.one_shiftLeft]

theorem fit_here {k f b n : Nat} (hn : n < 2 ^ k) (hf : Fits f b n) : LeastFit k f b n n := Or.inr ⟨n, rfl, hn, Nat.le_refl _, hf, fun _ _ h _ => h⟩
theorem fit_up {k l h f b n j : Nat} (ok : SetOk k l h f b) (hn : n < 2 ^ k) (hno : ¬ Fits f b n) (hj : j < k) (hg : Good f b n j) (hlow : ∀ i, i < j → ¬ Good f b n i) : LeastFit k f b n (upAt n b j : Nat) :=
  Or.inr ⟨_, rfl, upAt_lt hj hn, Nat.le_of_lt (upAt_gt hg), upAt_fits hg, fun x hx hnx hfx => least_up ok.hbf hg hlow hx hfx (by
    rcases Nat.lt_or_ge n x with h' | h'
    · exact h'
    · obtain rfl : n = x := by omega
      exact absurd hfx hno)⟩
theorem fit_none {k f b n : Nat} (hno : ¬ Fits f b n) (h : ∀ i, i < k → ¬ Good f b n i) : LeastFit k f b n (-1) :=
  Or.inl ⟨rfl, fun x hx hnx hfx => by
    rcases Nat.lt_or_ge n x with h' | h'
    · exact none_up h hx hfx h'
    · obtain rfl : n = x := by omega
      exact hno hfx⟩

set_option maxRecDepth 100000 in
set_option maxHeartbeats 1600000 in
theorem match_any (k l h f b n : Nat) (ok : SetOk k l h f b) (hn : n < 2 ^ k) (w : World) :
    Calls Tryz.prog 45 #[valV k false l h f b, .int .i64 n] w (FitPost k f b n w) := by
  obtain ⟨hl3, hh3, hf3, hb3⟩ := ok.lt
  have hk3 := ok.hk.le
  have hn3 : n < 4294967296 := Nat.lt_of_lt_of_le hn ok.hk.pow
  have e0 := bits_andNot (x := n) (y := f) (by omega)
  by_cases hfit : nandn n f = b
  · have t0 : (((nandn n f : Nat) : Int) == (b : Int)) = true := by simp [hfit]
    have fin := fit_here hn ((fits_iff ok.hbf).1 hfit)
    clear hfit
    go_enter Tryz.func45, Tryz.ntmps45
    go_wp2
    go_ret
    exact ⟨_, fin, rfl, (Below.refl _ _).alloc (Nat.le_refl _) _⟩
  · have t0 : (((nandn n f : Nat) : Int) == (b : Int)) = false := by simp; omega
    have hno : ¬ Fits f b n := fun h => hfit ((fits_iff ok.hbf).2 h)
    have ex := bits_xor (x := nandn n f) (y := b) (nandn_lt (by omega)) (by omega)
    clear hfit
    go_enter Tryz.func45, Tryz.ntmps45
    go_wp2
    go_loop [5] (fun i => ∃ j : Nat, j ≤ k ∧ i = .int .i64 j ∧ ∀ i, i < j → ¬ Good f b n i) (fun i => k - (intOf i).toNat)
    case atStart => exact ⟨0, by omega, rfl, fun _ h => absurd h (by omega)⟩
    case round =>
      obtain ⟨j, hj, rfl, hg⟩ := hrel
      by_cases hlt : j < k
      · by_cases hoff : (nandn n f ^^^ b) / 2 ^ (j + 1) = 0
        · have toff : (((nandn n f ^^^ b : Nat) : Int) / 2 ^ (j + 1)) = 0 := by exact_mod_cast hoff
          cases hnj : n.testBit j
          · have tn := and_one_0 hnj
            cases hfj : f.testBit j
            · have tf := and_one_0 hfj
              cases hbj : b.testBit j
              · have tb := and_one_0 hbj
                go_wp2_with fail
                go_round
                case rel => exact ⟨j + 1, by omega, by go_num, fun i hi hgi => by
                  rcases Nat.lt_or_ge i j with h' | h'
                  · exact hg i h' hgi
                  · obtain rfl : i = j := by omega
                    rcases hgi.one with h1 | h1 <;> simp_all⟩
                case measure => simp [intOf]; omega
              · have tb := and_one_1 hbj
                have fin := fit_up ok hn hno hlt ⟨(off_iff ok.hbf).1 hoff, hnj, Or.inr hbj⟩ hg
                go_wp2_with fail
                go_quiet (fail)
                go_wp2_with fail
                go_ret
                exact ⟨_, fin, ret_i (upAt_int n b j (by omega) (by omega) (by omega)), ((Below.refl _ _).alloc (Nat.le_refl _) _).trans (Joins.below_draws _ _ _)⟩
            · have tf := and_one_1 hfj
              have fin := fit_up ok hn hno hlt ⟨(off_iff ok.hbf).1 hoff, hnj, Or.inl hfj⟩ hg
              go_wp2_with fail
              go_quiet (fail)
              go_wp2_with fail
              go_ret
              exact ⟨_, fin, ret_i (upAt_int n b j (by omega) (by omega) (by omega)), ((Below.refl _ _).alloc (Nat.le_refl _) _).trans (Joins.below_draws _ _ _)⟩
          · have tn := and_one_1 hnj
            go_wp2_with fail
            go_round
            case rel => exact ⟨j + 1, by omega, by go_num, fun i hi hgi => by
                  rcases Nat.lt_or_ge i j with h' | h'
                  · exact hg i h' hgi
                  · obtain rfl : i = j := by omega
                    have := hgi.zero
                    simp_all⟩
            case measure => simp [intOf]; omega
        · have toff : ((((nandn n f ^^^ b : Nat) : Int) / 2 ^ (j + 1)) == 0) = false := by simp; exact_mod_cast hoff
          go_wp2_with fail
          go_round
          case rel => exact ⟨j + 1, by omega, by go_num, fun i hi hgi => by
                  rcases Nat.lt_or_ge i j with h' | h'
                  · exact hg i h' hgi
                  · obtain rfl : i = j := by omega
                    exact hoff ((off_iff ok.hbf).2 hgi.above)⟩
          case measure => simp [intOf]; omega
      · go_wp2_with fail
        go_ret
        exact ⟨_, fit_none hno (fun i hi => hg i (by omega)), rfl, (Below.refl _ _).alloc (Nat.le_refl _) _⟩

def ValPost (r : Bool) (w : World) (e : Ending) (w' : World) : Prop := e = .returned (.bool r) ∧ Below w.heap.size w w'
theorem and_zero {f b : Nat} (hf : f < 2 ^ 32) (hb : b < 2 ^ 32) : bits .and .i64 (b : Int) (f : Int) = 0 ↔ ∀ i, f.testBit i = true → b.testBit i = false := by
  rw [bits_and (by omega) (by omega)]
  constructor
  · intro h i hi
    have h0 : b &&& f = 0 := by omega
    have : (b &&& f).testBit i = false := by rw [h0]; simp
    rw [Nat.testBit_and, hi] at this
    simpa using this
  · intro h
    have : b &&& f = 0 := by
      apply Nat.eq_of_testBit_eq
      intro i
      rw [Nat.testBit_and, Nat.zero_testBit]
      cases e : f.testBit i
      · simp
      · rw [h i e]; rfl
    omega

set_option maxRecDepth 100000 in
set_option maxHeartbeats 1600000 in
theorem rHas_no (k l h f b n : Int) (w : World) :
    Calls Tryz.prog 44 #[valV k true l h f b, .int .i64 n] w (ValPost false w) := by
  go_enter Tryz.func44, Tryz.ntmps44
  go_wp2
  go_ret
  exact ⟨rfl, (Below.refl _ _).alloc (Nat.le_refl _) _⟩
/-- whether x is a member -/
def memB (l h f b x : Nat) : Bool := decide (nandn x f = b ∧ if l ≤ h then l ≤ x ∧ x ≤ h else l ≤ x ∨ x ≤ h)
theorem memB_iff {k l h f b x : Nat} (ok : SetOk k l h f b) (hx : x < 2 ^ k) : memB l h f b x = true ↔ Mem k l h f b x := by
  unfold memB
  rw [decide_eq_true_iff, fits_iff ok.hbf]
  exact ⟨fun ⟨a, c⟩ => ⟨hx, a, c⟩, fun m => ⟨m.fits, m.range⟩⟩
set_option maxRecDepth 100000 in
set_option maxHeartbeats 1600000 in
theorem rHas_any (k l h f b n : Nat) (ok : SetOk k l h f b) (hn : n < 4294967296) (w : World) :
    Calls Tryz.prog 44 #[valV k false l h f b, .int .i64 n] w (ValPost (memB l h f b n) w) := by
  obtain ⟨hl3, hh3, hf3, hb3⟩ := ok.lt
  have e0 := bits_andNot (x := n) (y := f) (by omega)
  by_cases hfit : nandn n f = b
  · have t0 : (((nandn n f : Nat) : Int) == (b : Int)) = true := by simp [hfit]
    have t1 : (((nandn n f : Nat) : Int) != (b : Int)) = false := by simp [hfit]
    by_cases hr : l ≤ h
    · have t2 : decide (l ≤ h) = true := by simp; omega
      by_cases hm : l ≤ n ∧ n ≤ h
      · have hv : memB l h f b n = true := by unfold memB; simp [hfit, hr, hm]
        rw [hv]
        have cB := fun w => Between_yes n l h (by omega) (by omega) w
        clear hfit hr
        go_enter Tryz.func44, Tryz.ntmps44
        go_wp2_with ((go_at_call 36; (with_reducible refine (cB _).mono ?_); rintro e w' ⟨rfl, rfl⟩))
        go_ret
        exact ⟨rfl, (Below.refl _ _).alloc (Nat.le_refl _) _⟩
      · have hv : memB l h f b n = false := by unfold memB; simp [hfit, hr]; omega
        rw [hv]
        have cB := fun w => Between_no n l h (by omega) w
        clear hfit hr
        go_enter Tryz.func44, Tryz.ntmps44
        go_wp2_with ((go_at_call 36; (with_reducible refine (cB _).mono ?_); rintro e w' ⟨rfl, rfl⟩))
        go_ret
        exact ⟨rfl, (Below.refl _ _).alloc (Nat.le_refl _) _⟩
    · have t2 : decide (l ≤ h) = false := by simp; omega
      have hv : memB l h f b n = decide (l ≤ n ∨ n ≤ h) := by unfold memB; simp [hfit, hr]
      by_cases hm : l ≤ n
      · have t3 : decide (l ≤ n) = true := by simp; omega
        have hv' : memB l h f b n = true := by rw [hv]; simp; omega
        rw [hv']
        clear hfit hr hv hv'
        go_enter Tryz.func44, Tryz.ntmps44
        go_wp2
        go_ret
        exact ⟨rfl, (Below.refl _ _).alloc (Nat.le_refl _) _⟩
      · have t3 : decide (l ≤ n) = false := by simp; omega
        have hv' : memB l h f b n = decide (n ≤ h) := by rw [hv]; simp; omega
        rw [hv']
        clear hfit hr hv hv'
        go_enter Tryz.func44, Tryz.ntmps44
        go_wp2
        go_ret
        exact ⟨rfl, (Below.refl _ _).alloc (Nat.le_refl _) _⟩
  · have t0 : (((nandn n f : Nat) : Int) == (b : Int)) = false := by simp; omega
    have t1 : (((nandn n f : Nat) : Int) != (b : Int)) = true := by simp; omega
    have hv : memB l h f b n = false := by unfold memB; simp [hfit]
    rw [hv]
    clear hfit
    go_enter Tryz.func44, Tryz.ntmps44
    go_wp2
    go_ret
    exact ⟨rfl, (Below.refl _ _).alloc (Nat.le_refl _) _⟩
end Go.Proofs.YtblahbmhbfcggaaGreatDoor
