/- The model's bit operations on numbers that are not below 0, as those of natural numbers. -/
import Derived.WalkKit
namespace Go.Proofs.YtblahbmhbfcggaaGreatDoor
open Go Go.RowKit

/-- x's bits where y has none -/
def nandn (x y : Nat) : Nat := Nat.bitwise (fun a b => a && !b) x y
theorem nandn_bit (x y i : Nat) : (nandn x y).testBit i = (x.testBit i && !y.testBit i) := Nat.testBit_bitwise rfl x y i
theorem lt_of_and {x y k : Nat} (h : x < 2 ^ k) : x &&& y < 2 ^ k := Nat.lt_of_le_of_lt Nat.and_le_left h
theorem nandn_lt {x y k : Nat} (h : x < 2 ^ k) : nandn x y < 2 ^ k := by
  apply Nat.lt_pow_two_of_testBit
  intro i hi
  rw [nandn_bit, Nat.testBit_lt_two_pow (Nat.lt_of_lt_of_le h (Nat.pow_le_pow_right (by decide) hi))]
  rfl
theorem wrap_nat {m : Nat} (h : m < 2 ^ 62) : IntKind.i64.wrap (m : Int) = m := by
  simp [IntKind.wrap, IntKind.bits, IntKind.signed]
  omega
theorem ofInt_nat (x : Nat) : BitVec.ofInt 64 (x : Int) = BitVec.ofNat 64 x := BitVec.ofInt_natCast ..
theorem toNat_small {x : Nat} (h : x < 2 ^ 62) : (BitVec.ofNat 64 x).toNat = x := by
  rw [BitVec.toNat_ofNat]; exact Nat.mod_eq_of_lt (by omega)
theorem bits_and {x y : Nat} (hx : x < 2 ^ 62) (hy : y < 2 ^ 62) : bits .and .i64 (x : Int) (y : Int) = ((x &&& y : Nat) : Int) := by
  show IntKind.i64.wrap ((BitVec.ofInt 64 (x : Int) &&& BitVec.ofInt 64 (y : Int)).toNat : Int) = _
  rw [ofInt_nat, ofInt_nat, BitVec.toNat_and, toNat_small hx, toNat_small hy]
  exact wrap_nat (lt_of_and hx)
theorem bits_or {x y : Nat} (hx : x < 2 ^ 62) (hy : y < 2 ^ 62) : bits .or .i64 (x : Int) (y : Int) = ((x ||| y : Nat) : Int) := by
  show IntKind.i64.wrap ((BitVec.ofInt 64 (x : Int) ||| BitVec.ofInt 64 (y : Int)).toNat : Int) = _
  rw [ofInt_nat, ofInt_nat, BitVec.toNat_or, toNat_small hx, toNat_small hy]
  exact wrap_nat (Nat.or_lt_two_pow hx hy)
theorem bits_xor {x y : Nat} (hx : x < 2 ^ 62) (hy : y < 2 ^ 62) : bits .xor .i64 (x : Int) (y : Int) = ((x ^^^ y : Nat) : Int) := by
  show IntKind.i64.wrap ((BitVec.ofInt 64 (x : Int) ^^^ BitVec.ofInt 64 (y : Int)).toNat : Int) = _
  rw [ofInt_nat, ofInt_nat, BitVec.toNat_xor, toNat_small hx, toNat_small hy]
  exact wrap_nat (Nat.xor_lt_two_pow hx hy)
theorem bits_andNot {x y : Nat} (hx : x < 2 ^ 62) : bits .andNot .i64 (x : Int) (y : Int) = ((nandn x y : Nat) : Int) := by
  show IntKind.i64.wrap ((BitVec.ofInt 64 (x : Int) &&& ~~~ BitVec.ofInt 64 (y : Int)).toNat : Int) = _
  have e : (BitVec.ofInt 64 (x : Int) &&& ~~~ BitVec.ofInt 64 (y : Int)).toNat = nandn x y := by
    rw [ofInt_nat, ofInt_nat]
    apply Nat.eq_of_testBit_eq
    intro i
    rw [nandn_bit, BitVec.toNat_and, Nat.testBit_and, toNat_small hx, BitVec.testBit_toNat, BitVec.getLsbD_not, BitVec.getLsbD_ofNat]
    by_cases h : i < 64
    · simp [h]
    · have : x.testBit i = false := Nat.testBit_lt_two_pow (Nat.lt_of_lt_of_le hx (Nat.pow_le_pow_right (by decide) (by omega)))
      simp [this]
  rw [e]
  exact wrap_nat (nandn_lt hx)
/-- a bit, asked by a shift and a mask -/
theorem bit_int (x j : Nat) : ((x : Int) / 2 ^ j) % 2 = ((x.testBit j).toNat : Int) := by
  rw [Nat.testBit_eq_decide_div_mod_eq]
  have e : ((x : Int) / 2 ^ j) % 2 = ((x / 2 ^ j % 2 : Nat) : Int) := by
    rw [Int.natCast_emod, Int.natCast_ediv, Int.natCast_pow]; rfl
  rw [e]
  have : x / 2 ^ j % 2 < 2 := Nat.mod_lt _ (by decide)
  by_cases h : x / 2 ^ j % 2 = 1
  · simp [h]
  · have h0 : x / 2 ^ j % 2 = 0 := by omega
    simp [h0]
/-- where nothing but the fixed bits is left, and they are b's -/
theorem fits_iff {x f b : Nat} (hbf : ∀ i, f.testBit i = true → b.testBit i = false) : nandn x f = b ↔ ∀ i, f.testBit i = false → x.testBit i = b.testBit i := by
  constructor
  · intro h i hi
    rw [← h, nandn_bit, hi]; simp
  · intro h
    apply Nat.eq_of_testBit_eq
    intro i
    rw [nandn_bit]
    cases e : f.testBit i
    · rw [h i e]; simp
    · rw [hbf i e]; simp
end Go.Proofs.YtblahbmhbfcggaaGreatDoor


/- Numbers with fixed bits: the least one that is not below another. Plain mathematics. -/
namespace Go.Proofs.YtblahbmhbfcggaaGreatDoor

/-- x has, where f has none, b's bits -/
def Fits (f b x : Nat) : Prop := ∀ i, f.testBit i = false → x.testBit i = b.testBit i

theorem div_eq_of_bits {x y : Nat} (i : Nat) (h : ∀ j, i ≤ j → x.testBit j = y.testBit j) : x / 2 ^ i = y / 2 ^ i := by
  apply Nat.eq_of_testBit_eq
  intro j
  rw [← Nat.shiftRight_eq_div_pow, ← Nat.shiftRight_eq_div_pow, Nat.testBit_shiftRight, Nat.testBit_shiftRight]
  exact h _ (by omega)

theorem lt_of_bit {x y : Nat} (i : Nat) (hx : x.testBit i = false) (hy : y.testBit i = true) (h : ∀ j, i < j → x.testBit j = y.testBit j) : x < y := by
  have e := div_eq_of_bits (i + 1) (fun j hj => h j (by omega))
  have bx : x / 2 ^ i % 2 = 0 := by
    rw [Nat.testBit_eq_decide_div_mod_eq] at hx; simp at hx; omega
  have by_ : y / 2 ^ i % 2 = 1 := by
    rw [Nat.testBit_eq_decide_div_mod_eq] at hy; simpa using hy
  have ex : x / 2 ^ (i + 1) = x / 2 ^ i / 2 := by rw [Nat.pow_succ, Nat.div_div_eq_div_mul]
  have ey : y / 2 ^ (i + 1) = y / 2 ^ i / 2 := by rw [Nat.pow_succ, Nat.div_div_eq_div_mul]
  rw [ex, ey] at e
  have hlt : x / 2 ^ i < y / 2 ^ i := by omega
  exact Nat.lt_of_div_lt_div hlt

theorem top_bit : ∀ (w : Nat) {x y : Nat}, x < y → y < 2 ^ w → ∃ i, i < w ∧ x.testBit i = false ∧ y.testBit i = true ∧ ∀ j, i < j → x.testBit j = y.testBit j := by
  intro w
  induction w with
  | zero => intro x y h h'; simp at h'; omega
  | succ w ih =>
    intro x y h h'
    rcases Nat.lt_or_ge (x / 2) (y / 2) with hd | hd
    · obtain ⟨i, hi, a, b, c⟩ := ih hd (by rw [Nat.pow_succ] at h'; omega)
      refine ⟨i + 1, by omega, by rw [Nat.testBit_succ]; exact a, by rw [Nat.testBit_succ]; exact b, fun j hj => ?_⟩
      obtain ⟨k, rfl⟩ : ∃ k, j = k + 1 := ⟨j - 1, by omega⟩
      rw [Nat.testBit_succ, Nat.testBit_succ]
      exact c k (by omega)
    · have e : x / 2 = y / 2 := by omega
      refine ⟨0, by omega, by rw [Nat.testBit_zero]; simp; omega, by rw [Nat.testBit_zero]; simp; omega, fun j hj => ?_⟩
      obtain ⟨k, rfl⟩ : ∃ k, j = k + 1 := ⟨j - 1, by omega⟩
      rw [Nat.testBit_succ, Nat.testBit_succ, e]

/-- n's bits above j, 1 at j, b's below -/
def upAt (n b j : Nat) : Nat := (n >>> (j + 1) <<< (j + 1) ||| 1 <<< j) ||| (b &&& (2 ^ j - 1))
theorem upAt_bit (n b j i : Nat) : (upAt n b j).testBit i = if j < i then n.testBit i else if i = j then true else b.testBit i := by
  unfold upAt
  rw [Nat.testBit_or, Nat.testBit_or, Nat.testBit_and, Nat.testBit_two_pow_sub_one, Nat.testBit_shiftLeft, Nat.testBit_shiftRight, Nat.testBit_shiftLeft]
  by_cases h : j < i
  · rw [if_pos h]
    have h1 : j + 1 ≤ i := h
    have h2 : ¬ i < j := by omega
    have h3 : j + 1 + (i - (j + 1)) = i := by omega
    have h4 : (1 : Nat).testBit (i - j) = false := by
      rw [show (1 : Nat) = 2 ^ 0 from rfl, Nat.testBit_two_pow]; simp; omega
    simp [h1, h2, h3, h4]
  · rw [if_neg h]
    by_cases e : i = j
    · subst e; simp
    · have h2 : i < j := by omega
      have h3 : ¬ j + 1 ≤ i := by omega
      have h4 : ¬ j ≤ i := by omega
      simp [h2, h3, h4, e]

structure Good (f b n j : Nat) : Prop where
  above : ∀ i, j < i → f.testBit i = false → n.testBit i = b.testBit i
  zero : n.testBit j = false
  one : f.testBit j = true ∨ b.testBit j = true

variable {w f b n : Nat}

theorem upAt_fits {j : Nat} (h : Good f b n j) : Fits f b (upAt n b j) := by
  intro i hi
  rw [upAt_bit]
  by_cases h1 : j < i
  · rw [if_pos h1]; exact h.above i h1 hi
  · rw [if_neg h1]
    by_cases e : i = j
    · subst e
      rcases h.one with h2 | h2
      · rw [h2] at hi; cases hi
      · simp [h2]
    · simp [e]
theorem upAt_lt {j : Nat} (hj : j < w) (hn : n < 2 ^ w) : upAt n b j < 2 ^ w := by
  apply Nat.lt_pow_two_of_testBit
  intro i hi
  have hn' : n.testBit i = false := Nat.testBit_lt_two_pow (Nat.lt_of_lt_of_le hn (Nat.pow_le_pow_right (by decide) hi))
  rw [upAt_bit, if_pos (by omega)]
  exact hn'
theorem upAt_gt {j : Nat} (h : Good f b n j) : n < upAt n b j := by
  refine lt_of_bit j h.zero ?_ ?_
  · rw [upAt_bit]; simp
  · intro i hi; rw [upAt_bit, if_pos hi]
/-- whatever fits and is above n shows a good place, and is not below what is made there -/
theorem good_of {x : Nat} (hx : x < 2 ^ w) (hf : Fits f b x) (hn : n < x) : ∃ j, j < w ∧ Good f b n j ∧ (∀ i, j < i → n.testBit i = x.testBit i) ∧ x.testBit j = true := by
  obtain ⟨j, hj, a, c, d⟩ := top_bit w hn hx
  refine ⟨j, hj, ⟨fun i hi hfi => by rw [d i hi]; exact hf i hfi, a, ?_⟩, d, c⟩
  cases e : f.testBit j
  · exact Or.inr (by rw [← hf j e]; exact c)
  · exact Or.inl rfl
theorem upAt_le {x j : Nat} (hbf : ∀ i, f.testBit i = true → b.testBit i = false) (hf : Fits f b x) (hd : ∀ i, j < i → n.testBit i = x.testBit i) (hc : x.testBit j = true) : upAt n b j ≤ x := by
  apply Nat.le_of_testBit
  intro i hi
  rw [upAt_bit] at hi
  by_cases h1 : j < i
  · rw [if_pos h1] at hi; rw [← hd i h1]; exact hi
  · rw [if_neg h1] at hi
    by_cases e : i = j
    · rw [e]; exact hc
    · simp [e] at hi
      cases e2 : f.testBit i
      · rw [hf i e2]; exact hi
      · rw [hbf i e2] at hi; cases hi
/-- the lowest good place makes the least -/
theorem least_up {x j : Nat} (hbf : ∀ i, f.testBit i = true → b.testBit i = false) (hj : Good f b n j) (hlow : ∀ i, i < j → ¬ Good f b n i) (hx : x < 2 ^ w) (hf : Fits f b x) (hn : n < x) : upAt n b j ≤ x := by
  obtain ⟨i, hi, hg, hd, hc⟩ := good_of hx hf hn
  rcases Nat.lt_trichotomy i j with h | h | h
  · exact absurd hg (hlow i h)
  · subst h; exact upAt_le hbf hf hd hc
  · refine Nat.le_of_lt (lt_of_bit i ?_ hc ?_)
    · rw [upAt_bit, if_pos h]; exact hg.zero
    · intro k hk; rw [upAt_bit, if_pos (by omega)]; exact hd k hk
theorem none_up {x : Nat} (h : ∀ j, j < w → ¬ Good f b n j) (hx : x < 2 ^ w) (hf : Fits f b x) : ¬ n < x := fun hn => by
  obtain ⟨j, hj, hg, _⟩ := good_of hx hf hn
  exact h j hj hg
end Go.Proofs.YtblahbmhbfcggaaGreatDoor

/- A set's next member: the first of two ranges that holds one. Plain mathematics. -/
namespace Go.Proofs.YtblahbmhbfcggaaGreatDoor

/-- the members of a set of numbers of width w -/
structure Mem (w low high f b x : Nat) : Prop where
  lt : x < 2 ^ w
  fits : Fits f b x
  range : if low ≤ high then low ≤ x ∧ x ≤ high else low ≤ x ∨ x ≤ high

/-- the least number from n on that fits, or -1 -/
def LeastFit (w f b n : Nat) (r : Int) : Prop :=
  (r = -1 ∧ ∀ x, x < 2 ^ w → n ≤ x → ¬ Fits f b x) ∨ ∃ m : Nat, r = m ∧ m < 2 ^ w ∧ n ≤ m ∧ Fits f b m ∧ ∀ x, x < 2 ^ w → n ≤ x → Fits f b x → m ≤ x
def LeastMem (w low high f b n : Nat) (r : Int) : Prop :=
  (r = -1 ∧ ∀ x, n ≤ x → ¬ Mem w low high f b x) ∨ ∃ m : Nat, r = m ∧ n ≤ m ∧ Mem w low high f b m ∧ ∀ x, n ≤ x → Mem w low high f b x → m ≤ x

variable {w low high f b n : Nat}

theorem leastMem_unique {r s : Int} (hr : LeastMem w low high f b n r) (hs : LeastMem w low high f b n s) : r = s := by
  rcases hr with ⟨rfl, h⟩ | ⟨m, rfl, h1, h2, h3⟩
  · rcases hs with ⟨rfl, _⟩ | ⟨k, rfl, k1, k2, _⟩
    · rfl
    · exact absurd k2 (h k k1)
  · rcases hs with ⟨rfl, k⟩ | ⟨k, rfl, k1, k2, k3⟩
    · exact absurd h2 (k m h1)
    · have := h3 k k1 k2
      have := k3 m h1 h2
      omega

/-- one range from a to c: the least that fits from max n a on, if it is not above c -/
theorem one_range {a c : Nat} {r : Int} (hr : LeastFit w f b (max n a) r) :
    (r < 0 ∨ (c : Int) < r → ∀ x, n ≤ x → x < 2 ^ w → Fits f b x → a ≤ x → x ≤ c → False) ∧
    (0 ≤ r → r ≤ c → ∃ m : Nat, r = m ∧ n ≤ m ∧ m < 2 ^ w ∧ Fits f b m ∧ a ≤ m ∧ m ≤ c ∧ ∀ x, n ≤ x → x < 2 ^ w → Fits f b x → a ≤ x → m ≤ x) := by
  rcases hr with ⟨rfl, h⟩ | ⟨m, rfl, h1, h2, h3, h4⟩
  · exact ⟨fun _ x hn hw hf ha _ => h x hw (by omega) hf, fun h0 _ => by omega⟩
  · refine ⟨fun hc x hn hw hf ha hx => ?_, fun _ hc => ⟨m, rfl, by omega, h1, h3, by omega, by omega, fun x hn hw hf ha => h4 x hw (by omega) hf⟩⟩
    have := h4 x hw (by omega) hf
    omega
theorem no_range {a c : Nat} (h : c < max n a) : ∀ x, n ≤ x → a ≤ x → x ≤ c → False := by intro x h1 h2 h3; omega

/-- not over the end: one range -/
theorem next_plain (hl : low ≤ high) (h1 : ∀ x, n ≤ x → x < 2 ^ w → Fits f b x → low ≤ x → x ≤ high → False) : LeastMem w low high f b n (-1) :=
  Or.inl ⟨rfl, fun x hn hm => by have := hm.range; rw [if_pos hl] at this; exact h1 x hn hm.lt hm.fits this.1 this.2⟩
theorem next_plain_some (hl : low ≤ high) {m : Nat} (hn : n ≤ m) (hw : m < 2 ^ w) (hf : Fits f b m) (ha : low ≤ m) (hc : m ≤ high) (h1 : ∀ x, n ≤ x → x < 2 ^ w → Fits f b x → low ≤ x → m ≤ x) : LeastMem w low high f b n m :=
  Or.inr ⟨m, rfl, hn, ⟨hw, hf, by rw [if_pos hl]; exact ⟨ha, hc⟩⟩, fun x hx hm => by have := hm.range; rw [if_pos hl] at this; exact h1 x hx hm.lt hm.fits this.1⟩
/-- over the end: from 0 to high, then from low on -/
theorem next_over_first (hl : ¬ low ≤ high) {m : Nat} (hn : n ≤ m) (hw : m < 2 ^ w) (hf : Fits f b m) (hc : m ≤ high) (h1 : ∀ x, n ≤ x → x < 2 ^ w → Fits f b x → m ≤ x) : LeastMem w low high f b n m :=
  Or.inr ⟨m, rfl, hn, ⟨hw, hf, by rw [if_neg hl]; exact Or.inr hc⟩, fun x hx hm => h1 x hx hm.lt hm.fits⟩
theorem next_over_second (hl : ¬ low ≤ high) {m : Nat} (hn : n ≤ m) (hw : m < 2 ^ w) (hf : Fits f b m) (ha : low ≤ m) (h0 : ∀ x, n ≤ x → x < 2 ^ w → Fits f b x → x ≤ high → False) (h1 : ∀ x, n ≤ x → x < 2 ^ w → Fits f b x → low ≤ x → m ≤ x) : LeastMem w low high f b n m :=
  Or.inr ⟨m, rfl, hn, ⟨hw, hf, by rw [if_neg hl]; exact Or.inl ha⟩, fun x hx hm => by
    have := hm.range; rw [if_neg hl] at this
    rcases this with h | h
    · exact h1 x hx hm.lt hm.fits h
    · exact (h0 x hx hm.lt hm.fits h).elim⟩
theorem next_over_none (hl : ¬ low ≤ high) (h0 : ∀ x, n ≤ x → x < 2 ^ w → Fits f b x → x ≤ high → False) (h1 : ∀ x, n ≤ x → x < 2 ^ w → Fits f b x → low ≤ x → False) : LeastMem w low high f b n (-1) :=
  Or.inl ⟨rfl, fun x hn hm => by
    have := hm.range; rw [if_neg hl] at this
    rcases this with h | h
    · exact h1 x hn hm.lt hm.fits h
    · exact h0 x hn hm.lt hm.fits h⟩
end Go.Proofs.YtblahbmhbfcggaaGreatDoor
