/- A set's next member: the first of two ranges that holds one. Plain mathematics. -/
import Derived.Test.YtgedkebinidmkaaLeast
namespace Go.Proofs.Ytgedkebinidmkaa

/-- the members of a set of numbers of width w -/
structure Mem (w low high f b x : Nat) : Prop where
  lt : x < 2 ^ w
  fits : Fits f b x
  range : if low ≤ high then low ≤ x ∧ x ≤ high else low ≤ x ∨ x ≤ high

/-- the least number from n on that fits, or -1 -/
def LeastFit (w f b n : Nat) (r : Int) : Prop :=
  (r = -1 ∧ ∀ x, x < 2 ^ w → n ≤ x → ¬ Fits f b x) ∨ ∃ m : Nat, r = m ∧ m < 2 ^ w ∧ n ≤ m ∧ Fits f b m ∧ ∀ x, x < 2 ^ w → n ≤ x → Fits f b x → m ≤ x
def LeastMem (w low high f b n : Nat) (r : Int) : Prop :=
  (r = -1 ∧ ∀ x, n ≤ x → ¬ Mem w low high f b x) ∨ ∃ m : Nat, r = m ∧ n ≤ m ∧ Mem w low high f b m ∧ ∀ x, n ≤ x → Mem w low high f b x → m ≤ x

variable {w low high f b n : Nat}

theorem leastMem_unique {r s : Int} (hr : LeastMem w low high f b n r) (hs : LeastMem w low high f b n s) : r = s := by
  rcases hr with ⟨rfl, h⟩ | ⟨m, rfl, h1, h2, h3⟩
  · rcases hs with ⟨rfl, _⟩ | ⟨k, rfl, k1, k2, _⟩
    · rfl
    · exact absurd k2 (h k k1)
  · rcases hs with ⟨rfl, k⟩ | ⟨k, rfl, k1, k2, k3⟩
    · exact absurd h2 (k m h1)
    · have := h3 k k1 k2
      have := k3 m h1 h2
      omega

/-- one range from a to c: the least that fits from max n a on, if it is not above c -/
theorem one_range {a c : Nat} {r : Int} (hr : LeastFit w f b (max n a) r) :
    (r < 0 ∨ (c : Int) < r → ∀ x, n ≤ x → x < 2 ^ w → Fits f b x → a ≤ x → x ≤ c → False) ∧
    (0 ≤ r → r ≤ c → ∃ m : Nat, r = m ∧ n ≤ m ∧ m < 2 ^ w ∧ Fits f b m ∧ a ≤ m ∧ m ≤ c ∧ ∀ x, n ≤ x → x < 2 ^ w → Fits f b x → a ≤ x → m ≤ x) := by
  rcases hr with ⟨rfl, h⟩ | ⟨m, rfl, h1, h2, h3, h4⟩
  · exact ⟨fun _ x hn hw hf ha _ => h x hw (by omega) hf, fun h0 _ => by omega⟩
  · refine ⟨fun hc x hn hw hf ha hx => ?_, fun _ hc => ⟨m, rfl, by omega, h1, h3, by omega, by omega, fun x hn hw hf ha => h4 x hw (by omega) hf⟩⟩
    have := h4 x hw (by omega) hf
    omega
theorem no_range {a c : Nat} (h : c < max n a) : ∀ x, n ≤ x → a ≤ x → x ≤ c → False := by intro x h1 h2 h3; omega

/-- not over the end: one range -/
theorem next_plain (hl : low ≤ high) (h1 : ∀ x, n ≤ x → x < 2 ^ w → Fits f b x → low ≤ x → x ≤ high → False) : LeastMem w low high f b n (-1) :=
  Or.inl ⟨rfl, fun x hn hm => by have := hm.range; rw [if_pos hl] at this; exact h1 x hn hm.lt hm.fits this.1 this.2⟩
theorem next_plain_some (hl : low ≤ high) {m : Nat} (hn : n ≤ m) (hw : m < 2 ^ w) (hf : Fits f b m) (ha : low ≤ m) (hc : m ≤ high) (h1 : ∀ x, n ≤ x → x < 2 ^ w → Fits f b x → low ≤ x → m ≤ x) : LeastMem w low high f b n m :=
  Or.inr ⟨m, rfl, hn, ⟨hw, hf, by rw [if_pos hl]; exact ⟨ha, hc⟩⟩, fun x hx hm => by have := hm.range; rw [if_pos hl] at this; exact h1 x hx hm.lt hm.fits this.1⟩
/-- over the end: from 0 to high, then from low on -/
theorem next_over_first (hl : ¬ low ≤ high) {m : Nat} (hn : n ≤ m) (hw : m < 2 ^ w) (hf : Fits f b m) (hc : m ≤ high) (h1 : ∀ x, n ≤ x → x < 2 ^ w → Fits f b x → m ≤ x) : LeastMem w low high f b n m :=
  Or.inr ⟨m, rfl, hn, ⟨hw, hf, by rw [if_neg hl]; exact Or.inr hc⟩, fun x hx hm => h1 x hx hm.lt hm.fits⟩
theorem next_over_second (hl : ¬ low ≤ high) {m : Nat} (hn : n ≤ m) (hw : m < 2 ^ w) (hf : Fits f b m) (ha : low ≤ m) (h0 : ∀ x, n ≤ x → x < 2 ^ w → Fits f b x → x ≤ high → False) (h1 : ∀ x, n ≤ x → x < 2 ^ w → Fits f b x → low ≤ x → m ≤ x) : LeastMem w low high f b n m :=
  Or.inr ⟨m, rfl, hn, ⟨hw, hf, by rw [if_neg hl]; exact Or.inl ha⟩, fun x hx hm => by
    have := hm.range; rw [if_neg hl] at this
    rcases this with h | h
    · exact h1 x hx hm.lt hm.fits h
    · exact (h0 x hx hm.lt hm.fits h).elim⟩
theorem next_over_none (hl : ¬ low ≤ high) (h0 : ∀ x, n ≤ x → x < 2 ^ w → Fits f b x → x ≤ high → False) (h1 : ∀ x, n ≤ x → x < 2 ^ w → Fits f b x → low ≤ x → False) : LeastMem w low high f b n (-1) :=
  Or.inl ⟨rfl, fun x hn hm => by
    have := hm.range; rw [if_neg hl] at this
    rcases this with h | h
    · exact h1 x hn hm.lt hm.fits h
    · exact h0 x hn hm.lt hm.fits h⟩
end Go.Proofs.Ytgedkebinidmkaa
