/- A layout's next member. Plain mathematics. -/
import Derived.Test.YtblahbmhbfcggaaGreatDoorVOnce
namespace Go.Proofs.YtblahbmhbfcggaaGreatDoor
open Go.RowKit

def nf (f lo hi : Nat) : Nat := f &&& (2 ^ blen (lo ^^^ hi) - 1)
def nb (f lo hi : Nat) : Nat := nandn lo (nf f lo hi)
theorem blen_lt {x : Nat} (h : x < 2 ^ 32) : x < 2 ^ blen x := by
  by_cases h0 : x = 0
  · subst h0; rw [blen_zero]; decide
  · exact (blen_spec h h0).2.2
theorem nf_bit (f lo hi i : Nat) : (nf f lo hi).testBit i = (f.testBit i && decide (i < blen (lo ^^^ hi))) := by
  unfold nf; rw [Nat.testBit_and, Nat.testBit_two_pow_sub_one]
theorem nb_bit (f lo hi i : Nat) : (nb f lo hi).testBit i = (lo.testBit i && !(nf f lo hi).testBit i) := by
  unfold nb; rw [nandn_bit]
/-- above what parts the ends all between is as the ends are -/
theorem prefix_bit {lo hi z : Nat} (hl : lo < 2 ^ 32) (hh : hi < 2 ^ 32) (h1 : lo ≤ z) (h2 : z ≤ hi) {i : Nat} (hi2 : blen (lo ^^^ hi) ≤ i) : z.testBit i = lo.testBit i := by
  have hx : lo ^^^ hi < 2 ^ blen (lo ^^^ hi) := blen_lt (Nat.xor_lt_two_pow hl hh)
  generalize blen (lo ^^^ hi) = n at *
  have e : lo / 2 ^ n = hi / 2 ^ n := by
    apply div_eq_of_bits
    intro j hj
    have : (lo ^^^ hi).testBit j = false := Nat.testBit_lt_two_pow (Nat.lt_of_lt_of_le hx (Nat.pow_le_pow_right (by decide) hj))
    rw [Nat.testBit_xor] at this
    simpa using this
  have e1 : lo / 2 ^ n ≤ z / 2 ^ n := Nat.div_le_div_right h1
  have e2 : z / 2 ^ n ≤ hi / 2 ^ n := Nat.div_le_div_right h2
  have e3 : z / 2 ^ n = lo / 2 ^ n := by omega
  have : (z / 2 ^ n).testBit (i - n) = (lo / 2 ^ n).testBit (i - n) := by rw [e3]
  rw [← Nat.shiftRight_eq_div_pow, ← Nat.shiftRight_eq_div_pow, Nat.testBit_shiftRight, Nat.testBit_shiftRight, show n + (i - n) = i by omega] at this
  exact this
theorem nar_fits {f b lo hi z : Nat} (hl : lo < 2 ^ 32) (hh : hi < 2 ^ 32) (hlo : Fits f b lo) (h1 : lo ≤ z) (h2 : z ≤ hi) : Fits (nf f lo hi) (nb f lo hi) z ↔ Fits f b z := by
  constructor
  · intro h i hf
    have hF : (nf f lo hi).testBit i = false := by rw [nf_bit, hf]; rfl
    rw [h i hF, nb_bit, hF, hlo i hf]; simp
  · intro h i hF
    rw [nb_bit, hF]
    simp only [Bool.not_false, Bool.and_true]
    cases hf : f.testBit i
    · rw [h i hf, hlo i hf]
    · have hi2 : blen (lo ^^^ hi) ≤ i := by
        rw [nf_bit, hf] at hF
        simpa using hF
      exact prefix_bit hl hh h1 h2 hi2
theorem nar_ok {k f b lo hi : Nat} (ok : PatOk k f b) (hl : lo < 2 ^ k) : PatOk k (nf f lo hi) (nb f lo hi) :=
  ⟨ok.hk, lt_of_and ok.hf, nandn_lt hl, fun i h => by rw [nb_bit, h]; simp⟩

/-- the members of a layout -/
def MemL (k f b : Nat) (L : Spans) (z : Nat) : Prop := z < 2 ^ k ∧ Fits f b z ∧ InSpans L z
def NextRes (M : Nat → Prop) (n : Nat) (r : Int) (is : Bool) : Prop :=
  (is = true ∧ ∃ m : Nat, r = m ∧ n ≤ m ∧ M m ∧ ∀ z, n ≤ z → M z → m ≤ z) ∨ (is = false ∧ r = 0 ∧ ∀ z, n ≤ z → ¬ M z)

theorem rising_spansOf {k l h : Nat} {no : Bool} : Rising (spansOf k no l h) := by
  unfold spansOf Rising
  split
  · simp
  · split
    · simp
    · simp; omega
theorem inSpans_of {k l h z : Nat} (hz : z < 2 ^ k) : InSpans (spansOf k false l h) z ↔ (if l ≤ h then l ≤ z ∧ z ≤ h else l ≤ z ∨ z ≤ h) := by
  unfold spansOf InSpans
  simp only [Bool.false_eq_true, if_false]
  split
  · simp
  · simp
    constructor
    · rintro (h1 | h1)
      · exact Or.inr h1
      · exact Or.inl h1.1
    · rintro (h1 | h1)
      · exact Or.inr ⟨h1, by omega⟩
      · exact Or.inl h1
theorem memL_mem {k l h f b z : Nat} {L : Spans} (hl : Laid k f b (spansOf k false l h) L) : MemL k f b L z ↔ Mem k l h f b z := by
  constructor
  · rintro ⟨h1, h2, h3⟩
    exact ⟨h1, h2, (inSpans_of h1).1 ((hl.same z h1 h2).2 h3)⟩
  · rintro ⟨h1, h2, h3⟩
    exact ⟨h1, h2, (hl.same z h1 h2).1 ((inSpans_of h1).2 h3)⟩
theorem memL_none {k l h f b z : Nat} {L : Spans} (hl : Laid k f b (spansOf k true l h) L) : ¬ MemL k f b L z := by
  rintro ⟨h1, h2, h3⟩
  obtain ⟨s, hs, _⟩ := (hl.same z h1 h2).2 h3
  simp [spansOf] at hs

/-- the ends of all: the first's low, the last's high -/
theorem ends_bound {L : Spans} (hr : Rising L) (he : ∀ t ∈ L, t.1 ≤ t.2) (h0 : 0 < L.length) {i : Nat} (hi : i < L.length) : (L[0]'h0).1 ≤ L[i].1 ∧ L[i].2 ≤ (L[L.length - 1]'(by omega)).2 := by
  have hp := List.pairwise_iff_getElem.1 hr
  constructor
  · by_cases h : i = 0
    · subst h; exact Nat.le_refl _
    · have := hp 0 i h0 hi (by omega)
      have := he _ (List.getElem_mem h0)
      omega
  · by_cases h : i = L.length - 1
    · subst h; exact Nat.le_refl _
    · have := hp i (L.length - 1) hi (by omega) (by omega)
      have := he _ (List.getElem_mem (h := (by omega : L.length - 1 < L.length)))
      omega
/-- what next finds in the first span that ends not below n -/
theorem next_here {k f b n lo hi : Nat} {L : Spans} (ok : PatOk k f b) (hr : Rising L) (he : ∀ t ∈ L, t.1 ≤ t.2 ∧ t.2 < 2 ^ k ∧ Fits f b t.1 ∧ Fits f b t.2) {i : Nat} (hi' : i < L.length)
    (elo : lo = (L[0]'(by omega)).1) (ehi : hi = (L[L.length - 1]'(by omega)).2) (hbefore : ∀ j (hj : j < i), (L[j]'(by omega)).2 < n) (hn : n ≤ L[i].2) {r : Int} {is : Bool}
    (hres : FromRes k (nf f lo hi) (nb f lo hi) (max n L[i].1) r is) : NextRes (MemL k f b L) n r is := by
  have hp := ok.hk.pow
  have hel := fun t ht => (he t ht).1
  have hi0 := he _ (List.getElem_mem hi')
  have h00 := he _ (List.getElem_mem (h := (by omega : 0 < L.length)))
  have hll := he _ (List.getElem_mem (h := (by omega : L.length - 1 < L.length)))
  obtain ⟨b1, b2⟩ := ends_bound hr hel (by omega) hi'
  rw [← elo] at h00 b1
  rw [← ehi] at hll b2
  have fit := fun z h1 h2 => nar_fits (f := f) (b := b) (lo := lo) (hi := hi) (z := z) (by omega) (by omega) h00.2.2.1 h1 h2
  rcases hres with ⟨rfl, m, rfl, hm⟩ | ⟨rfl, rfl, hm⟩
  · rcases hm with ⟨hneg, _⟩ | ⟨m', hme, h1, h2, h3, h4⟩
    · omega
    · obtain rfl : m = m' := by omega
      have hmax := h4 L[i].2 hi0.2.1 (by omega) ((fit _ (by omega) b2).2 hi0.2.2.2)
      refine Or.inl ⟨rfl, m, rfl, by omega, ⟨by omega, (fit m (by omega) (by omega)).1 h3, L[i], List.getElem_mem hi', by omega, hmax⟩, fun z hz hM => ?_⟩
      obtain ⟨g1, g2, t, ht, g3, g4⟩ := hM
      obtain ⟨j, hj, rfl⟩ := List.getElem_of_mem ht
      obtain ⟨c1, c2⟩ := ends_bound hr hel (by omega) hj
      rw [← elo] at c1
      rw [← ehi] at c2
      rcases Nat.lt_trichotomy j i with hji | hji | hji
      · have := hbefore j hji; omega
      · subst hji
        exact h4 z g1 (by omega) ((fit z (by omega) (by omega)).2 g2)
      · have := List.pairwise_iff_getElem.1 hr i j hi' hj hji
        omega
  · exfalso
    rcases hm with ⟨_, h1⟩ | ⟨m', hme, _⟩
    · exact h1 L[i].2 hi0.2.1 (by omega) ((fit _ (by omega) b2).2 hi0.2.2.2)
    · omega
theorem next_gone {k f b n : Nat} {L : Spans} (h : ∀ j (hj : j < L.length), L[j].2 < n) : NextRes (MemL k f b L) n 0 false := by
  refine Or.inr ⟨rfl, rfl, fun z hz hM => ?_⟩
  obtain ⟨g1, g2, t, ht, g3, g4⟩ := hM
  obtain ⟨j, hj, rfl⟩ := List.getElem_of_mem ht
  have := h j hj
  omega
theorem nar_eq {f b : Nat} {L : Spans} (h0 : 0 < L.length) : narF f L = nf f (L[0]'h0).1 (L[L.length - 1]'(by omega)).2 ∧ narB f b L = nb f (L[0]'h0).1 (L[L.length - 1]'(by omega)).2 := by
  have e1 : L.head? = some (L[0]'h0) := by cases L with
    | nil => exact absurd h0 (by simp)
    | cons x r => rfl
  have e2 : L.getLast? = some (L[L.length - 1]'(by omega)) := by rw [List.getLast?_eq_getElem?, List.getElem?_eq_getElem (by omega)]
  unfold narF narB
  rw [e1, e2]
  exact ⟨rfl, rfl⟩
end Go.Proofs.YtblahbmhbfcggaaGreatDoor

/- Package val: a layout's next member. -/
namespace Go.Proofs.YtblahbmhbfcggaaGreatDoor
open Go.ChangeShapes Go.WideShapes Go.ChangeAt Go.RowKit Go.Joins Go.Deep
set_option linter.unusedVariables false

def NextPostL (k f b : Nat) (L : Spans) (n : Nat) (w : World) (e : Ending) (w' : World) : Prop := ∃ r is, NextRes (MemL k f b L) n r is ∧ e = .returned (.tuple #[.int .i64 r, .bool is]) ∧ Below w.heap.size w w'
def RelNext (L : Spans) (n : Nat) (w : World) (v : Value) (wr : World) : Prop := ∃ j : Nat, j ≤ L.length ∧ v = .int .i64 j ∧ (∀ i (hi : i < L.length), i < j → L[i].2 < n) ∧ Below w.heap.size w wr

set_option maxRecDepth 100000 in
set_option maxHeartbeats 800000 in
theorem next_empty (lo bl k F B f b n : Nat) (c : Int) (w : World) (hlay : LayAt w lo bl k F B [] c) :
    Calls Tryz.prog 153 #[.pointer (some ⟨bl, 0, none⟩), .int .i64 n] w (NextPostL k f b [] n w) := by
  obtain ⟨sl, hA, ⟨_, rfl⟩ | ⟨h0, _⟩, hlen⟩ := hlay
  · have c3 : w.cell? ⟨bl, 3, none⟩ = some (.slice none 0 0) := hA.cell 3 rfl
    clear hA
    have fin : NextRes (MemL k f b []) n 0 false := next_gone (fun j hj => absurd hj (by simp))
    go_enter Tryz.func153, Tryz.ntmps153
    go_wp2
    go_loopw [13] (fun v wr => v = .int .i64 0 ∧ wr = w) (fun v _ => (intOf v).toNat)
    case atStart => exact ⟨rfl, rfl⟩
    case round =>
      obtain ⟨rfl, rfl⟩ := hrel
      go_wp2_with fail
      go_ret2
      exact ⟨_, _, fin, rfl, Below.refl _ _⟩
  · exact absurd h0 (by simp)
set_option maxRecDepth 100000 in
set_option maxHeartbeats 3200000 in
theorem next_w (lo bl k F B f b n g cap m : Nat) (L : Spans) (c : Int) (w : World) (okF : PatOk k F B) (hn : n < 2 ^ k) (hm : m = L.length) (hm2 : m ≤ 1000)
    (hA : At w bl (layC k F B (.slice (some ⟨g, 0, none⟩) m cap) c) 158) (hS : HasSpans w g L) (hlt : ∀ t ∈ L, t.1 < 2 ^ k)
    (here : ∀ i (hi : i < L.length), (∀ j (hj : j < i), (L[j]'(by omega)).2 < n) → n ≤ L[i].2 → ∀ r is, FromRes k F B (max n L[i].1) r is → NextRes (MemL k f b L) n r is)
    (gone : (∀ j (hj : j < L.length), L[j].2 < n) → NextRes (MemL k f b L) n 0 false) :
    Calls Tryz.prog 153 #[.pointer (some ⟨bl, 0, none⟩), .int .i64 n] w (NextPostL k f b L n w) := by
  have c3 : w.cell? ⟨bl, 3, none⟩ = some (.slice (some ⟨g, 0, none⟩) m cap) := hA.cell 3 rfl
  have hp := okF.hk.pow
  have HM := Lib.hid hm
  clear hm
  go_enter Tryz.func153, Tryz.ntmps153
  go_wp2
  go_loopw [13] (fun v wr => RelNext L n w v wr) (fun v _ => m - (intOf v).toNat)
  case atStart => exact ⟨0, by omega, rfl, fun i _ hi => absurd hi (by omega), Below.refl _ _⟩
  case round =>
    obtain ⟨j, hj, rfl, hbef, hb⟩ := hrel
    clear c3
    by_cases hjm : j < m
    · have hjL : j < L.length := by have := HM.out; omega
      obtain ⟨s0, s1, hgl⟩ := hS.at hb hjL
      have hA1 := hA.below hb hA.lt
      have hx := hlt _ (List.getElem_mem hjL)
      have here' := here j hjL (fun i hi => hbef i (by omega) hi)
      have hb2 : L[j].2 < n → ∀ i (hi : i < L.length), i < j + 1 → L[i].2 < n := fun h i hi hi2 => by
        rcases Nat.lt_or_ge i j with h1 | h1
        · exact hbef i hi h1
        · obtain rfl : i = j := by omega
          exact h
      obtain ⟨x, y, hxy⟩ : ∃ x y, L[j] = (x, y) := ⟨_, _, rfl⟩
      rw [hxy] at s0 s1 hx here' hb2
      simp only at s0 s1 hx here' hb2
      have hjm1 : (j : Int) < (m : Int) := by omega
      have hbl := hA1.lt
      have q0 : (wr.alloc (.cells #[.int .i64 x, .int .i64 y] 166)).cell? ⟨bl, 0, none⟩ = some (.int .i64 k) := (hA1.alloc _).cell 0 rfl
      have q1 : (wr.alloc (.cells #[.int .i64 x, .int .i64 y] 166)).cell? ⟨bl, 1, none⟩ = some (.int .i64 F) := (hA1.alloc _).cell 1 rfl
      have q2 : (wr.alloc (.cells #[.int .i64 x, .int .i64 y] 166)).cell? ⟨bl, 2, none⟩ = some (.int .i64 B) := (hA1.alloc _).cell 2 rfl
      have dX := At.new wr #[.int .i64 x, .int .i64 y] 166
      have q3 : (wr.alloc (.cells #[.int .i64 x, .int .i64 y] 166)).cell? ⟨wr.heap.size, 0, none⟩ = some (.int .i64 x) := dX.cell 0 rfl
      have hb3 : Below w.heap.size w (wr.alloc (.cells #[.int .i64 x, .int .i64 y] 166)) := hb.alloc hb.size _
      clear hxy hS hA hA1 here gone dX
      by_cases hny : n ≤ y
      · have t0 : decide (n ≤ y) = true := by simpa using hny
        have fin := here' hny
        have hbz := hb3.size
        have cM : ∀ (z : Int) (hz : z = (max n x : Nat)) (w : World), Calls Tryz.prog 181 #[patV k F B, .int .i64 z] w (FromPost k F B (max n x) w) := by
          intro z hz w
          subst hz
          exact from_any k F B (max n x) okF (by omega) w
        clear here' hb2 hbef
        rcases Nat.lt_or_ge n x with hnx | hnx
        all_goals
          go_wp2_with fail
          go_region_held3 (fun w' => w'.cell? ⟨bl, 0, none⟩ = some (.int .i64 k) ∧ w'.cell? ⟨bl, 1, none⟩ = some (.int .i64 F) ∧ w'.cell? ⟨bl, 2, none⟩ = some (.int .i64 B) ∧ w'.cell? ⟨wr.heap.size, 0, none⟩ = some (.int .i64 x))
            (first
              | exact ⟨q0, q1, q2, q3⟩
              | exact keep4_below (by assumption) hbm)
            ((go_at_call 181; refine (cM _ (by first | omega | (split <;> omega)) _).mono ?_; rintro e w5 ⟨r, is, hres, rfl, hbm⟩))
          all_goals
            have fin2 := fin r is hres
            have hbE : Below w.heap.size w w5 := below_step hbm hb3 rfl rfl rfl rfl hbz
            clear fin cM q0 q1 q2 q3 hbm hres
            go_wp2_with fail
            go_ret2
            exact ⟨_, _, fin2, rfl, hbE⟩
      · have t0 : decide (n ≤ y) = false := by simpa using hny
        have hb4 := hb2 (by omega)
        clear here' hb2 hbef q0 q1 q2 q3
        go_wp2_with fail
        go_roundw
        case rel => exact ⟨j + 1, by omega, by go_num, hb4, hb3⟩
        case measure => simp [intOf]; omega
    · have fin := gone (fun i hi => hbef i hi (by have := HM.out; omega))
      clear here gone hS hA hbef
      go_wp2_with fail
      go_ret2
      exact ⟨_, _, fin, rfl, hb⟩
theorem next_any (lo bl k f b n : Nat) (L S : Spans) (c : Int) (w : World) (ok : PatOk k f b) (hn : n < 2 ^ k) (hl : Laid k f b S L) (hr : Rising L) (hlay : LayAt w lo bl k (narF f L) (narB f b L) L c) :
    Calls Tryz.prog 153 #[.pointer (some ⟨bl, 0, none⟩), .int .i64 n] w (NextPostL k f b L n w) := by
  by_cases h0 : L = []
  · subst h0
    exact next_empty lo bl k _ _ f b n c w hlay
  · obtain ⟨sl, hA, ⟨h1, _⟩ | ⟨hp, g, cap, rfl, hg, hS⟩, hlen⟩ := hlay
    · exact absurd h1 h0
    · obtain ⟨e1, e2⟩ := nar_eq (f := f) (b := b) hp
      rw [e1, e2] at hA
      have h00 := hl.ends _ (List.getElem_mem hp)
      exact next_w lo bl k _ _ f b n g cap L.length L c w (nar_ok ok (by omega)) hn rfl hlen.1 hA hS (fun t ht => by have := hl.ends t ht; omega)
        (fun i hi hbef hni r is hres => next_here ok hr hl.ends hi rfl rfl hbef hni hres) next_gone
end Go.Proofs.YtblahbmhbfcggaaGreatDoor
