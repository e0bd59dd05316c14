/- The document's own Get. -/
import Derived.Test.YtcppmibeiilgbaaGreatBGet
import Derived.Test.YtcppmibeiilgbaaGreatNatBits
namespace Go.Proofs.YtcppmibeiilgbaaGreat
open Go.ChangeShapes Go.WideShapes Go.ChangeAt Go.RowKit Go.Joins Go.Deep
set_option linter.unusedVariables false

theorem getD_mem {l : List BY} {j : Nat} (h : j < l.length) : l.getD j default ∈ l := by simp [List.getD, h]
theorem no_iff {l : List BY} : cnt isNo l = 0 ↔ ∀ j, j < l.length → (l.getD j default).st ≠ 0 := by
  rw [cnt_zero]
  constructor
  · intro h j hj hh
    have := h _ (getD_mem hj)
    rw [isNo, hh] at this
    simp at this
  · intro h x hx
    obtain ⟨j, hj, rfl⟩ := List.getElem_of_mem hx
    have := h j hj
    simp [List.getD, hj] at this
    simp [isNo, this]
theorem may_st {x : BY} (h : mayY x = true) : x.st = 0 ∨ x.st = 1 ∨ x.st = 2 := by
  unfold mayY at h
  split at h
  · exact Or.inl ‹_›
  · split at h
    · exact Or.inr (Or.inl ‹_›)
    · split at h
      · exact Or.inr (Or.inr ‹_›)
      · cases h
theorem may_at {l : List BY} (h : maysY l = true) {j : Nat} (hj : j < l.length) : mayY (l.getD j default) = true := (List.all_eq_true.1 h) _ (getD_mem hj)
theorem may_num {x : BY} (h : mayY x = true) (h1 : x.st = 1) : x = digY x.n := by
  obtain ⟨s, n, b, o, i⟩ := x
  simp only at h1
  subst h1
  rw [mayY_1] at h
  simp at h
  obtain ⟨⟨⟨_, rfl⟩, rfl⟩, rfl⟩ := h
  rfl
theorem may_par {x : BY} (h : mayY x = true) (h1 : x.st = 2) : x = parY x.b x.o x.i ∧ 1 ≤ x.b ∧ x.b ≤ 32 ∧ 0 ≤ x.o ∧ x.o ≤ 32 := by
  obtain ⟨s, n, b, o, i⟩ := x
  simp only at h1
  subst h1
  rw [mayY_2] at h
  simp [upTo] at h
  obtain ⟨⟨⟨rfl, h2⟩, h3⟩, h4⟩ := h
  exact ⟨rfl, h2.1, h2.2, h3.1, h3.2⟩
/-- no part: all are numbers' -/
theorem all_num {l : List BY} (hm : maysY l = true) (h0 : cnt isNo l = 0) (h1 : cnt isPa l = 0) {j : Nat} (hj : j < l.length) : l.getD j default = digY (l.getD j default).n := by
  have h2 := no_iff.1 h0 j hj
  have h3 := cnt_zero.1 h1 _ (getD_mem hj)
  have h4 := may_at hm hj
  rcases may_st h4 with h | h | h
  · exact absurd h h2
  · exact may_num h4 h
  · rw [isPa, h] at h3; simp at h3
theorem ze_iff {l : List BY} : cntOf l 2 = l.length ↔ ∀ j, j < l.length → l.getD j default = digY 0 := by
  show cnt isZe l = l.length ↔ _
  rw [cnt_all]
  constructor
  · intro h j hj; exact eqY_iff.1 (h _ (getD_mem hj))
  · intro h x hx
    obtain ⟨j, hj, rfl⟩ := List.getElem_of_mem hx
    have := h j hj
    simp [List.getD, hj] at this
    exact eqY_iff.2 this
theorem fo_iff {l : List BY} : cntOf l 3 = l.length ↔ ∀ j, j < l.length → l.getD j default = parY (hdY l).b (hdY l).o (j : Nat) := by
  show cntF (hdY l) 0 l = l.length ↔ _
  rw [cntF_all]
  constructor
  · intro h j hj; have := follB_get h j hj; rw [Nat.zero_add] at this; exact this
  · intro h; exact follB_of fun j hj => by rw [Nat.zero_add]; exact h j hj
theorem get_no {big : Bool} {k : Int} {l : List BY} (h : 0 < cnt isNo l) : getS big k l = (noS, 7) := by unfold getS; rw [if_pos (show 0 < cntOf l 0 from h)]
theorem get_p0 {big : Bool} {l : List BY} (h0 : cnt isNo l = 0) : getS big 7 l = ptrR l := by unfold getS; rw [if_neg (show ¬ 0 < cntOf l 0 by show ¬ 0 < cnt isNo l; omega), if_pos rfl]
theorem get_n0 {big : Bool} {k : Int} {l : List BY} (hk : k ≠ 7) (h0 : cnt isNo l = 0) : getS big k l = numR big l := by unfold getS; rw [if_neg (show ¬ 0 < cntOf l 0 by show ¬ 0 < cnt isNo l; omega), if_neg hk]
theorem ptr_null {l : List BY} (hm : maysY l = true) (h0 : cnt isNo l = 0) (h1 : cnt isPa l = 0) (h : ∀ j, j < l.length → (l.getD j default).n = 0) : ptrR l = (⟨true, 0, 0, 0⟩, 0) := by
  unfold ptrR
  rw [if_pos (ze_iff.2 fun j hj => by have := all_num hm h0 h1 hj; rw [this, h j hj])]
theorem ptr_mixed1 {l : List BY} (hm : maysY l = true) (h0 : cnt isNo l = 0) (h1 : cnt isPa l = 0) {j : Nat} (hj : j < l.length) (h : (l.getD j default).n ≠ 0) : ptrR l = (noS, 8) := by
  unfold ptrR
  rw [if_neg (fun hh => h (by rw [ze_iff.1 hh j hj]; rfl)), if_neg (fun hh => by
    have h2 := fo_iff.1 hh j hj
    have h3 := all_num hm h0 h1 hj
    rw [h2] at h3
    have := congrArg BY.st h3
    simp [parY, digY] at this)]
  rfl
theorem ptr_part {l : List BY} (h1 : 0 < cnt isPa l) : ¬ cntOf l 2 = l.length := by
  intro hh
  obtain ⟨x, hx, hp⟩ := List.any_eq_true.1 (cnt_any.1 h1)
  have := cnt_all.1 (show cnt isZe l = l.length from hh) x hx
  rw [eqY_iff.1 this] at hp
  simp [isPa, digY] at hp
theorem ptr_mixed2 {l : List BY} (hl : 0 < l.length) (h1 : 0 < cnt isPa l) (h : (hdY l).st ≠ 2) : ptrR l = (noS, 8) := by
  unfold ptrR
  rw [if_neg (ptr_part h1), if_neg (fun hh => h (by
    have := fo_iff.1 hh 0 hl
    rw [show hdY l = l.getD 0 default from rfl, this]; rfl))]
  rfl
theorem putL_foll {big : Bool} {l : List BY} {b o : Int} (hb : 0 < b) : putL big l.length ⟨true, 0, b, o⟩ = l ↔ ∀ j, j < l.length → l.getD j default = parY b o (j : Nat) := by
  constructor
  · intro h j hj
    rw [← h, putL_get _ _ _ _ (by rw [← h, putL_len]; rw [← h, putL_len] at hj; exact hj)]
    unfold putY
    rw [if_pos hb]
  · intro h
    refine List.ext_getElem (putL_len _ _ _) fun i h1 h2 => ?_
    have h3 := h i h2
    have h4 := putL_get big l.length ⟨true, 0, b, o⟩ i h2
    have h5 : putY big l.length ⟨true, 0, b, o⟩ i = parY b o (i : Nat) := by unfold putY; rw [if_pos hb]
    rw [h5, ← h3] at h4
    simpa [List.getD, h1, h2] using h4
theorem ptr_same {big : Bool} {l : List BY} (hl : 0 < l.length) (hm : maysY l = true) (h1 : 0 < cnt isPa l) (h : (hdY l).st = 2) : ptrR l = if eqLY (putL big l.length ⟨true, 0, (hdY l).b, (hdY l).o⟩) l then (⟨true, 0, (hdY l).b, (hdY l).o⟩, 0) else (noS, 8) := by
  have h2 := (may_par (may_at hm hl) h).2.1
  unfold ptrR
  rw [if_neg (ptr_part h1)]
  by_cases hh : cntOf l 3 = l.length
  · rw [if_pos hh, if_pos (eqLY_iff.2 ((putL_foll (by show 0 < (hdY l).b; exact Int.lt_of_lt_of_le (by decide) h2)).2 (fo_iff.1 hh)))]
  · rw [if_neg hh, if_neg (fun hq => hh (fo_iff.2 ((putL_foll (by show 0 < (hdY l).b; exact Int.lt_of_lt_of_le (by decide) h2)).1 (eqLY_iff.1 hq))))]
    rfl
theorem num_mixed {big : Bool} {l : List BY} (h1 : 0 < cnt isPa l) : numR big l = (noS, 8) := by unfold numR; rw [if_pos (show 0 < cntOf l 1 from h1)]; rfl
theorem num_sum {big : Bool} {l : List BY} (hn : l.length = 1 ∨ l.length = 2 ∨ l.length = 4) (h1 : ¬ 0 < cnt isPa l) : numR big l = (⟨false, horI big l.length l l.length, 0, 0⟩, 0) := by unfold numR; rw [if_neg (show ¬ 0 < cntOf l 1 from h1), sum_hor big _ hn]
theorem or_by (H n : Int) (hH : 0 ≤ H ∧ H ≤ 16777215) (hn : 0 ≤ n ∧ n ≤ 255) : bits .or .i64 (H * 256) n = H * 256 + n := by
  obtain ⟨h1, h2⟩ := hH
  obtain ⟨n1, n2⟩ := hn
  obtain ⟨a, rfl⟩ : ∃ a : Nat, H = a := ⟨H.toNat, by omega⟩
  obtain ⟨c, rfl⟩ : ∃ c : Nat, n = c := ⟨n.toNat, by omega⟩
  have e : (a : Int) * 256 = ((a * 256 : Nat) : Int) := by omega
  rw [e, bits_or (by omega) (by omega)]
  have := Nat.shiftLeft_add_eq_or_of_lt (i := 8) (show c < 2 ^ 8 by omega) a
  rw [Nat.shiftLeft_eq] at this
  rw [show a * 256 = a * 2 ^ 8 by rfl, ← this]
  omega
def RGetPost (s : SC) (bad : Int) (w : World) (e : Ending) (w' : World) : Prop := e = .returned (.tuple #[scA s, .int .i64 bad]) ∧ Below w.heap.size w w'
def RelG1 (xs : List BY) (len : Nat) (v8 v9 : Value) : Prop := ∃ j : Nat, j ≤ len ∧ v9 = .int .i64 (j : Nat) ∧ v8 = .int .i64 (cnt isPa (xs.take j) : Nat) ∧ cnt isNo (xs.take j) = 0
def RelG2 (xs : List BY) (len : Nat) (v : Value) : Prop := ∃ j : Nat, j ≤ len ∧ v = .int .i64 (j : Nat) ∧ ∀ i, i < j → (xs.getD i default).n = 0
def RelG3 (big : Bool) (xs : List BY) (len : Nat) (v12 v13 : Value) : Prop := ∃ j : Nat, j ≤ len ∧ v13 = .int .i64 (j : Nat) ∧ v12 = .int .i64 (horI big len xs j)
end Go.Proofs.YtcppmibeiilgbaaGreat
