/- Bytes and scalars of package bytes, as plain data: which may be, how a number lies in bytes. Nothing here speaks of one translation. -/
import Derived.Test.YtncdbjflfhfddaaGreatMem
namespace Go.Proofs.YtncdbjflfhfddaaGreat
open Go.ChangeShapes Go.WideShapes Go.ChangeAt Go.RowKit Go.Joins Go.Deep
set_option linter.unusedVariables false

/-- a byte of memory -/
structure BY where
  st : Int
  n : Int
  b : Int
  o : Int
  i : Int
instance : Inhabited BY := ⟨⟨0, 0, 0, 0, 0⟩⟩
/-- a scalar -/
structure SC where
  p : Bool
  n : Int
  b : Int
  o : Int
instance : Inhabited SC := ⟨⟨false, 0, 0, 0⟩⟩
def byV (x : BY) : Value := .agg #[.int .i64 x.st, .int .i64 x.n, .int .i64 x.b, .int .i64 x.o, .int .i64 x.i]
def scV (s : SC) : Value := .agg #[.bool s.p, .int .i64 s.n, .int .i64 s.b, .int .i64 s.o]
def eqY (x y : BY) : Bool := x.st == y.st && x.n == y.n && x.b == y.b && x.o == y.o && x.i == y.i
def eqS (x y : SC) : Bool := x.p == y.p && x.n == y.n && x.b == y.b && x.o == y.o
theorem eqY_iff {x y : BY} : eqY x y = true ↔ x = y := by
  obtain ⟨a, b, c, d, e⟩ := x; obtain ⟨a', b', c', d', e'⟩ := y
  simp [eqY, and_assoc]
theorem eqS_iff {x y : SC} : eqS x y = true ↔ x = y := by
  obtain ⟨a, b, c, d⟩ := x; obtain ⟨a', b', c', d'⟩ := y
  simp [eqS, and_assoc]
theorem eqY_refl (x : BY) : eqY x x = true := eqY_iff.2 rfl
theorem eqS_refl (x : SC) : eqS x x = true := eqS_iff.2 rfl
theorem eqY_dec (x y : BY) : x = y ∨ eqY x y = false := by
  cases h : eqY x y
  · exact Or.inr rfl
  · exact Or.inl (eqY_iff.1 h)
/-- a byte that is nothing, of a number, a part -/
def noY : BY := ⟨0, 0, 0, 0, 0⟩
def digY (n : Int) : BY := ⟨1, n, 0, 0, 0⟩
def parY (b o i : Int) : BY := ⟨2, 0, b, o, i⟩
def upTo (n lo hi : Int) : Bool := decide (lo ≤ n) && decide (n ≤ hi)
/-- a byte that may be -/
def mayY (x : BY) : Bool :=
  if x.st = 0 then eqY x noY
  else if x.st = 1 then upTo x.n 0 255 && (x.b == 0) && (x.o == 0) && (x.i == 0)
  else if x.st = 2 then (x.n == 0) && upTo x.b 1 32 && upTo x.o 0 32 && upTo x.i 0 3
  else false
def maysY (l : List BY) : Bool := l.all mayY
/-- a pointer that may be; a number -/
def mayP (s : SC) : Bool := if s.b = 0 then eqS s ⟨true, 0, 0, 0⟩ else s.p && (s.n == 0) && upTo s.b 1 32 && upTo s.o 0 32
def widI (k : Int) : Int := if k = 1 ∨ k = 2 then 8 else if k = 3 ∨ k = 4 then 16 else if k = 5 ∨ k = 6 then 32 else 0
def mayN (k : Int) (s : SC) : Bool := decide (1 ≤ k ∧ k ≤ 6) && !s.p && (s.b == 0) && (s.o == 0) && decide (0 ≤ s.n) && decide (s.n < 2 ^ (widI k).toNat)
def mayS (k : Int) (s : SC) : Bool := if k = 7 then mayP s else mayN k s
/-- how many bytes -/
def sizN (p k : Int) : Nat := if k = 7 then p.toNat else (widI k / 8).toNat
def mayA (p : Int) : Prop := p = 2 ∨ p = 4
theorem siz_cases {p k : Int} (hp : mayA p) (hk : 1 ≤ k ∧ k ≤ 7) : sizN p k = 1 ∨ sizN p k = 2 ∨ sizN p k = 4 := by
  have : k = 1 ∨ k = 2 ∨ k = 3 ∨ k = 4 ∨ k = 5 ∨ k = 6 ∨ k = 7 := by omega
  rcases hp with rfl | rfl <;> rcases this with rfl | rfl | rfl | rfl | rfl | rfl | rfl <;> decide
/-- how many bits up the byte at a place counts -/
def wtN (big : Bool) (n i : Nat) : Nat := 8 * (if big then n - 1 - i else i)
def digI (n : Int) (up : Nat) : Int := n / 2 ^ up % 256
theorem digI_bd (n : Int) (up : Nat) : 0 ≤ digI n up ∧ digI n up ≤ 255 := by unfold digI; omega
/-- the byte at place i of a scalar of n bytes -/
def putY (big : Bool) (n : Nat) (s : SC) (i : Nat) : BY := if 0 < s.b then parY s.b s.o i else digY (digI s.n (wtN big n i))
def putL (big : Bool) (n : Nat) (s : SC) : List BY := (List.range n).map (putY big n s)
theorem putL_len (big : Bool) (n : Nat) (s : SC) : (putL big n s).length = n := by simp [putL]
theorem putL_get (big : Bool) (n : Nat) (s : SC) (i : Nat) (h : i < n) : (putL big n s).getD i default = putY big n s i := by simp [putL, List.getD, h]

/-- what is counted -/
def isNo (x : BY) : Bool := x.st == 0
def isPa (x : BY) : Bool := x.st == 2
def isZe (x : BY) : Bool := eqY x (digY 0)
def cnt (p : BY → Bool) (l : List BY) : Nat := (l.filter p).length
/-- how many follow, from place k on -/
def cntF (f : BY) : Nat → List BY → Nat
  | _, [] => 0
  | k, x :: r => (if eqY x (parY f.b f.o k) then 1 else 0) + cntF f (k + 1) r
theorem cnt_le (p : BY → Bool) (l : List BY) : cnt p l ≤ l.length := List.length_filter_le _ _
theorem cnt_snoc (p : BY → Bool) (l : List BY) (x : BY) : cnt p (l ++ [x]) = cnt p l + if p x then 1 else 0 := by
  unfold cnt; rw [List.filter_append, List.length_append]; by_cases h : p x = true <;> simp [h]
theorem cntF_snoc (f : BY) (l : List BY) (x : BY) : ∀ k, cntF f k (l ++ [x]) = cntF f k l + if eqY x (parY f.b f.o (k + l.length : Nat)) then 1 else 0 := by
  induction l with
  | nil => intro k; simp [cntF]
  | cons y r ih => intro k; simp only [List.cons_append, cntF, ih, List.length_cons]; rw [show k + 1 + r.length = k + (r.length + 1) by omega]; omega
theorem cntF_le (f : BY) (l : List BY) : ∀ k, cntF f k l ≤ l.length := by
  induction l with
  | nil => intro k; simp [cntF]
  | cons y r ih => intro k; have := ih (k + 1); simp only [cntF, List.length_cons]; split <;> omega
theorem cnt_all {p : BY → Bool} {l : List BY} : cnt p l = l.length ↔ ∀ x ∈ l, p x = true := by unfold cnt; simp [List.length_filter_eq_length_iff]
theorem cnt_zero {p : BY → Bool} {l : List BY} : cnt p l = 0 ↔ ∀ x ∈ l, p x = false := by unfold cnt; simp [List.length_eq_zero_iff, List.filter_eq_nil_iff]
/-- all follow -/
def follB (f : BY) : Nat → List BY → Bool
  | _, [] => true
  | k, x :: r => eqY x (parY f.b f.o k) && follB f (k + 1) r
theorem cntF_all (f : BY) (l : List BY) : ∀ k, cntF f k l = l.length ↔ follB f k l = true := by
  induction l with
  | nil => intro k; simp [cntF, follB]
  | cons y r ih =>
    intro k
    have h1 := cntF_le f r (k + 1)
    have h2 := ih (k + 1)
    simp only [cntF, follB, List.length_cons, Bool.and_eq_true]
    by_cases h : eqY y (parY f.b f.o k) = true
    · simp only [h, if_true, true_and]; rw [← h2]; omega
    · simp only [h]; constructor
      · intro hh; simp at hh; omega
      · intro hh; exact absurd hh.1 (by simp)
theorem follB_get {f : BY} {l : List BY} : ∀ {k : Nat}, follB f k l = true → ∀ j, j < l.length → l.getD j default = parY f.b f.o (k + j : Nat) := by
  induction l with
  | nil => intro k _ j hj; simp at hj
  | cons y r ih =>
    intro k h j hj
    simp only [follB, Bool.and_eq_true] at h
    cases j with
    | zero => simpa using eqY_iff.1 h.1
    | succ j => have := ih h.2 j (by simpa using hj); simp only [List.getD_cons_succ]; rw [this]; congr 2; omega
theorem follB_of {f : BY} {l : List BY} : ∀ {k : Nat}, (∀ j, j < l.length → l.getD j default = parY f.b f.o (k + j : Nat)) → follB f k l = true := by
  induction l with
  | nil => intro k _; rfl
  | cons y r ih =>
    intro k h
    simp only [follB, Bool.and_eq_true]
    refine ⟨eqY_iff.2 (by simpa using h 0 (by simp)), ih fun j hj => ?_⟩
    have := h (j + 1) (by simpa using hj)
    simp only [List.getD_cons_succ] at this
    rw [this]; congr 2; omega

/-- the number that bytes are: summed up from the first on; from the highest on -/
def sumI (big : Bool) (n : Nat) (l : List BY) : Nat → Int
  | 0 => 0
  | i + 1 => sumI big n l i + (l.getD i default).n * 2 ^ wtN big n i
def horI (big : Bool) (n : Nat) (l : List BY) : Nat → Int
  | 0 => 0
  | i + 1 => horI big n l i * 256 + (l.getD (if big then i else n - 1 - i) default).n
theorem sum_hor (big : Bool) (n : Nat) (hn : n = 1 ∨ n = 2 ∨ n = 4) (l : List BY) : sumI big n l n = horI big n l n := by
  rcases hn with rfl | rfl | rfl <;> cases big <;> simp [sumI, horI, wtN] <;> omega
def InB (l : List BY) : Prop := ∀ j, 0 ≤ (l.getD j default).n ∧ (l.getD j default).n ≤ 255
theorem may_n {x : BY} (h : mayY x = true) : 0 ≤ x.n ∧ x.n ≤ 255 := by
  unfold mayY at h
  split at h
  · rw [eqY_iff] at h; subst h; decide
  · split at h
    · simp [upTo] at h; omega
    · split at h
      · simp at h; omega
      · cases h
theorem inB_of {l : List BY} (h : maysY l = true) : InB l := by
  intro j
  by_cases hj : j < l.length
  · have : mayY l[j] = true := by simpa [maysY, List.all_eq_true] using (List.all_eq_true.1 h) l[j] (List.getElem_mem hj)
    simpa [List.getD, hj] using may_n this
  · rw [List.getD_eq_getElem?_getD, List.getElem?_eq_none (by omega)]; decide
theorem hor_bd (big : Bool) (n : Nat) (l : List BY) (h : InB l) : ∀ i, 0 ≤ horI big n l i ∧ horI big n l i < 256 ^ i := by
  intro i
  induction i with
  | zero => simp [horI]
  | succ i ih =>
    have := h (if big then i else n - 1 - i)
    simp only [horI, Int.pow_succ]
    omega
/-- the scalar that bytes are, what goes wrong; the first byte -/
def hdY (l : List BY) : BY := l.getD 0 default
def getR (big : Bool) (k : Int) (l : List BY) : SC × Int :=
  if l.any isNo then (⟨false, 0, 0, 0⟩, 7)
  else if k = 7 then
    if l.all isZe then (⟨true, 0, 0, 0⟩, 0)
    else if follB (hdY l) 0 l then (⟨true, 0, (hdY l).b, (hdY l).o⟩, 0)
    else (⟨false, 0, 0, 0⟩, 8)
  else if l.any isPa then (⟨false, 0, 0, 0⟩, 8)
  else (⟨false, horI big l.length l l.length, 0, 0⟩, 0)
theorem cnt_any {p : BY → Bool} {l : List BY} : 0 < cnt p l ↔ l.any p = true := by
  rw [List.any_eq_true]
  constructor
  · intro h
    have : ¬ cnt p l = 0 := by omega
    rw [cnt_zero] at this
    simpa using this
  · rintro ⟨x, hx, hp⟩
    rcases Nat.eq_zero_or_pos (cnt p l) with h | h
    · rw [cnt_zero] at h; rw [h x hx] at hp; cases hp
    · exact h
end Go.Proofs.YtncdbjflfhfddaaGreat
