/- Memory of package mem, as plain data: which may be, what is loaded, stored, moved. Nothing here speaks of one translation. -/
import Derived.Test.YtnhbaigagphpmaaBOnce
namespace Go.Proofs.Ytnhbaigagphpmaa
open Go.ChangeShapes Go.WideShapes Go.ChangeAt Go.RowKit Go.Joins Go.Deep
set_option linter.unusedVariables false

/-- a block of memory: its state, where its bytes lie, its bytes -/
structure BK where
  st : Int
  q : Option Addr
  c : Nat
  ys : List BY
instance : Inhabited BK := ⟨⟨0, none, 0, []⟩⟩
def bkV (x : BK) : Value := .agg #[.int .i64 x.st, .slice x.q x.ys.length x.c]
/-- what a block is, wherever it lies -/
def datK (x : BK) : Int × List BY := (x.st, x.ys)
def datM (m : List BK) : List (Int × List BY) := m.map datK
/-- a block that may be -/
def mayK (x : BK) : Bool :=
  if x.st = 0 then decide (x.ys.length = 0)
  else if x.st = 2 then decide (x.ys.length = 0)
  else if x.st = 3 then decide (x.ys.length = 0)
  else if x.st = 1 then decide (x.ys.length ≤ 32) && maysY x.ys
  else false
/-- one that is strange at its place -/
def oddK (i : Nat) (x : BK) : Bool := !mayK x || ((i == 0) && !(x.st == 0))
def oddF : Nat → List BK → Nat
  | _, [] => 0
  | k, x :: r => (if oddK k x then 1 else 0) + oddF (k + 1) r
theorem oddF_snoc (l : List BK) (x : BK) : ∀ k, oddF k (l ++ [x]) = oddF k l + if oddK (k + l.length) x then 1 else 0 := by
  induction l with
  | nil => intro k; simp [oddF]
  | cons y r ih => intro k; simp only [List.cons_append, oddF, ih, List.length_cons]; rw [show k + 1 + r.length = k + (r.length + 1) by omega]; omega
theorem oddF_le (l : List BK) : ∀ k, oddF k l ≤ l.length := by
  induction l with
  | nil => intro k; simp [oddF]
  | cons y r ih => intro k; have := ih (k + 1); simp only [oddF, List.length_cons]; split <;> omega
/-- memory that may be -/
def mayM (m : List BK) : Bool := decide (1 ≤ m.length) && decide (m.length ≤ 33) && (oddF 0 m == 0)
theorem oddF_zero {l : List BK} : ∀ {k}, oddF k l = 0 ↔ ∀ j, j < l.length → oddK (k + j) (l.getD j default) = false := by
  induction l with
  | nil => intro k; simp [oddF]
  | cons x r ih =>
    intro k
    simp only [oddF, List.length_cons]
    constructor
    · intro h j hj
      cases hq : oddK k x
      · rw [hq] at h
        cases j with
        | zero => simpa using hq
        | succ j =>
          have := (ih (k := k + 1)).1 (by simpa using h) j (by omega)
          rw [List.getD_cons_succ, show k + (j + 1) = k + 1 + j by omega]; exact this
      · rw [hq] at h; simp at h
    · intro h
      have h0 := h 0 (by omega)
      simp only [Nat.add_zero, List.getD_cons_zero] at h0
      rw [h0]
      have : oddF (k + 1) r = 0 := (ih (k := k + 1)).2 fun j hj => by
        have := h (j + 1) (by omega)
        rw [List.getD_cons_succ, show k + (j + 1) = k + 1 + j by omega] at this; exact this
      simp [this]
theorem mayM_at {m : List BK} (h : mayM m = true) (j : Nat) (hj : j < m.length) : mayK (m.getD j default) = true := by
  unfold mayM at h
  simp only [Bool.and_eq_true, decide_eq_true_eq, beq_iff_eq] at h
  have := oddF_zero.1 h.2 j hj
  unfold oddK at this
  simp only [Bool.or_eq_false_iff, Bool.not_eq_false'] at this
  exact this.1
theorem mayM_len {m : List BK} (h : mayM m = true) : 1 ≤ m.length ∧ m.length ≤ 33 := by
  unfold mayM at h
  simp only [Bool.and_eq_true, decide_eq_true_eq] at h
  exact h.1
theorem mayK_len {x : BK} (h : mayK x = true) : x.ys.length ≤ 32 ∧ maysY x.ys = true := by
  unfold mayK at h
  have e : ∀ l : List BY, l.length = 0 → l.length ≤ 32 ∧ maysY l = true := fun l hl => by
    have : l = [] := List.length_eq_zero_iff.1 hl
    subst this; exact ⟨by decide, rfl⟩
  split at h
  · exact e _ (by simpa using h)
  · split at h
    · exact e _ (by simpa using h)
    · split at h
      · exact e _ (by simpa using h)
      · split at h
        · simpa using h
        · cases h
def atM (m : List BK) (p : SC) : BK := m.getD p.b.toNat default
/-- a pointer that may be, of a block there is, of memory that may be -/
def hasM (m : List BK) (p : SC) : Bool := mayM m && (mayS 7 p && decide (p.b < m.length))
/-- what goes wrong with so many bytes there -/
def reachM (m : List BK) (p : SC) (n : Nat) : Int :=
  if (atM m p).st ≠ 1 then 2
  else if (atM m p).ys.length < p.o + n then 1
  else if p.o % n ≠ 0 then 3
  else 0
end Go.Proofs.Ytnhbaigagphpmaa

/- Memory of package mem, in the world: a slice of blocks, each with its bytes. -/
namespace Go.Proofs.Ytnhbaigagphpmaa
open Go.ChangeShapes Go.WideShapes Go.ChangeAt Go.RowKit Go.Joins Go.Deep
set_option linter.unusedVariables false

/-- one block's two cells, and its bytes -/
def BkCells (w : World) (b o : Nat) (x : BK) : Prop :=
  w.cell? ⟨b, o, none⟩ = some (.int .i64 x.st) ∧ w.cell? ⟨b, o + 1, none⟩ = some (.slice x.q x.ys.length x.c) ∧ IsBys w x.q x.ys.length x.ys ∧ x.ys.length ≤ x.c ∧ (x.q = none → x.c = 0)
/-- a slice of blocks -/
def IsMem (w : World) (p : Option Addr) (len : Nat) (m : List BK) : Prop :=
  len ≤ 1000 ∧ m.length = len ∧ (0 < len → ∃ b off, p = some ⟨b, off, none⟩ ∧ b < w.heap.size ∧ ∀ i, i < len → BkCells w b (off + i * 2) (m.getD i default))
theorem BkCells.below {w w' : World} {b o : Nat} {v : BK} (h : BkCells w b o v) (hb : Below w.heap.size w w') : BkCells w' b o v :=
  ⟨cell_below h.1 hb, cell_below h.2.1 hb, h.2.2.1.below hb, h.2.2.2⟩
theorem IsMem.below {w w' : World} {p : Option Addr} {len : Nat} {m : List BK} (h : IsMem w p len m) (hb : Below w.heap.size w w') : IsMem w' p len m := by
  obtain ⟨a, c, d⟩ := h
  refine ⟨a, c, fun hl => ?_⟩
  obtain ⟨x, off, rfl, hx, hc⟩ := d hl
  exact ⟨x, off, rfl, by have := hb.size; omega, fun i hi => (hc i hi).below hb⟩
theorem take_snocK (l : List BK) (j : Nat) (h : j < l.length) : l.take (j + 1) = l.take j ++ [l.getD j default] := by
  rw [List.take_succ_eq_append_getElem h]; simp [List.getD, h]
/-- a run of a row of bytes is one -/
theorem IsBys.part {w : World} {b off len : Nat} {xs : List BY} (h : IsBys w (some ⟨b, off, none⟩) len xs) (o n : Nat) (ho : o + n ≤ len) : IsBys w (some ⟨b, off + o * 5, none⟩) n ((xs.drop o).take n) := by
  obtain ⟨a, c, d⟩ := h
  refine ⟨by omega, by rw [List.length_take, List.length_drop]; omega, fun hn => ?_⟩
  obtain ⟨b', off', he, hb, hcell⟩ := d (by omega)
  cases he
  refine ⟨b, off + o * 5, rfl, hb, fun i hi => ?_⟩
  have := hcell (o + i) (by omega)
  have e : ((xs.drop o).take n).getD i default = xs.getD (o + i) default := by
    simp only [List.getD_eq_getElem?_getD, List.getElem?_take, List.getElem?_drop, if_pos hi]
  rw [e, show off + o * 5 + i * 5 = off + (o + i) * 5 by omega]
  exact this
theorem mays_part {xs : List BY} (h : maysY xs = true) (o n : Nat) : maysY ((xs.drop o).take n) = true := by
  unfold maysY at *
  rw [List.all_eq_true] at *
  exact fun x hx => h x (List.mem_of_mem_drop (List.mem_of_mem_take hx))
end Go.Proofs.Ytnhbaigagphpmaa
