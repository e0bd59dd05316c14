/- BytesPut: its walk. -/
import Derived.Test.YtnhbaigagphpmaaBLaw
import Derived.Test.YtnhbaigagphpmaaBOpen
import Derived.Deep.Cut
import Derived.Deep.CutRange
namespace Go.Proofs.Ytnhbaigagphpmaa
open Go.ChangeShapes Go.WideShapes Go.ChangeAt Go.RowKit Go.Joins Go.Deep
set_option linter.unusedVariables false

def scL (x : SC) : List Value := [.bool x.p, .int .i64 x.n, .int .i64 x.b, .int .i64 x.o]
def scCs (xs : List SC) : List Value := xs.flatMap scL
theorem scCs_len (xs : List SC) : (scCs xs).length = xs.length * 4 := by
  induction xs with
  | nil => rfl
  | cons x r ih => simp only [scCs, List.flatMap_cons, List.length_append, scL, List.length_cons, List.length_nil] at ih ⊢; omega
theorem scCs_get (xs : List SC) : ∀ i, i < xs.length → ∀ c, c < 4 → (scCs xs)[i * 4 + c]? = (scL (xs.getD i default))[c]? := by
  induction xs with
  | nil => intro i h; simp at h
  | cons x r ih =>
    intro i h c hc
    cases i with
    | zero =>
      simp only [scCs, List.flatMap_cons, Nat.zero_mul, Nat.zero_add, List.getD_cons_zero]
      rw [List.getElem?_append_left (by simp [scL]; omega)]
    | succ i =>
      have := ih i (by simpa using h) c hc
      unfold scCs at this ⊢
      rw [List.flatMap_cons, List.getElem?_append_right (by simp [scL]; omega), List.getD_cons_succ, ← this]
      congr 1
      simp [scL]
      omega
theorem scCs_one (xs : List SC) : ∀ u ∈ scCs xs, u.oneCell' = true := by
  intro u hu
  simp only [scCs, List.mem_flatMap, scL, List.mem_cons, List.not_mem_nil, or_false] at hu
  obtain ⟨x, _, rfl | rfl | rfl | rfl⟩ := hu <;> rfl
theorem InScs.below {w w' : World} {p : Option Addr} {len cap : Nat} {xs : List SC} (h : InScs w p len cap xs) (hb : Below w.heap.size w w') : InScs w' p len cap xs := by
  obtain ⟨a, c, d⟩ := h
  refine ⟨a, c, fun hl => ?_⟩
  obtain ⟨x, off, rfl, hx, hc⟩ := d hl
  exact ⟨x, off, rfl, by have := hb.size; omega, fun i hi => (hc i hi).below hb⟩
theorem InBys.below {w w' : World} {p : Option Addr} {len cap : Nat} {xs : List BY} (h : InBys w p len cap xs) (hb : Below w.heap.size w w') : InBys w' p len cap xs := by
  obtain ⟨a, e, c, d⟩ := h
  refine ⟨a, e, c, fun hl => ?_⟩
  obtain ⟨x, off, rfl, hx, hc⟩ := d hl
  exact ⟨x, off, rfl, by have := hb.size; omega, fun i hi => (hc i hi).below hb⟩
theorem InScs.yields {w : World} {p : Option Addr} {len cap : Nat} {xs : List SC} (h : InScs w p len cap xs) : Yields w 4 p len cap (scCs xs) := by
  obtain ⟨hl, hn, hc⟩ := h
  refine ⟨by rw [scCs_len, hl], scCs_one xs, ?_⟩
  cases p with
  | none => exact Or.inl ⟨rfl, (hn rfl).1, (hn rfl).2⟩
  | some ad =>
    refine Or.inr ⟨ad, rfl, fun j u hu => ?_⟩
    have hj : j < len * 4 := by
      rcases Nat.lt_or_ge j (len * 4) with h | h
      · exact h
      · rw [List.getElem?_eq_none (by rw [scCs_len, hl]; exact h)] at hu; cases hu
    obtain ⟨b, off, had, _, hcell⟩ := hc (by omega)
    cases had
    obtain ⟨i, c, hc4, rfl⟩ : ∃ i c, c < 4 ∧ j = i * 4 + c := ⟨j / 4, j % 4, Nat.mod_lt _ (by decide), by omega⟩
    have h1 := scCs_get xs i (by omega) c hc4
    rw [hu] at h1
    obtain ⟨c0, c1, c2, c3⟩ := hcell i (by omega)
    rw [add_none]
    have : c = 0 ∨ c = 1 ∨ c = 2 ∨ c = 3 := by omega
    rcases this with rfl | rfl | rfl | rfl <;> simp [scL] at h1 <;> subst h1 <;> rw [← Nat.add_assoc] <;> assumption
def ScRow (w : World) (g m : Nat) (fs : List SC) : Prop := g < w.heap.size ∧ ∀ i, i < m → ScCells w g (i * 4) (fs.getD i default)
theorem ScRow.below {w w' : World} {g m : Nat} {fs : List SC} (h : ScRow w g m fs) (hb : Below w.heap.size w w') : ScRow w' g m fs := ⟨by have := h.1; have := hb.size; omega, fun i hi => (h.2 i hi).below hb⟩
def six : List SC := [⟨false, 0, 0, 0⟩, ⟨false, 200, 0, 0⟩, ⟨false, 4294967295, 0, 0⟩, ⟨true, 0, 0, 0⟩, ⟨true, 0, 3, 5⟩, ⟨true, 0, 0, 1⟩]
theorem Try.infoSc : (Try.prog.info? 33).map (fun i => (i.zero, i.size, i.bytes)) = some (some (.agg #[.bool false, .int .i64 0, .int .i64 0, .int .i64 0]), 4, 32) := by kernel_rfl
def RelK (w0 : World) (v : Value) (wr : World) : Prop := ∃ k : Int, -1 ≤ k ∧ k ≤ 12 ∧ v = .int .i64 k ∧ Below w0.heap.size w0 wr
def RelN (m : Nat) (w0 : World) (v : Value) (wr : World) : Prop := ∃ q : Nat, q ≤ m ∧ v = .int .i64 (q : Nat) ∧ Below w0.heap.size w0 wr
/-- what Put told: a row of its own, or none -/
def PutOut (big : Bool) (p k : Int) (s : SC) (v8 v9 : Value) (w0 wx : World) : Prop :=
  (mayA p ∧ mayS k s = true ∧ ∃ B, v8 = .slice (some ⟨B, 0, none⟩) (sizN p k) (sizN p k) ∧ v9 = .int .i64 0 ∧ w0.heap.size ≤ B ∧ At wx B (byC (putL big (sizN p k) s)) 67 ∧ Below w0.heap.size w0 wx)
  ∨ (¬ (mayA p ∧ mayS k s = true) ∧ v8 = .slice none 0 0 ∧ v9 = .int .i64 1 ∧ Below w0.heap.size w0 wx)
theorem nil_bys (w : World) : IsBys w none 0 [] := ⟨by omega, rfl, fun h => absurd h (by omega)⟩

end Go.Proofs.Ytnhbaigagphpmaa
