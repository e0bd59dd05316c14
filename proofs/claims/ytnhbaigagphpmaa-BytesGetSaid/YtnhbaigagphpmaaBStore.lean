/- A row of bytes of one's own: a byte stored into it, a new one. -/
import Derived.Test.YtnhbaigagphpmaaBEq
import Derived.Laws.MakeOwn
namespace Go.Proofs.Ytnhbaigagphpmaa
open Go.ChangeShapes Go.WideShapes Go.ChangeAt Go.RowKit Go.Joins Go.Deep
set_option linter.unusedVariables false

def byCells (x : BY) : List Value := [.int .i64 x.st, .int .i64 x.n, .int .i64 x.b, .int .i64 x.o, .int .i64 x.i]
def byC (xs : List BY) : Array Value := (xs.flatMap byCells).toArray
theorem byC_size (xs : List BY) : (byC xs).size = xs.length * 5 := by
  unfold byC
  simp only [List.size_toArray]
  induction xs with
  | nil => rfl
  | cons x r ih => simp only [List.flatMap_cons, List.length_append, ih, byCells, List.length_cons, List.length_nil]; omega
theorem flat_get (xs : List BY) : ∀ i, i < xs.length → ∀ c, c < 5 → (xs.flatMap byCells)[i * 5 + c]? = (byCells (xs.getD i default))[c]? := by
  induction xs with
  | nil => intro i h; simp at h
  | cons x r ih =>
    intro i h c hc
    cases i with
    | zero =>
      simp only [List.flatMap_cons, Nat.zero_mul, Nat.zero_add, List.getD_cons_zero]
      rw [List.getElem?_append_left (by simp [byCells]; omega)]
    | succ i =>
      have := ih i (by simpa using h) c hc
      rw [List.flatMap_cons, List.getElem?_append_right (by simp [byCells]; omega), List.getD_cons_succ, ← this]
      congr 1
      simp [byCells]
      omega
theorem byC_get (xs : List BY) (i : Nat) (h : i < xs.length) : (byC xs)[i * 5]? = some (.int .i64 (xs.getD i default).st) ∧ (byC xs)[i * 5 + 1]? = some (.int .i64 (xs.getD i default).n) ∧ (byC xs)[i * 5 + 2]? = some (.int .i64 (xs.getD i default).b) ∧ (byC xs)[i * 5 + 3]? = some (.int .i64 (xs.getD i default).o) ∧ (byC xs)[i * 5 + 4]? = some (.int .i64 (xs.getD i default).i) := by
  have hh := fun c hc => flat_get xs i h c hc
  simp only [byC, List.getElem?_toArray]
  exact ⟨(hh 0 (by decide)).trans rfl, (hh 1 (by decide)).trans rfl, (hh 2 (by decide)).trans rfl, (hh 3 (by decide)).trans rfl, (hh 4 (by decide)).trans rfl⟩
def set5 (cs : Array Value) (k : Nat) (x : BY) : Array Value := ((((cs.set! k (.int .i64 x.st)).set! (k + 1) (.int .i64 x.n)).set! (k + 2) (.int .i64 x.b)).set! (k + 3) (.int .i64 x.o)).set! (k + 4) (.int .i64 x.i)
theorem flat_set (xs : List BY) (x : BY) : ∀ i, i < xs.length → (((((xs.flatMap byCells).set (i * 5) (.int .i64 x.st)).set (i * 5 + 1) (.int .i64 x.n)).set (i * 5 + 2) (.int .i64 x.b)).set (i * 5 + 3) (.int .i64 x.o)).set (i * 5 + 4) (.int .i64 x.i) = (xs.set i x).flatMap byCells := by
  induction xs with
  | nil => intro i h; simp at h
  | cons y r ih =>
    intro i h
    cases i with
    | zero => simp [byCells]
    | succ i =>
      have := ih i (by simpa using h)
      simp only [List.set_cons_succ, List.flatMap_cons, ← this, show (i + 1) * 5 = i * 5 + 5 by omega]
      simp only [byCells, List.cons_append, List.nil_append, List.set_cons_succ, show i * 5 + 5 + 1 = i * 5 + 1 + 5 by omega, show i * 5 + 5 + 2 = i * 5 + 2 + 5 by omega, show i * 5 + 5 + 3 = i * 5 + 3 + 5 by omega, show i * 5 + 5 + 4 = i * 5 + 4 + 5 by omega]
theorem byC_set (xs : List BY) (x : BY) (i : Nat) (h : i < xs.length) : set5 (byC xs) (i * 5) x = byC (xs.set i x) := by
  unfold set5 byC
  rw [← flat_set xs x i h]
  simp
theorem store5 {w : World} {B : Nat} {cs : Array Value} {t : TypeId} (h : At w B cs t) (k : Nat) (hk : k + 4 < cs.size) (x0 x1 x2 x3 x4 : Value) :
    (w.cell? ⟨B, k, none⟩ = some (cs[k]'(by omega)) ∧ w.frozen? ⟨B, k, none⟩ = false)
    ∧ ((w.setCell ⟨B, k, none⟩ x0).cell? ⟨B, k + 1, none⟩ = some (cs[k + 1]'(by omega)) ∧ (w.setCell ⟨B, k, none⟩ x0).frozen? ⟨B, k + 1, none⟩ = false)
    ∧ (((w.setCell ⟨B, k, none⟩ x0).setCell ⟨B, k + 1, none⟩ x1).cell? ⟨B, k + 2, none⟩ = some (cs[k + 2]'(by omega)) ∧ ((w.setCell ⟨B, k, none⟩ x0).setCell ⟨B, k + 1, none⟩ x1).frozen? ⟨B, k + 2, none⟩ = false)
    ∧ ((((w.setCell ⟨B, k, none⟩ x0).setCell ⟨B, k + 1, none⟩ x1).setCell ⟨B, k + 2, none⟩ x2).cell? ⟨B, k + 3, none⟩ = some (cs[k + 3]'(by omega)) ∧ (((w.setCell ⟨B, k, none⟩ x0).setCell ⟨B, k + 1, none⟩ x1).setCell ⟨B, k + 2, none⟩ x2).frozen? ⟨B, k + 3, none⟩ = false)
    ∧ (((((w.setCell ⟨B, k, none⟩ x0).setCell ⟨B, k + 1, none⟩ x1).setCell ⟨B, k + 2, none⟩ x2).setCell ⟨B, k + 3, none⟩ x3).cell? ⟨B, k + 4, none⟩ = some (cs[k + 4]'(by omega)) ∧ ((((w.setCell ⟨B, k, none⟩ x0).setCell ⟨B, k + 1, none⟩ x1).setCell ⟨B, k + 2, none⟩ x2).setCell ⟨B, k + 3, none⟩ x3).frozen? ⟨B, k + 4, none⟩ = false) := by
  have s1 := At.set h k x0 (by omega)
  have s2 := At.set s1 (k + 1) x1 (by simp; omega)
  have s3 := At.set s2 (k + 2) x2 (by simp; omega)
  have s4 := At.set s3 (k + 3) x3 (by simp; omega)
  refine ⟨⟨h.cell k ?_, At.free h _⟩, ⟨s1.cell (k + 1) ?_, At.free s1 _⟩, ⟨s2.cell (k + 2) ?_, At.free s2 _⟩, ⟨s3.cell (k + 3) ?_, At.free s3 _⟩, ⟨s4.cell (k + 4) ?_, At.free s4 _⟩⟩
  all_goals
    simp
    try omega
theorem store5_at {w : World} {B : Nat} {cs : Array Value} {t : TypeId} (h : At w B cs t) (k : Nat) (hk : k + 4 < cs.size) (x : BY) :
    At (((((w.setCell ⟨B, k, none⟩ (.int .i64 x.st)).setCell ⟨B, k + 1, none⟩ (.int .i64 x.n)).setCell ⟨B, k + 2, none⟩ (.int .i64 x.b)).setCell ⟨B, k + 3, none⟩ (.int .i64 x.o)).setCell ⟨B, k + 4, none⟩ (.int .i64 x.i)) B (set5 cs k x) t := by
  have s1 := At.set h k (.int .i64 x.st) (by omega)
  have s2 := At.set s1 (k + 1) (.int .i64 x.n) (by simp; omega)
  have s3 := At.set s2 (k + 2) (.int .i64 x.b) (by simp; omega)
  have s4 := At.set s3 (k + 3) (.int .i64 x.o) (by simp; omega)
  exact At.set s4 (k + 4) (.int .i64 x.i) (by simp; omega)
theorem store5_by {w : World} {B : Nat} {xs : List BY} {t : TypeId} (h : At w B (byC xs) t) (i : Nat) (hi : i < xs.length) (x : BY) :
    At (((((w.setCell ⟨B, i * 5, none⟩ (.int .i64 x.st)).setCell ⟨B, i * 5 + 1, none⟩ (.int .i64 x.n)).setCell ⟨B, i * 5 + 2, none⟩ (.int .i64 x.b)).setCell ⟨B, i * 5 + 3, none⟩ (.int .i64 x.o)).setCell ⟨B, i * 5 + 4, none⟩ (.int .i64 x.i)) B (byC (xs.set i x)) t := by
  rw [← byC_set xs x i hi]
  exact store5_at h (i * 5) (by rw [byC_size]; omega) x
theorem store5_below {C B : Nat} {w0 w : World} (hb : Below C w0 w) (hC : C ≤ B) (k : Nat) (x0 x1 x2 x3 x4 : Value) : Below C w0 (((((w.setCell ⟨B, k, none⟩ x0).setCell ⟨B, k + 1, none⟩ x1).setCell ⟨B, k + 2, none⟩ x2).setCell ⟨B, k + 3, none⟩ x3).setCell ⟨B, k + 4, none⟩ x4) :=
  ((((hb.setCell (p := ⟨B, k, none⟩) hC x0).setCell (p := ⟨B, k + 1, none⟩) hC x1).setCell (p := ⟨B, k + 2, none⟩) hC x2).setCell (p := ⟨B, k + 3, none⟩) hC x3).setCell (p := ⟨B, k + 4, none⟩) hC x4
theorem bys_of_at {w : World} {B n : Nat} {xs : List BY} {t : TypeId} (h : At w B (byC xs) t) (hn : xs.length = n) (hm : n ≤ 1000) : IsBys w (some ⟨B, 0, none⟩) n xs := by
  refine ⟨hm, hn, fun _ => ⟨B, 0, rfl, h.lt, fun i hi => ?_⟩⟩
  obtain ⟨a, b, c, d, e⟩ := byC_get xs i (by omega)
  simp only [Nat.zero_add]
  exact ⟨h.cell _ a, h.cell _ b, h.cell _ c, h.cell _ d, h.cell _ e⟩
theorem Try.infoByte : (Try.prog.info? 67).map (fun i => (i.zero, i.size, i.bytes)) = some (some (.agg #[.int .i64 0, .int .i64 0, .int .i64 0, .int .i64 0, .int .i64 0]), 5, 40) := by kernel_rfl
theorem make_by (n : Nat) (hn : n = 1 ∨ n = 2 ∨ n = 4) (w : World) :
    (Instr.makeSlice 24 (.int .i64 (n : Nat)) (.int .i64 (n : Nat))).run Try.prog w = .ok (.slice (some ⟨w.heap.size, 0, none⟩) n n) (w.alloc (.cells (byC (List.replicate n default)) 67)) := by
  obtain ⟨j0, gi, gz0, gz1, gz2⟩ := info_parts Try.infoByte
  have h := run_make (P := Try.prog) w 24 67 j0 _ Try.underlying24 gi gz0 .i64 .i64 (n : Nat) (n : Nat) (by omega) (by omega) (by rw [gz2]; omega) (by omega)
  rw [h, gz1, Int.toNat_natCast]
  have e : madeCells (Value.agg #[.int .i64 0, .int .i64 0, .int .i64 0, .int .i64 0, .int .i64 0]).cells (n * 5) = byC (List.replicate n default) := by
    refine Array.toList_inj.1 ?_
    rcases hn with rfl | rfl | rfl <;> simp [madeCells, byC, byCells, List.replicate, Value.cells, default, Array.toList_range, List.range_succ]
  rw [e]
end Go.Proofs.Ytnhbaigagphpmaa
