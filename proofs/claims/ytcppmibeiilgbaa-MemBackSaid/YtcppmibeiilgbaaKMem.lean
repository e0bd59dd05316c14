/- Memory of package mem, in the world: a slice of blocks, each with its bytes. -/
import Derived.Test.YtcppmibeiilgbaaKY
namespace Go.Proofs.Ytcppmibeiilgbaa
open Go.ChangeShapes Go.WideShapes Go.ChangeAt Go.RowKit Go.Joins Go.Deep
set_option linter.unusedVariables false

/-- one block's two cells, and its bytes -/
def BkCells (w : World) (b o : Nat) (x : BK) : Prop :=
  w.cell? ⟨b, o, none⟩ = some (.int .i64 x.st) ∧ w.cell? ⟨b, o + 1, none⟩ = some (.slice x.q x.ys.length x.c) ∧ IsBys w x.q x.ys.length x.ys ∧ x.ys.length ≤ x.c ∧ (x.q = none → x.c = 0)
/-- a slice of blocks -/
def IsMem (w : World) (p : Option Addr) (len : Nat) (m : List BK) : Prop :=
  len ≤ 1000 ∧ m.length = len ∧ (0 < len → ∃ b off, p = some ⟨b, off, none⟩ ∧ b < w.heap.size ∧ ∀ i, i < len → BkCells w b (off + i * 2) (m.getD i default))
theorem BkCells.below {w w' : World} {b o : Nat} {v : BK} (h : BkCells w b o v) (hb : Below w.heap.size w w') : BkCells w' b o v :=
  ⟨cell_below h.1 hb, cell_below h.2.1 hb, h.2.2.1.below hb, h.2.2.2⟩
theorem IsMem.below {w w' : World} {p : Option Addr} {len : Nat} {m : List BK} (h : IsMem w p len m) (hb : Below w.heap.size w w') : IsMem w' p len m := by
  obtain ⟨a, c, d⟩ := h
  refine ⟨a, c, fun hl => ?_⟩
  obtain ⟨x, off, rfl, hx, hc⟩ := d hl
  exact ⟨x, off, rfl, by have := hb.size; omega, fun i hi => (hc i hi).below hb⟩
theorem take_snocK (l : List BK) (j : Nat) (h : j < l.length) : l.take (j + 1) = l.take j ++ [l.getD j default] := by
  rw [List.take_succ_eq_append_getElem h]; simp [List.getD, h]
/-- a run of a row of bytes is one -/
theorem IsBys.part {w : World} {b off len : Nat} {xs : List BY} (h : IsBys w (some ⟨b, off, none⟩) len xs) (o n : Nat) (ho : o + n ≤ len) : IsBys w (some ⟨b, off + o * 5, none⟩) n ((xs.drop o).take n) := by
  obtain ⟨a, c, d⟩ := h
  refine ⟨by omega, by rw [List.length_take, List.length_drop]; omega, fun hn => ?_⟩
  obtain ⟨b', off', he, hb, hcell⟩ := d (by omega)
  cases he
  refine ⟨b, off + o * 5, rfl, hb, fun i hi => ?_⟩
  have := hcell (o + i) (by omega)
  have e : ((xs.drop o).take n).getD i default = xs.getD (o + i) default := by
    simp only [List.getD_eq_getElem?_getD, List.getElem?_take, List.getElem?_drop, if_pos hi]
  rw [e, show off + o * 5 + i * 5 = off + (o + i) * 5 by omega]
  exact this
theorem mays_part {xs : List BY} (h : maysY xs = true) (o n : Nat) : maysY ((xs.drop o).take n) = true := by
  unfold maysY at *
  rw [List.all_eq_true] at *
  exact fun x hx => h x (List.mem_of_mem_drop (List.mem_of_mem_take hx))
end Go.Proofs.Ytcppmibeiilgbaa
