/- A block of memory known whole: what it keeps under allocations, draws, calls that make memory. Nothing here speaks of one translation. -/
import Derived.Test.YtncdbjflfhfddaaGreatBase
import Derived.Laws.Rows
namespace Go.Proofs.YtncdbjflfhfddaaGreat
open Go.ChangeShapes Go.WideShapes Go.ChangeAt Go.RowKit Go.Joins Go.Deep
set_option linter.unusedVariables false

def At (w : World) (b : Nat) (cs : Array Value) (t : TypeId) : Prop := w.heap[b]? = some (.cells cs t (0, 0))
section
variable {w w' : World} {b : Nat} {cs : Array Value} {t : TypeId}
theorem At.lt (h : At w b cs t) : b < w.heap.size := by
  rcases Nat.lt_or_ge b w.heap.size with h' | h'
  · exact h'
  · unfold At at h; rw [Array.getElem?_eq_none h'] at h; cases h
theorem At.cell (h : At w b cs t) (j : Nat) {x : Value} (hx : cs[j]? = some x) : w.cell? ⟨b, j, none⟩ = some x := by
  rw [cell_of_block h]; exact hx
theorem At.free (h : At w b cs t) (j : Nat) : w.frozen? ⟨b, j, none⟩ = false := frozen_of_row w b j _ _ h
theorem At.new (w : World) (cs : Array Value) (t : TypeId) : At (w.alloc (.cells cs t)) w.heap.size cs t := by
  show (w.heap.push _)[w.heap.size]? = _
  simp
theorem At.alloc (h : At w b cs t) (o : Obj) : At (w.alloc o) b cs t := (Below.heap_alloc w o b h.lt).trans h
theorem At.drew (h : At w b cs t) : At w.drew b cs t := h
theorem At.drewN (h : At w b cs t) (n : Nat) : At (w.drewN n) b cs t := h
theorem At.below (h : At w b cs t) {B : Nat} (hb : Below B w w') (hB : b < B) : At w' b cs t := (hb.block b hB).trans h
theorem At.set (h : At w b cs t) (j : Nat) (x : Value) (hj : j < cs.size) : At (w.setCell ⟨b, j, none⟩ x) b (cs.set! j x) t := heap_setCell_same w b j _ _ _ h
end

section
variable {w w' : World}
theorem cell_below {p : Addr} {v : Value} (h : w.cell? p = some v) (hb : Below w.heap.size w w') : w'.cell? p = some v := (hb.cell (World.block_lt_of_cell? w _ h)).trans h
theorem cell_alloc {p : Addr} {v : Value} (h : w.cell? p = some v) (o : Obj) : (w.alloc o).cell? p = some v := (World.cell?_alloc_lt w o p (World.block_lt_of_cell? w _ h)).trans h
theorem keep2_below {p q : Addr} {a b : Value} (h : w.cell? p = some a ∧ w.cell? q = some b) (hb : Below w.heap.size w w') : w'.cell? p = some a ∧ w'.cell? q = some b := ⟨cell_below h.1 hb, cell_below h.2 hb⟩
theorem keep2_alloc {p q : Addr} {a b : Value} (h : w.cell? p = some a ∧ w.cell? q = some b) (o : Obj) : (w.alloc o).cell? p = some a ∧ (w.alloc o).cell? q = some b := ⟨cell_alloc h.1 o, cell_alloc h.2 o⟩
theorem keep3_below {p q r : Addr} {a b c : Value} (h : w.cell? p = some a ∧ w.cell? q = some b ∧ w.cell? r = some c) (hb : Below w.heap.size w w') : w'.cell? p = some a ∧ w'.cell? q = some b ∧ w'.cell? r = some c := ⟨cell_below h.1 hb, cell_below h.2.1 hb, cell_below h.2.2 hb⟩
theorem keep3_alloc {p q r : Addr} {a b c : Value} (h : w.cell? p = some a ∧ w.cell? q = some b ∧ w.cell? r = some c) (o : Obj) : (w.alloc o).cell? p = some a ∧ (w.alloc o).cell? q = some b ∧ (w.alloc o).cell? r = some c := ⟨cell_alloc h.1 o, cell_alloc h.2.1 o, cell_alloc h.2.2 o⟩
theorem keep4_below {p q r s : Addr} {a b c d : Value} (h : w.cell? p = some a ∧ w.cell? q = some b ∧ w.cell? r = some c ∧ w.cell? s = some d) (hb : Below w.heap.size w w') : w'.cell? p = some a ∧ w'.cell? q = some b ∧ w'.cell? r = some c ∧ w'.cell? s = some d := ⟨cell_below h.1 hb, keep3_below h.2 hb⟩
theorem keep4_alloc {p q r s : Addr} {a b c d : Value} (h : w.cell? p = some a ∧ w.cell? q = some b ∧ w.cell? r = some c ∧ w.cell? s = some d) (o : Obj) : (w.alloc o).cell? p = some a ∧ (w.alloc o).cell? q = some b ∧ (w.alloc o).cell? r = some c ∧ (w.alloc o).cell? s = some d := ⟨cell_alloc h.1 o, keep3_alloc h.2 o⟩
theorem keep5_below {p q r s t : Addr} {a b c d e : Value} (h : w.cell? p = some a ∧ w.cell? q = some b ∧ w.cell? r = some c ∧ w.cell? s = some d ∧ w.cell? t = some e) (hb : Below w.heap.size w w') : w'.cell? p = some a ∧ w'.cell? q = some b ∧ w'.cell? r = some c ∧ w'.cell? s = some d ∧ w'.cell? t = some e := ⟨cell_below h.1 hb, keep4_below h.2 hb⟩
theorem keep5_alloc {p q r s t : Addr} {a b c d e : Value} (h : w.cell? p = some a ∧ w.cell? q = some b ∧ w.cell? r = some c ∧ w.cell? s = some d ∧ w.cell? t = some e) (o : Obj) : (w.alloc o).cell? p = some a ∧ (w.alloc o).cell? q = some b ∧ (w.alloc o).cell? r = some c ∧ (w.alloc o).cell? s = some d ∧ (w.alloc o).cell? t = some e := ⟨cell_alloc h.1 o, keep4_alloc h.2 o⟩
theorem keep6_below {p q r s t u : Addr} {a b c d e f : Value} (h : w.cell? p = some a ∧ w.cell? q = some b ∧ w.cell? r = some c ∧ w.cell? s = some d ∧ w.cell? t = some e ∧ w.cell? u = some f) (hb : Below w.heap.size w w') : w'.cell? p = some a ∧ w'.cell? q = some b ∧ w'.cell? r = some c ∧ w'.cell? s = some d ∧ w'.cell? t = some e ∧ w'.cell? u = some f := ⟨cell_below h.1 hb, keep5_below h.2 hb⟩
theorem keep6_alloc {p q r s t u : Addr} {a b c d e f : Value} (h : w.cell? p = some a ∧ w.cell? q = some b ∧ w.cell? r = some c ∧ w.cell? s = some d ∧ w.cell? t = some e ∧ w.cell? u = some f) (o : Obj) : (w.alloc o).cell? p = some a ∧ (w.alloc o).cell? q = some b ∧ (w.alloc o).cell? r = some c ∧ (w.alloc o).cell? s = some d ∧ (w.alloc o).cell? t = some e ∧ (w.alloc o).cell? u = some f := ⟨cell_alloc h.1 o, keep5_alloc h.2 o⟩
end
end Go.Proofs.YtncdbjflfhfddaaGreat
