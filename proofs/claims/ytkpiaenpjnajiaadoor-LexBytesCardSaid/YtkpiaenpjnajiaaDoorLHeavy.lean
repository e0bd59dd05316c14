/- What is played: how much texts are. -/
import Derived.Test.YtkpiaenpjnajiaaDoorLToks
import Derived.IntWalk
namespace Go.Proofs.YtkpiaenpjnajiaaDoor
open Go.ChangeShapes Go.WideShapes Go.ChangeAt Go.RowKit Go.Joins Go.Deep
set_option linter.unusedVariables false

def bz : ByteArray := ByteArray.empty
/-- texts that came in: their cells; none larger than memory's reach -/
def InTxts (w : World) (p : Option Addr) (len : Nat) (zs : List ByteArray) : Prop :=
  zs.length = len ∧ (∀ s ∈ zs, s.size ≤ 140737488355328) ∧ (0 < len → ∃ b off, p = some ⟨b, off, none⟩ ∧ b < w.heap.size ∧ ∀ i, i < len → w.cell? ⟨b, off + i, none⟩ = some (.string (zs.getD i bz)))
theorem InTxts.below {w w' : World} {p : Option Addr} {len : Nat} {zs : List ByteArray} (h : InTxts w p len zs) (hb : Below w.heap.size w w') : InTxts w' p len zs := by
  obtain ⟨a, c, d⟩ := h
  refine ⟨a, c, fun hl => ?_⟩
  obtain ⟨x, off, rfl, hx, hc⟩ := d hl
  exact ⟨x, off, rfl, by have := hb.size; omega, fun i hi => (hb.cell (p := ⟨x, off + i, none⟩) hx).trans (hc i hi)⟩
theorem InTxts.size {w : World} {p : Option Addr} {len : Nat} {zs : List ByteArray} (h : InTxts w p len zs) (i : Nat) : (zs.getD i bz).size ≤ 140737488355328 := by
  rcases Nat.lt_or_ge i zs.length with hi | hi
  · exact h.2.1 _ (by rw [List.getD_eq_getElem?_getD, List.getElem?_eq_getElem hi]; exact List.getElem_mem hi)
  · rw [List.getD_eq_getElem?_getD, List.getElem?_eq_none hi]; decide
/-- how much they are, up to more than is played -/
def txF : List ByteArray → Nat → Nat
  | [], n => n
  | x :: r, n => if n < 1048576 then txF r (n + x.size) else n
theorem txF_ge : ∀ (l : List ByteArray) (n : Nat), n ≤ txF l n := by
  intro l
  induction l with
  | nil => intro n; exact Nat.le_refl _
  | cons x r ih =>
    intro n
    unfold txF
    split
    · have := ih (n + x.size); omega
    · exact Nat.le_refl _
theorem txF_le : ∀ (l : List ByteArray) (n : Nat), n ≤ 281474976710656 → (∀ s ∈ l, s.size ≤ 140737488355328) → txF l n ≤ 281474976710656 := by
  intro l
  induction l with
  | nil => intro n h _; exact h
  | cons x r ih =>
    intro n h ha
    unfold txF
    split
    · exact ih _ (by have := ha x (by simp); omega) (fun s hs => ha s (by simp [hs]))
    · exact h
theorem txF_all : ∀ (l : List ByteArray) (n : Nat), txF l n ≤ 7000 → ∀ s ∈ l, s.size ≤ 7000 := by
  intro l
  induction l with
  | nil => intro n _ s hs; simp at hs
  | cons x r ih =>
    intro n h s hs
    have hn := Nat.le_trans (txF_ge (x :: r) n) h
    unfold txF at h
    rw [if_pos (by omega)] at h
    rcases List.mem_cons.1 hs with rfl | hs
    · have := txF_ge r (n + s.size); omega
    · exact ih _ h s hs
theorem txF_step {l : List ByteArray} {i n : Nat} (hi : i < l.length) (hn : n < 1048576) : txF (l.drop i) n = txF (l.drop (i + 1)) (n + (l.getD i bz).size) := by
  rw [List.drop_eq_getElem_cons hi]
  have e : l.getD i bz = l[i] := by simp [List.getD, hi]
  rw [e]
  show (if n < 1048576 then _ else _) = _
  rw [if_pos hn]
theorem txF_big {l : List ByteArray} {n : Nat} (hn : ¬ n < 1048576) : txF l n = n := by
  cases l with
  | nil => rfl
  | cons x r => unfold txF; rw [if_neg hn]
def HeavyP (lS : Nat) (zs : List ByteArray) (w : World) (e : Ending) (w' : World) : Prop := ∃ hv : Bool, e = .returned (.bool hv) ∧ (hv = false → lS ≤ 7000 ∧ ∀ i, (zs.getD i bz).size ≤ 7000) ∧ Below w.heap.size w w'
end Go.Proofs.YtkpiaenpjnajiaaDoor
