/- Package prog: what an expression is made of: parts, uses. -/
import Derived.Test.YtncdbjflfhfddaaGreatGC
import Derived.Test.YtncdbjflfhfddaaGreatGUm
import Derived.Deep.AppendLies
namespace Go.Proofs.YtncdbjflfhfddaaGreat
open Go.ChangeShapes Go.WideShapes Go.ChangeAt Go.RowKit Go.Joins Go.Deep
set_option linter.unusedVariables false

theorem ownsRow_belowG {w w' : World} {base e size : Nat} {v : Value} {n : Nat} {xs : List Value} (h : w.ownsRow base e size v n xs) (hb : Below w.heap.size w w') : w'.ownsRow base e size v n xs := by
  obtain ⟨hl, ⟨h0, h1⟩ | ⟨g, cap, cur, he, hbb, hg, hn, hm, hc, hx⟩⟩ := h
  · exact ⟨hl, Or.inl ⟨h0, h1⟩⟩
  · have hlt : g < w.heap.size := by
      rcases Nat.lt_or_ge g w.heap.size with h' | h'
      · exact h'
      · rw [Array.getElem?_eq_none h'] at hg; cases hg
    exact ⟨hl, Or.inr ⟨g, cap, cur, he, hbb, (hb.block g hlt).trans hg, hn, hm, hc, hx⟩⟩
theorem own_geG {w : World} {base e size : Nat} {v : Value} {n : Nat} {xs : List Value} (h : w.ownsRow base e size v n xs) {k : Nat} (hk : v.ownBlock = some k) : base ≤ k := by
  obtain ⟨hl, ⟨rfl, h0⟩ | ⟨g, cap, cur, rfl, hbb, hg, hn, hm, hc, hx⟩⟩ := h
  · cases hk
  · simp [Value.ownBlock] at hk; omega
/-- a row of numbers of the call's own -/
def RowZ (base : Nat) (l : List Int) (v : Value) (w : World) : Prop := w.ownsRow base 3 1 v l.length (l.map fun x => Value.int .i64 x)
theorem RowZ.nil (base : Nat) (w : World) : RowZ base [] (.slice none 0 0) w := ⟨rfl, Or.inl ⟨rfl, rfl⟩⟩
theorem RowZ.form {base : Nat} {l : List Int} {v : Value} {w : World} (h : RowZ base l v w) : ∃ q c, v = .slice q l.length c := by
  rcases h.2 with ⟨h0, h1⟩ | ⟨g, cap, cur, h0, _⟩
  · exact ⟨none, 0, by rw [h0, h1]⟩
  · exact ⟨_, _, by rw [h0]⟩
theorem RowZ.is {base : Nat} {l : List Int} {v : Value} {w : World} (h : RowZ base l v w) (hl : l.length ≤ maxLen) : IsIs w v l := by
  obtain ⟨_, ⟨rfl, h0⟩ | ⟨g, cap, cur, rfl, hbb, hg, hn, hm, hc, hx⟩⟩ := h
  · exact ⟨none, 0, by rw [h0], hl, by rw [h0]; exact Nat.zero_le _, fun hp => by omega⟩
  · refine ⟨_, cap, rfl, hl, hn, fun _ => ⟨g, 0, rfl, ?_, fun i x hxi => ?_⟩⟩
    · rcases Nat.lt_or_ge g w.heap.size with h' | h'
      · exact h'
      · rw [Array.getElem?_eq_none h'] at hg; cases hg
    · show w.cell? ⟨g, 0 + i * 1, none⟩ = _
      have hi : i < l.length := (List.getElem?_eq_some_iff.1 hxi).1
      rw [cell_of_block hg, Nat.zero_add]
      have h9 : (cur.toList.take (l.length * 1))[i]? = (l.map fun x => Value.int .i64 x)[i]? := by rw [hx]
      rw [List.getElem?_take, if_pos (by omega)] at h9
      rw [List.getElem?_map, hxi] at h9
      simpa using h9
theorem RowZ.bel {base : Nat} {l : List Int} {v : Value} {w w' : World} (h : RowZ base l v w) (hb : Below w.heap.size w w') : RowZ base l v w' := ownsRow_belowG h hb
theorem At.isIs {w : World} {b : Nat} {l : List Int} {t : TypeId} (h : At w b (intA l) t) (hl : l.length ≤ maxLen) : IsIs w (.slice (some ⟨b, 0, none⟩) l.length l.length) l :=
  ⟨_, _, rfl, hl, Nat.le_refl _, fun _ => ⟨b, 0, rfl, h.lt, fun i x hx => by
    show w.cell? ⟨b, 0 + i * 1, none⟩ = _
    rw [Nat.zero_add, Nat.mul_one]
    exact h.cell i (intA_get hx)⟩⟩
def PartsP (x : EX) (w : World) (e : Ending) (w' : World) : Prop := ∃ q B, e = .returned (.slice q (partsL x).length (partsL x).length) ∧ (0 < (partsL x).length → q = some ⟨B, 0, none⟩ ∧ w.heap.size ≤ B ∧ At w' B (intA (partsL x)) 3) ∧ Below w.heap.size w w'
def InP (l : List Int) (n : Int) (w : World) (e : Ending) (w' : World) : Prop := ∃ r : Int, e = .returned (.int .i64 r) ∧ (0 ≤ r ↔ n ∈ l) ∧ w = w'
end Go.Proofs.YtncdbjflfhfddaaGreat
