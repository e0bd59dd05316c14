/- Kinds' names, keywords: the program's and the document's. -/
import Derived.Test.YtkpiaenpjnajiaaDoorLSmall
namespace Go.Proofs.YtkpiaenpjnajiaaDoor
open Go.ChangeShapes Go.WideShapes Go.ChangeAt Go.RowKit Go.Joins Go.Deep
set_option linter.unusedVariables false

def knN : List (List UInt8) := [[117, 56], [105, 56], [117, 49, 54], [105, 49, 54], [117, 51, 50], [105, 51, 50], [112, 116, 114]]
def kwN : List (List UInt8) := [[118, 97, 114], [115, 116, 114, 117, 99, 116], [117, 110, 105, 111, 110], [105, 102], [101, 108, 115, 101], [119, 104, 105, 108, 101], [114, 101, 97, 100], [110, 101, 119], [102, 114, 101, 101], [115, 116, 111, 112]]
def hasN (L : List (List UInt8)) (l : List UInt8) : Bool := L.contains l
def knB (l : List UInt8) : Bool := knN.contains l
def kwB (l : List UInt8) : Bool := knB l || kwN.contains l
/-- the name of a kind -/
def nam (k : Nat) : ByteArray := ⟨(knN.getD (k - 1) []).toArray⟩
theorem text_eq (s : ByteArray) : s.toList = s.data.toList := ByteArray.toList_eq s
/-- a name in a row of names -/
theorem contains_no {L : List (List UInt8)} {l : List UInt8} (h : ∀ j, j < L.length → L.getD j [] ≠ l) : L.contains l = false := by
  rw [List.contains_eq_any_beq, List.any_eq_false]
  intro x hx
  rw [List.mem_iff_getElem?] at hx
  obtain ⟨j, hj⟩ := hx
  have hlt : j < L.length := (List.getElem?_eq_some_iff.1 hj).1
  have := h j hlt
  rw [List.getD_eq_getElem?_getD, hj] at this
  simp at this
  intro e
  rw [beq_iff_eq] at e
  exact this e.symm
theorem contains_yes {L : List (List UInt8)} {l : List UInt8} {j : Nat} (hj : j < L.length) (h : L.getD j [] = l) : L.contains l = true := by
  have hm : l ∈ L := by
    rw [← h, List.getD_eq_getElem?_getD, List.getElem?_eq_getElem hj]
    exact List.getElem_mem _
  simpa [List.contains_iff_mem] using hm
theorem eq_txt {l : List UInt8} {s : ByteArray} (h : l = s.data.toList) : ((⟨l.toArray⟩ : ByteArray).toList == s.toList) = true := by
  rw [text_eq, text_eq, beq_iff_eq, ← h]
theorem ne_txt {l : List UInt8} {s : ByteArray} (h : l ≠ s.data.toList) : ((⟨l.toArray⟩ : ByteArray).toList == s.toList) = false := by
  rw [text_eq, text_eq, beq_eq_false_iff_ne]
  exact h
def KindP (b : Bool) (w : World) (e : Ending) (w' : World) : Prop := ∃ k : Nat, e = .returned (.tuple #[.int .i64 (k : Nat), .int .i64 (if b then 0 else 3)]) ∧ w = w'
/-- a row of names in memory -/
def NamesAt (w : World) (g n : Nat) (L : List (List UInt8)) : Prop := L.length = n ∧ ∀ i, i < n → w.cell? ⟨g, i, none⟩ = some (.string ⟨(L.getD i []).toArray⟩)
theorem names8 (w : World) : NamesAt (w.alloc (.cells #[.string ⟨#[]⟩, .string ⟨#[117, 56]⟩, .string ⟨#[105, 56]⟩, .string ⟨#[117, 49, 54]⟩, .string ⟨#[105, 49, 54]⟩, .string ⟨#[117, 51, 50]⟩, .string ⟨#[105, 51, 50]⟩, .string ⟨#[112, 116, 114]⟩] 9)) w.heap.size 8 ([] :: knN) := by
  refine ⟨rfl, fun i hi => ?_⟩
  rw [cell_of_block (At.new w #[.string ⟨#[]⟩, .string ⟨#[117, 56]⟩, .string ⟨#[105, 56]⟩, .string ⟨#[117, 49, 54]⟩, .string ⟨#[105, 49, 54]⟩, .string ⟨#[117, 51, 50]⟩, .string ⟨#[105, 51, 50]⟩, .string ⟨#[112, 116, 114]⟩] 9)]
  match i, hi with
  | 0, _ => rfl
  | 1, _ => rfl
  | 2, _ => rfl
  | 3, _ => rfl
  | 4, _ => rfl
  | 5, _ => rfl
  | 6, _ => rfl
  | 7, _ => rfl
  | n + 8, h => exact absurd h (by omega)
theorem names10 (w : World) : NamesAt (w.alloc (.cells #[.string ⟨#[118, 97, 114]⟩, .string ⟨#[115, 116, 114, 117, 99, 116]⟩, .string ⟨#[117, 110, 105, 111, 110]⟩, .string ⟨#[105, 102]⟩, .string ⟨#[101, 108, 115, 101]⟩, .string ⟨#[119, 104, 105, 108, 101]⟩, .string ⟨#[114, 101, 97, 100]⟩, .string ⟨#[110, 101, 119]⟩, .string ⟨#[102, 114, 101, 101]⟩, .string ⟨#[115, 116, 111, 112]⟩] 9)) w.heap.size 10 kwN := by
  refine ⟨rfl, fun i hi => ?_⟩
  rw [cell_of_block (At.new w #[.string ⟨#[118, 97, 114]⟩, .string ⟨#[115, 116, 114, 117, 99, 116]⟩, .string ⟨#[117, 110, 105, 111, 110]⟩, .string ⟨#[105, 102]⟩, .string ⟨#[101, 108, 115, 101]⟩, .string ⟨#[119, 104, 105, 108, 101]⟩, .string ⟨#[114, 101, 97, 100]⟩, .string ⟨#[110, 101, 119]⟩, .string ⟨#[102, 114, 101, 101]⟩, .string ⟨#[115, 116, 111, 112]⟩] 9)]
  match i, hi with
  | 0, _ => rfl
  | 1, _ => rfl
  | 2, _ => rfl
  | 3, _ => rfl
  | 4, _ => rfl
  | 5, _ => rfl
  | 6, _ => rfl
  | 7, _ => rfl
  | 8, _ => rfl
  | 9, _ => rfl
  | n + 10, h => exact absurd h (by omega)
def NamesP (w : World) (e : Ending) (w' : World) : Prop := ∃ g, e = .returned (.slice (some ⟨g, 0, none⟩) 8 8) ∧ NamesAt w' g 8 ([] :: knN) ∧ Below w.heap.size w w'
def RKindP (b : Bool) (w : World) (e : Ending) (w' : World) : Prop := ∃ k : Nat, k ≤ 7 ∧ e = .returned (.int .i64 (k : Nat)) ∧ (b = true → 0 < k) ∧ (b = false → k = 0) ∧ Below w.heap.size w w'
end Go.Proofs.YtkpiaenpjnajiaaDoor
