/- LexJoin: lists in memory, frames, the loops of the statement. -/
import Derived.Test.YtkpiaenpjnajiaaGreatDoorLJoinC
import Derived.Test.YtkpiaenpjnajiaaGreatDoorLRWords
import Derived.Test.YtkpiaenpjnajiaaGreatDoorLToks
import Derived.Test.YtkpiaenpjnajiaaGreatDoorFrames
import Derived.Deep.Cut
import Derived.Deep.CutRange
namespace Go.Proofs.YtkpiaenpjnajiaaGreatDoor
open Go.ChangeShapes Go.WideShapes Go.ChangeAt Go.RowKit Go.Joins Go.Deep
set_option linter.unusedVariables false

theorem open_184 (t : Array Value) (h : t.size = 184) : t = #[sl t 0, sl t 1, sl t 2, sl t 3, sl t 4, sl t 5, sl t 6, sl t 7, sl t 8, sl t 9, sl t 10, sl t 11, sl t 12, sl t 13, sl t 14, sl t 15, sl t 16, sl t 17, sl t 18, sl t 19, sl t 20, sl t 21, sl t 22, sl t 23, sl t 24, sl t 25, sl t 26, sl t 27, sl t 28, sl t 29, sl t 30, sl t 31, sl t 32, sl t 33, sl t 34, sl t 35, sl t 36, sl t 37, sl t 38, sl t 39, sl t 40, sl t 41, sl t 42, sl t 43, sl t 44, sl t 45, sl t 46, sl t 47, sl t 48, sl t 49, sl t 50, sl t 51, sl t 52, sl t 53, sl t 54, sl t 55, sl t 56, sl t 57, sl t 58, sl t 59, sl t 60, sl t 61, sl t 62, sl t 63, sl t 64, sl t 65, sl t 66, sl t 67, sl t 68, sl t 69, sl t 70, sl t 71, sl t 72, sl t 73, sl t 74, sl t 75, sl t 76, sl t 77, sl t 78, sl t 79, sl t 80, sl t 81, sl t 82, sl t 83, sl t 84, sl t 85, sl t 86, sl t 87, sl t 88, sl t 89, sl t 90, sl t 91, sl t 92, sl t 93, sl t 94, sl t 95, sl t 96, sl t 97, sl t 98, sl t 99, sl t 100, sl t 101, sl t 102, sl t 103, sl t 104, sl t 105, sl t 106, sl t 107, sl t 108, sl t 109, sl t 110, sl t 111, sl t 112, sl t 113, sl t 114, sl t 115, sl t 116, sl t 117, sl t 118, sl t 119, sl t 120, sl t 121, sl t 122, sl t 123, sl t 124, sl t 125, sl t 126, sl t 127, sl t 128, sl t 129, sl t 130, sl t 131, sl t 132, sl t 133, sl t 134, sl t 135, sl t 136, sl t 137, sl t 138, sl t 139, sl t 140, sl t 141, sl t 142, sl t 143, sl t 144, sl t 145, sl t 146, sl t 147, sl t 148, sl t 149, sl t 150, sl t 151, sl t 152, sl t 153, sl t 154, sl t 155, sl t 156, sl t 157, sl t 158, sl t 159, sl t 160, sl t 161, sl t 162, sl t 163, sl t 164, sl t 165, sl t 166, sl t 167, sl t 168, sl t 169, sl t 170, sl t 171, sl t 172, sl t 173, sl t 174, sl t 175, sl t 176, sl t 177, sl t 178, sl t 179, sl t 180, sl t 181, sl t 182, sl t 183] := (frame_list t 184 h).trans (by kernel_rfl)
/-- loops that do not stand in one another -/
def loops : Code → List Code
  | .loop c => [c]
  | .seq a b => loops a ++ loops b
  | .block _ c => loops c
  | .scope c => loops c
  | .cond _ a b => loops a ++ loops b
  | _ => []
noncomputable def jBody1 : Code := ((Tryz.f4.body.map loops).getD []).getD 0 .skip
noncomputable def jBody2 : Code := (loops jBody1).getD 0 .skip
noncomputable def jBody3 : Code := ((Tryz.f4.body.map loops).getD []).getD 1 .skip
noncomputable def jBody4 : Code := (loops jBody3).getD 0 .skip
noncomputable def jBody5 : Code := (loops jBody3).getD 1 .skip
/-- a row of lists -/
def RowL (base : Nat) (LL : List (Value × List Txt)) (v : Value) (w : World) : Prop := w.ownsRow base 22 1 v LL.length (LL.map (·.1))
def AllAt (w : World) (LL : List (Value × List Txt)) : Prop := ∀ p ∈ LL, ListAt w p.1 p.2
theorem RowL.nil (base : Nat) (w : World) : RowL base [] (.slice none 0 0) w := ⟨rfl, Or.inl ⟨rfl, rfl⟩⟩
theorem AllAt.keep {w w' : World} {LL : List (Value × List Txt)} (h : AllAt w LL) (hk : KeepS w w') : AllAt w' LL := fun p hp => (h p hp).keep hk
theorem AllAt.below {w w' : World} {LL : List (Value × List Txt)} (h : AllAt w LL) (hb : Below w.heap.size w w') : AllAt w' LL := h.keep (KeepS.of_below hb)
theorem info_ls : (Tryz.prog.info? 22).map (fun i => (i.zero, i.size, i.bytes)) = some (some (.slice none 0 0), 1, 24) := by kernel_rfl
/-- an append to a row of lists leaves rows of texts as they were -/
theorem keepS_grown {w w' : World} {base n : Nat} {v : Value} {xs : List Value} (h : w.ownsRow base 22 1 v n xs) (hg : w.grownBy w' v.ownBlock) : KeepS w w' := by
  intro g cs fr hh
  refine (hg.block g (heap_lt hh) (fun e => ?_)).trans hh
  obtain ⟨hl, ⟨rfl, h0⟩ | ⟨g2, cap, cur, rfl, hbb, hg2, hn, hm, hc, hx⟩⟩ := h
  · cases e
  · simp [Value.ownBlock] at e
    subst e
    rw [hh] at hg2
    injection hg2 with hg2
    injection hg2 with h1 h2 h3
    exact absurd h2 (by decide)
theorem scan_text : ∀ (f : Nat) (p : Bool) (l : List UInt8) (a : Nat), ∀ t ∈ (scan f p l a).1, t.1.length ≤ l.length := by
  intro f
  induction f with
  | zero => intro p l a t ht; simp [scan] at ht
  | succ f ih =>
    intro p l a t ht
    unfold scan at ht
    split at ht
    · simp at ht
    · simp only [List.mem_cons] at ht
      rcases ht with rfl | ht
      · simp only [List.length_take, List.length_drop]; omega
      · have := ih _ _ _ t ht
        rw [List.length_drop] at this
        omega
theorem tellW_text (l : List UInt8) : ∀ t ∈ (tellW l).1, t.1.length ≤ l.length := by
  unfold tellW
  split
  · simp
  · split
    · simp
    · exact scan_text _ _ _ _
end Go.Proofs.YtkpiaenpjnajiaaGreatDoor
