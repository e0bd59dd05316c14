/- Frames of many slots as a row in a variable; loops and regions taken out of the translation. -/
import Derived.Test.YtncdbjflfhfddaaGreatBase
import Derived.Deep.LoopGhost
import Derived.Deep.RegionHeld3
import Derived.Test.YtncdbjflfhfddaaGreatGTp
import Derived.Test.YtncdbjflfhfddaaGreatGTn
import Derived.Deep.Cut
import Derived.Deep.CutRange
import Derived.Deep.CutBlock
namespace Go.Proofs.YtncdbjflfhfddaaGreat
open Go.ChangeShapes Go.WideShapes Go.ChangeAt Go.RowKit Go.Joins Go.Deep
set_option linter.unusedVariables false

/-- a slot of a frame -/
def sl (t : Array Value) (n : Nat) : Value := t.getD n undef
theorem frame_list (t : Array Value) (n : Nat) (h : t.size = n) : t = ((List.range n).map (sl t)).toArray := by
  apply Array.ext
  · simp [h]
  · intro i h1 h2
    simp [sl, h1]
def firstLoop : Code → Option Code
  | .loop c => some c
  | .seq a b => match firstLoop a with
    | some c => some c
    | none => firstLoop b
  | .block _ c => firstLoop c
  | .scope c => firstLoop c
  | .cond _ a b => match firstLoop a with
    | some c => some c
    | none => firstLoop b
  | _ => none
def findReg (n : Nat) : Code → Option Code
  | .region i ops d => if i = n then some (.region i ops d) else none
  | .loop c => findReg n c
  | .seq a b => match findReg n a with
    | some c => some c
    | none => findReg n b
  | .block _ c => findReg n c
  | .scope c => findReg n c
  | .cond _ a b => match findReg n a with
    | some c => some c
    | none => findReg n b
  | _ => none
theorem noPanic_mono {P : Program} {c : Code} {Q : Exit → Act → World → Prop} {a : Act} {w : World} (h : c.wp P (NoPanic Q) a w) : c.wp P Q a w := Code.wp_mono NoPanic.imp h
end Go.Proofs.YtncdbjflfhfddaaGreat

/- near: the frames of its switch. -/
namespace Go.Proofs.YtncdbjflfhfddaaGreat
open Go.ChangeShapes Go.WideShapes Go.ChangeAt Go.RowKit Go.Joins Go.Deep
set_option linter.unusedVariables false

theorem modC {a r n : Nat} {c : Int} (hc : c = (n : Int)) (hn : 0 < n) (h : r = a % n) : (a : Int).tmod c = (r : Int) := by subst hc h; rw [Int.tmod_eq_emod_of_nonneg (by omega)]; push_cast; rfl
def findBlk (n : Nat) : Code → Option Code
  | .block i c => if i = n then some (.block i c) else findBlk n c
  | .loop c => findBlk n c
  | .seq a b => match findBlk n a with
    | some c => some c
    | none => findBlk n b
  | .scope c => findBlk n c
  | .cond _ a b => match findBlk n a with
    | some c => some c
    | none => findBlk n b
  | _ => none
noncomputable def swC : Code := (Tryz.f5.body.bind (findBlk 2)).getD .skip
theorem open_150 (t : Array Value) (h : t.size = 150) : t = #[sl t 0, sl t 1, sl t 2, sl t 3, sl t 4, sl t 5, sl t 6, sl t 7, sl t 8, sl t 9, sl t 10, sl t 11, sl t 12, sl t 13, sl t 14, sl t 15, sl t 16, sl t 17, sl t 18, sl t 19, sl t 20, sl t 21, sl t 22, sl t 23, sl t 24, sl t 25, sl t 26, sl t 27, sl t 28, sl t 29, sl t 30, sl t 31, sl t 32, sl t 33, sl t 34, sl t 35, sl t 36, sl t 37, sl t 38, sl t 39, sl t 40, sl t 41, sl t 42, sl t 43, sl t 44, sl t 45, sl t 46, sl t 47, sl t 48, sl t 49, sl t 50, sl t 51, sl t 52, sl t 53, sl t 54, sl t 55, sl t 56, sl t 57, sl t 58, sl t 59, sl t 60, sl t 61, sl t 62, sl t 63, sl t 64, sl t 65, sl t 66, sl t 67, sl t 68, sl t 69, sl t 70, sl t 71, sl t 72, sl t 73, sl t 74, sl t 75, sl t 76, sl t 77, sl t 78, sl t 79, sl t 80, sl t 81, sl t 82, sl t 83, sl t 84, sl t 85, sl t 86, sl t 87, sl t 88, sl t 89, sl t 90, sl t 91, sl t 92, sl t 93, sl t 94, sl t 95, sl t 96, sl t 97, sl t 98, sl t 99, sl t 100, sl t 101, sl t 102, sl t 103, sl t 104, sl t 105, sl t 106, sl t 107, sl t 108, sl t 109, sl t 110, sl t 111, sl t 112, sl t 113, sl t 114, sl t 115, sl t 116, sl t 117, sl t 118, sl t 119, sl t 120, sl t 121, sl t 122, sl t 123, sl t 124, sl t 125, sl t 126, sl t 127, sl t 128, sl t 129, sl t 130, sl t 131, sl t 132, sl t 133, sl t 134, sl t 135, sl t 136, sl t 137, sl t 138, sl t 139, sl t 140, sl t 141, sl t 142, sl t 143, sl t 144, sl t 145, sl t 146, sl t 147, sl t 148, sl t 149] := (frame_list t 150 h).trans (by kernel_rfl)
/-- the slots that the switch leaves -/
def KeepN (t t' : Array Value) : Prop := t'.size = 150 ∧ sl t' 0 = sl t 0 ∧ sl t' 1 = sl t 1 ∧ sl t' 2 = sl t 2 ∧ sl t' 3 = sl t 3 ∧ sl t' 4 = sl t 4 ∧ sl t' 5 = sl t 5 ∧ sl t' 6 = sl t 6 ∧ sl t' 7 = sl t 7 ∧ sl t' 8 = sl t 8 ∧ sl t' 11 = sl t 11 ∧ sl t' 12 = sl t 12 ∧ sl t' 149 = sl t 149
def FrN (t : Array Value) (kz : Int) (a bx : Nat) : Prop := t.size = 150 ∧ sl t 6 = .int .i64 kz ∧ sl t 7 = .pointer (some ⟨bx, 0, none⟩) ∧ sl t 8 = .int .i64 (a : Nat) ∧ sl t 25 = .int .i64 kz
end Go.Proofs.YtncdbjflfhfddaaGreat
