/- Frames of many slots as a row in a variable; loops and regions taken out of the translation. -/
import Derived.Test.YtdbbfcnblgokpaaGreatDoorBase
import Derived.Deep.LoopGhost
import Derived.Deep.RegionHeld3
import Derived.Test.YtdbbfcnblgokpaaGreatDoorVWake
namespace Go.Proofs.YtdbbfcnblgokpaaGreatDoor
open Go.ChangeShapes Go.WideShapes Go.ChangeAt Go.RowKit Go.Joins Go.Deep
set_option linter.unusedVariables false

/-- a slot of a frame -/
def sl (t : Array Value) (n : Nat) : Value := t.getD n undef
theorem frame_list (t : Array Value) (n : Nat) (h : t.size = n) : t = ((List.range n).map (sl t)).toArray := by
  apply Array.ext
  · simp [h]
  · intro i h1 h2
    simp [sl, h1]
def firstLoop : Code → Option Code
  | .loop c => some c
  | .seq a b => match firstLoop a with
    | some c => some c
    | none => firstLoop b
  | .block _ c => firstLoop c
  | .scope c => firstLoop c
  | .cond _ a b => match firstLoop a with
    | some c => some c
    | none => firstLoop b
  | _ => none
def findReg (n : Nat) : Code → Option Code
  | .region i ops d => if i = n then some (.region i ops d) else none
  | .loop c => findReg n c
  | .seq a b => match findReg n a with
    | some c => some c
    | none => findReg n b
  | .block _ c => findReg n c
  | .scope c => findReg n c
  | .cond _ a b => match findReg n a with
    | some c => some c
    | none => findReg n b
  | _ => none
theorem noPanic_mono {P : Program} {c : Code} {Q : Exit → Act → World → Prop} {a : Act} {w : World} (h : c.wp P (NoPanic Q) a w) : c.wp P Q a w := Code.wp_mono NoPanic.imp h
end Go.Proofs.YtdbbfcnblgokpaaGreatDoor

/- The document's own Next as one result. -/
namespace Go.Proofs.YtdbbfcnblgokpaaGreatDoor
open Go.ChangeShapes Go.WideShapes Go.ChangeAt Go.RowKit Go.Joins Go.Deep
set_option linter.unusedVariables false

theorem least_ex (M : Nat → Prop) : ∃ r, LeastM M 0 r := by
  by_cases h : ∃ z, M z
  · obtain ⟨z, hz⟩ := h
    have key : ∀ n z, z < n → M z → ∃ m, M m ∧ ∀ x, M x → m ≤ x := by
      intro n
      induction n with
      | zero => intro z hz; omega
      | succ n ih =>
        intro z hz hM
        by_cases h2 : ∃ y, y < n ∧ M y
        · obtain ⟨y, hy, hMy⟩ := h2
          exact ih y hy hMy
        · refine ⟨z, hM, fun x hx => ?_⟩
          rcases Nat.lt_or_ge x n with h3 | h3
          · exact absurd ⟨x, h3, hx⟩ h2
          · omega
    obtain ⟨m, h1, h2⟩ := key (z + 1) z (by omega) hz
    exact ⟨m, Or.inr ⟨m, rfl, Nat.zero_le _, h1, fun x _ hx => h2 x hx⟩⟩
  · exact ⟨-1, Or.inl ⟨rfl, fun x _ hx => h ⟨x, hx⟩⟩⟩
theorem least_one {M : Nat → Prop} {n : Nat} {r s : Int} (h : LeastM M n r) (g : LeastM M n s) : r = s := by
  rcases h with ⟨rfl, h1⟩ | ⟨m, rfl, h1, h2, h3⟩
  · rcases g with ⟨rfl, _⟩ | ⟨m, rfl, g1, g2, _⟩
    · rfl
    · exact absurd g2 (h1 m g1)
  · rcases g with ⟨rfl, g1⟩ | ⟨m', rfl, g1, g2, g3⟩
    · exact absurd h2 (g1 m h1)
    · have := h3 m' g1 g2
      have := g3 m h1 h2
      omega
theorem least_ex_n (M : Nat → Prop) (n : Nat) : ∃ r, LeastM M n r := by
  obtain ⟨r, hr⟩ := least_ex (fun z => n ≤ z ∧ M z)
  rcases hr with ⟨rfl, h⟩ | ⟨m, rfl, _, ⟨h1, h2⟩, h3⟩
  · exact ⟨-1, Or.inl ⟨rfl, fun x hx hM => h x (Nat.zero_le _) ⟨hx, hM⟩⟩⟩
  · exact ⟨m, Or.inr ⟨m, rfl, h1, h2, fun x hx hM => h3 x (Nat.zero_le _) ⟨hx, hM⟩⟩⟩
theorem none_iff {M : Nat → Prop} {r : Int} (h : LeastM M 0 r) : decide (r < 0) = true ↔ ∀ z, ¬ M z := by
  rw [decide_eq_true_iff]
  rcases h with ⟨rfl, h1⟩ | ⟨m, rfl, h1, h2, h3⟩
  · exact ⟨fun _ z => h1 z (Nat.zero_le _), fun _ => by omega⟩
  · exact ⟨fun h => by omega, fun h => absurd h2 (h m)⟩
theorem rNext_g (k : Nat) (no : Bool) (l h f b n : Nat) (ok : ValOk k no l h f b) (hn : n ≤ 4294967296) (r : Int) (hr : LeastM (MemV k no l h f b) n r) (w : World) :
    Calls Tryz.prog 11 #[valV k no l h f b, .int .i64 n] w (fun e w' => e = .returned (.int .i64 r) ∧ Below w.heap.size w w') := by
  refine (rNext_v k no l h f b n ok hn w).mono ?_
  rintro e w' ⟨r', hr', he, hb⟩
  rw [least_one hr hr']
  exact ⟨he, hb⟩
theorem rNext_f (k : Nat) (no : Bool) (l h f b : Nat) (ok : ValOk k no l h f b) (r : Int) (hr : LeastM (MemV k no l h f b) 0 r) (w : World) :
    Calls Tryz.prog 11 #[valV k no l h f b, .int .i64 0] w (fun e w' => e = .returned (.int .i64 r) ∧ Below w.heap.size w w') := rNext_g k no l h f b 0 ok (by omega) r hr w
end Go.Proofs.YtdbbfcnblgokpaaGreatDoor
