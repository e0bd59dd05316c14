/- The document's own: a set's only member. -/
import Derived.Test.YtpoaieoldccmiaaGreatVNext2
import Derived.Test.YtpoaieoldccmiaaGreatVTake
namespace Go.Proofs.YtpoaieoldccmiaaGreat
open Go.ChangeShapes Go.WideShapes Go.ChangeAt Go.RowKit Go.Joins Go.Deep
set_option linter.unusedVariables false

def LeastM (M : Nat → Prop) (n : Nat) (r : Int) : Prop := (r = -1 ∧ ∀ x, n ≤ x → ¬ M x) ∨ ∃ m : Nat, r = m ∧ n ≤ m ∧ M m ∧ ∀ x, n ≤ x → M x → m ≤ x
def RNextPost (k : Nat) (no : Bool) (l h f b n : Nat) (w : World) (e : Ending) (w' : World) : Prop := ∃ r : Int, LeastM (MemV k no l h f b) n r ∧ e = .returned (.int .i64 r) ∧ Below w.heap.size w w'
theorem rNext_v (k : Nat) (no : Bool) (l h f b n : Nat) (ok : ValOk k no l h f b) (hn : n ≤ 4294967296) (w : World) :
    Calls Tryz.prog 14 #[valV k no l h f b, .int .i64 n] w (RNextPost k no l h f b n w) := by
  cases no
  · refine (rNext_any k l h f b n ok.setOk hn w).mono ?_
    rintro e w' ⟨r, hr, he, hb⟩
    refine ⟨r, ?_, he, hb⟩
    rcases hr with ⟨h1, h2⟩ | ⟨m, h1, h2, h3, h4⟩
    · exact Or.inl ⟨h1, fun x hx hM => h2 x hx hM.2⟩
    · exact Or.inr ⟨m, h1, h2, ⟨rfl, h3⟩, fun x hx hM => h4 x hx hM.2⟩
  · refine (rNext_no k l h f b n w).mono ?_
    rintro e w' ⟨he, hb⟩
    exact ⟨-1, Or.inl ⟨rfl, fun x hx hM => by cases hM.1⟩, he, hb⟩
def OnlyRes (M : Nat → Prop) (x : Int) (is : Bool) : Prop := (is = true ∧ ∃ m : Nat, x = m ∧ ∀ z, M z ↔ z = m) ∨ (is = false ∧ ∀ m : Nat, ¬ ∀ z, M z ↔ z = m)
def OnlyPost (k : Nat) (no : Bool) (l h f b : Nat) (w : World) (e : Ending) (w' : World) : Prop := ∃ x is, OnlyRes (MemV k no l h f b) x is ∧ e = .returned (.tuple #[.int .i64 x, .bool is]) ∧ Below w.heap.size w w'
set_option maxRecDepth 100000 in
set_option maxHeartbeats 1600000 in
theorem rOnly_v (k : Nat) (no : Bool) (l h f b : Nat) (ok : ValOk k no l h f b) (w : World) :
    Calls Tryz.prog 13 #[valV k no l h f b] w (OnlyPost k no l h f b w) := by
  have d0 := At.new w #[.int .i64 k, .bool no, .int .i64 l, .int .i64 h, .int .i64 f, .int .i64 b] 28
  have hb0 : Below w.heap.size w (w.alloc (.cells #[.int .i64 k, .bool no, .int .i64 l, .int .i64 h, .int .i64 f, .int .i64 b] 28)) := (Below.refl _ _).alloc (Nat.le_refl _) _
  have hp := ok.pat.hk.pow
  have cN := fun w => rNext_v k no l h f b 0 ok (by omega) w
  go_enter Tryz.func13, Tryz.ntmps13
  go_wp2_with fail
  refine (cN _).mono ?_
  rintro e w1 ⟨r, hr, rfl, hb1⟩
  have d1 := At.below' hb1 d0
  have k0 : w1.cell? ⟨w.heap.size, 0, none⟩ = some (.int .i64 k) := d1.cell 0 rfl
  have k1 : w1.cell? ⟨w.heap.size, 1, none⟩ = some (.bool no) := d1.cell 1 rfl
  have k2 : w1.cell? ⟨w.heap.size, 2, none⟩ = some (.int .i64 l) := d1.cell 2 rfl
  have k3 : w1.cell? ⟨w.heap.size, 3, none⟩ = some (.int .i64 h) := d1.cell 3 rfl
  have k4 : w1.cell? ⟨w.heap.size, 4, none⟩ = some (.int .i64 f) := d1.cell 4 rfl
  have k5 : w1.cell? ⟨w.heap.size, 5, none⟩ = some (.int .i64 b) := d1.cell 5 rfl
  have hbE := hb0.trans (hb1.mono hb0.size)
  clear d0 d1 hb0 hb1 cN
  rcases hr with ⟨rfl, hno⟩ | ⟨m, rfl, hm0, hmM, hml⟩
  · have fin : OnlyRes (MemV k no l h f b) (-1) false := Or.inr ⟨rfl, fun m hm => hno m (Nat.zero_le _) ((hm m).2 rfl)⟩
    clear hno
    go_wp2_with fail
    go_ret2
    exact ⟨_, _, fin, rfl, hbE⟩
  · have hmlt : m < 4294967296 := by have := hmM.2.lt; omega
    have cM := fun w => rNext_v k no l h f b (m + 1) ok (by omega) w
    have e1 : ((m + 1 : Nat) : Int) = (m : Int) + 1 := by omega
    rw [e1] at cM
    clear e1
    have t0 : decide ((0 : Int) ≤ (m : Int)) = true := by simp
    go_wp2_with fail
    refine (cM _).mono ?_
    rintro e w2 ⟨r2, hr2, rfl, hb2⟩
    have hbF := hbE.trans (hb2.mono hbE.size)
    clear cM k0 k1 k2 k3 k4 k5 hb2 hbE
    rcases hr2 with ⟨rfl, hno⟩ | ⟨m2, rfl, hm20, hm2M, _⟩
    · have fin : OnlyRes (MemV k no l h f b) m true := Or.inl ⟨rfl, m, rfl, fun z => ⟨fun hz => by
        have h1 := hml z (Nat.zero_le _) hz
        rcases Nat.lt_or_ge z (m + 1) with h2 | h2
        · omega
        · exact absurd hz (hno z h2), fun hz => by rw [hz]; exact hmM⟩⟩
      clear hno hml hmM
      go_wp2_with fail
      go_ret2
      exact ⟨_, _, fin, rfl, hbF⟩
    · have fin : OnlyRes (MemV k no l h f b) m false := Or.inr ⟨rfl, fun q hq => by
        have h1 := (hq m).1 hmM
        have h2 := (hq m2).1 hm2M
        omega⟩
      have t1 : decide ((m2 : Int) < 0) = false := by simp
      clear hml hmM hm2M
      go_wp2_with fail
      go_ret2
      exact ⟨_, _, fin, rfl, hbF⟩
end Go.Proofs.YtpoaieoldccmiaaGreat
