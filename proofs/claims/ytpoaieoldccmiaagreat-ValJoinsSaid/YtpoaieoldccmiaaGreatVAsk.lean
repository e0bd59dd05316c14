/- Package val: Has, Next, Check, Empty, Single; One, All, No. -/
import Derived.Test.YtpoaieoldccmiaaGreatVTake
namespace Go.Proofs.YtpoaieoldccmiaaGreat
open Go.ChangeShapes Go.WideShapes Go.ChangeAt Go.RowKit Go.Joins Go.Deep
set_option linter.unusedVariables false

theorem isWn.isW {k : Nat} (h : isWn k) : isW (k : Int) := by rcases h with rfl | rfl | rfl <;> simp [Go.Proofs.YtpoaieoldccmiaaGreat.isW]
theorem isN_nat {n k : Nat} (h : n < 2 ^ k) : isN (n : Int) (k : Int) := ⟨by omega, by simpa using (by exact_mod_cast h : (n : Int) < (2 : Int) ^ k)⟩
theorem nat_isN {n : Int} {k : Nat} (h : isN n k) : ∃ m : Nat, n = m ∧ m < 2 ^ k := by
  obtain ⟨h0, h1⟩ := h
  refine ⟨n.toNat, by omega, ?_⟩
  have : (n.toNat : Int) < ((2 ^ k : Nat) : Int) := by
    rw [Int.toNat_of_nonneg h0]
    simpa using h1
  omega
theorem hasR {M : Nat → Prop} {n : Nat} {r : Int} {is : Bool} (h : NextRes M n r is) : (is && r == (n : Int)) = true ↔ M n := by
  rcases h with ⟨rfl, m, rfl, h1, h2, h3⟩ | ⟨rfl, rfl, h3⟩
  · simp
    constructor
    · intro e
      have : m = n := by omega
      subst this; exact h2
    · intro hn
      have := h3 n (Nat.le_refl _) hn
      omega
  · simp
    exact h3 n (Nat.le_refl _)

set_option maxRecDepth 100000 in
set_option maxHeartbeats 800000 in
theorem Has_no (k : Int) (no : Bool) (l h f b n : Int) (hm : mayB k no l h f b = false) (w : World) :
    Calls Tryz.prog 34 #[valV k no l h f b, .int .i64 n] w (HasNo w) := by
  have hb0 : Below w.heap.size w (w.alloc (.cells #[.int .i64 k, .bool no, .int .i64 l, .int .i64 h, .int .i64 f, .int .i64 b] 28)) := (Below.refl _ _).alloc (Nat.le_refl _) _
  have cT := fun w => takeWith_no k no l h f b n hm w
  clear hm
  go_enter Tryz.func34, Tryz.ntmps34
  go_wp2_with fail
  refine (cT _).mono ?_
  rintro e w1 ⟨rfl, hb1⟩
  have hbE := hb0.trans (hb1.mono hb0.size)
  clear hb0 hb1 cT
  go_wp2_with fail
  go_ret2
  exact ⟨rfl, hbE⟩

set_option maxRecDepth 100000 in
set_option maxHeartbeats 800000 in
theorem Has_out (k : Nat) (no : Bool) (l h f b : Nat) (n : Int) (hm : mayB k no l h f b = true) (hn : ¬ isN n k) (w : World) :
    Calls Tryz.prog 34 #[valV k no l h f b, .int .i64 n] w (HasNo w) := by
  have hb0 : Below w.heap.size w (w.alloc (.cells #[.int .i64 k, .bool no, .int .i64 l, .int .i64 h, .int .i64 f, .int .i64 b] 28)) := (Below.refl _ _).alloc (Nat.le_refl _) _
  have cT := fun w => takeWith_out k no l h f b n hm hn w
  clear hm
  go_enter Tryz.func34, Tryz.ntmps34
  go_wp2_with fail
  refine (cT _).mono ?_
  rintro e w1 ⟨rfl, hb1⟩
  have hbE := hb0.trans (hb1.mono hb0.size)
  clear hb0 hb1 cT
  go_wp2_with fail
  go_ret2
  exact ⟨rfl, hbE⟩

set_option maxRecDepth 100000 in
set_option maxHeartbeats 1600000 in
theorem Has_yes (k : Nat) (no : Bool) (l h f b n : Nat) (ok : ValOk k no l h f b) (hm : mayB k no l h f b = true) (hn : n < 2 ^ k) (w : World) :
    Calls Tryz.prog 34 #[valV k no l h f b, .int .i64 n] w (HasOk k no l h f b n w) := by
  have hb0 : Below w.heap.size w (w.alloc (.cells #[.int .i64 k, .bool no, .int .i64 l, .int .i64 h, .int .i64 f, .int .i64 b] 28)) := (Below.refl _ _).alloc (Nat.le_refl _) _
  have cT := fun w => takeWith_yes k no l h f b n hm ok.pat.hk.isW (isN_nat hn) w
  clear hm
  go_enter Tryz.func34, Tryz.ntmps34
  go_wp2_with fail
  refine (cT _).mono ?_
  rintro e w1 ⟨sb, rfl, hS, hsb, hb1⟩
  have hbE := hb0.trans (hb1.mono hb0.size)
  have hsb2 : w.heap.size ≤ sb := by have := hb0.size; omega
  clear hb0 hb1 hsb
  go_wp2_with fail
  refine (layout_first sb k no l h f b ok _ hS).mono ?_
  rintro e w2 ⟨bl, rfl, hL, hK⟩
  have hbE2 := hbE.trans (hK.below hsb2 hbE.size)
  clear hS hK hbE
  go_wp2_with fail
  refine (next_set sb _ bl k no l h f b n ok hn _ hL).mono ?_
  rintro e w3 ⟨r, is, hres, rfl, hbN⟩
  have hbF := hbE2.trans (hbN.mono hbE2.size)
  clear hL hbN hbE2
  have hr := hasR hres
  have fin : HasOk k no l h f b n w (.returned (.tuple #[.bool (is && r == (n : Int)), .int .i64 0])) w3 := ⟨_, hr, rfl, hbF⟩
  clear hres hr hbF
  cases is
  · go_wp2_with fail
    go_ret2
    simpa using fin
  · go_wp2_with fail
    go_ret2
    simpa using fin

def CheckPost (r : Int) (w : World) (e : Ending) (w' : World) : Prop := e = .returned (.int .i64 r) ∧ Below w.heap.size w w'
def EmptyPost (is : Bool) (e0 : Int) (w : World) (e : Ending) (w' : World) : Prop := e = .returned (.tuple #[.bool is, .int .i64 e0]) ∧ Below w.heap.size w w'
def SinglePost (is : Bool) (n e0 : Int) (w : World) (e : Ending) (w' : World) : Prop := e = .returned (.tuple #[.bool is, .int .i64 n, .int .i64 e0]) ∧ Below w.heap.size w w'
end Go.Proofs.YtpoaieoldccmiaaGreat
