/- The document's Move; what Move tells. -/
import Derived.Test.YtcppmibeiilgbaaKMove
import Derived.Test.YtcppmibeiilgbaaKRLoad
import Derived.Test.YtcppmibeiilgbaaKRReach
import Derived.Test.YtcppmibeiilgbaaVQuiet
namespace Go.Proofs.Ytcppmibeiilgbaa
open Go.ChangeShapes Go.WideShapes Go.ChangeAt Go.RowKit Go.Joins Go.Deep
set_option linter.unusedVariables false

/-- where a pointer is moved to, and what goes wrong -/
def moveS (m : List BK) (p : SC) (n : Int) : SC × Int :=
  if (((atM m p).st == 1) || (p.b == 0 && n == 0)) then
    (if p.o + viewI n 32 < 0 ∨ ((atM m p).ys.length : Int) < p.o + viewI n 32 then (noS, 1) else (⟨p.p, p.n, p.b, p.o + viewI n 32⟩, 0))
  else (noS, 2)
def CanV (m : List BK) (p : SC) (n : Int) : Prop := isN n 32 ∧ hasM m p = true
theorem Move_all (q : Option Addr) (len cap : Nat) (m : List BK) (p : SC) (n : Int) : ∃ (R : SC) (bad ev : Int), (∀ w, IsMem w q len m → Calls Try.prog 33 #[.slice q len cap, scV p, .int .i64 n] w (LoadPost R bad ev w)) ∧
    ((CanV m p n ∧ ev = 0 ∧ moveS m p n = (R, bad)) ∨ (¬ CanV m p n ∧ ev = 1 ∧ R = noS ∧ bad = 0)) := by
  by_cases hn : isN n 32
  · cases hH : hasM m p
    · exact ⟨noS, 0, 1, fun w hx => Move_no2 q len cap m p n hn hH w hx, Or.inr ⟨(fun h => by (rw [h.2] at hH; cases hH)), rfl, rfl, rfl⟩⟩
    · cases hg : (((atM m p).st == 1) || (p.b == 0 && n == 0))
      · have e1 : ((atM m p).st == 1) = false := by revert hg; cases ((atM m p).st == 1) <;> simp
        have e2 : (p.b == 0 && n == 0) = false := by revert hg; cases (p.b == 0 && n == 0) <;> simp
        exact ⟨noS, 2, 0, fun w hx => Move_null q len cap m p n hn hH e1 e2 w hx, Or.inl ⟨⟨hn, hH⟩, rfl, by unfold moveS; rw [hg]; rfl⟩⟩
      · by_cases h1 : p.o + viewI n 32 < 0
        · exact ⟨noS, 1, 0, fun w hx => Move_neg q len cap m p n hn hH hg h1 w hx, Or.inl ⟨⟨hn, hH⟩, rfl, by unfold moveS; rw [hg, if_pos rfl, if_pos (Or.inl h1)]⟩⟩
        · by_cases h2 : ((atM m p).ys.length : Int) < p.o + viewI n 32
          · exact ⟨noS, 1, 0, fun w hx => Move_far q len cap m p n hn hH hg ⟨h1, h2⟩ w hx, Or.inl ⟨⟨hn, hH⟩, rfl, by unfold moveS; rw [hg, if_pos rfl, if_pos (Or.inr h2)]⟩⟩
          · exact ⟨⟨p.p, p.n, p.b, p.o + viewI n 32⟩, 0, 0, fun w hx => Move_ok q len cap m p n hn hH hg ⟨h1, h2⟩ w hx, Or.inl ⟨⟨hn, hH⟩, rfl, by unfold moveS; rw [hg, if_pos rfl, if_neg (by rintro (h | h); exact h1 h; exact h2 h)]⟩⟩
  · exact ⟨noS, 0, 1, fun w hx => Move_no1 q len cap m p n hn w hx, Or.inr ⟨fun h => hn h.1, rfl, rfl, rfl⟩⟩
theorem view_zero {n : Int} (hn : isN n 32) : (viewI n 32 == 0) = (n == 0) := by
  simp only [isN, Int.reduceToNat, Int.reducePow] at hn
  unfold viewI
  simp only [Int.reduceToNat, Int.reducePow, Nat.reduceSub]
  rw [Bool.eq_iff_iff, beq_iff_eq, beq_iff_eq]
  split <;> omega
theorem null_off {m : List BK} {p : SC} (h : hasM m p = true) (hb : p.b = 0) : p.o = 0 := by
  unfold hasM at h
  simp only [Bool.and_eq_true] at h
  have h2 := h.2.1
  unfold mayS at h2
  rw [if_pos rfl] at h2
  unfold mayP at h2
  rw [if_pos hb] at h2
  have := eqS_iff.1 h2
  rw [this]
end Go.Proofs.Ytcppmibeiilgbaa
