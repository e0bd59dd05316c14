/- Package prog: Uses. -/
import Derived.Test.YtncdbjflfhfddaaGreatGV
namespace Go.Proofs.YtncdbjflfhfddaaGreat
open Go.ChangeShapes Go.WideShapes Go.ChangeAt Go.RowKit Go.Joins Go.Deep
set_option linter.unusedVariables false


def UsesQ (P : PX) (e0 : Int) (w : World) (e : Ending) (w' : World) : Prop :=
  ∃ (v : Value) (k : Int), e = .returned (.tuple #[v, .int .i64 k]) ∧ Below w.heap.size w w' ∧ (progB P = false → v = .slice none 0 0 ∧ k = 1) ∧ (progB P = true → plB e0 P.exs.length = false → v = .slice none 0 0 ∧ k = 3) ∧ (progB P = true → plB e0 P.exs.length = true → k = 0 ∧ IsIs w' v (usesL (P.exs.take (e0.toNat + 1))))
theorem form_exs {P : PX} (h : progB P = true) : P.exs.length ≤ 120 ∧ formB P = true := by
  have hF : formB P = true := by
    unfold progB at h
    simp only [Bool.and_eq_true] at h
    exact h.1
  have h2 := hF
  rw [form_eq] at h2
  simp only [Bool.and_eq_true, decide_eq_true_eq] at h2
  exact ⟨h2.1.2.1, hF⟩
theorem IsRow.pre {α : Type} {Q : World → Nat → Nat → α → Prop} {k : Nat} {w : World} {q : Option Addr} {xs : List α} {cap n : Nat} (h : IsRow Q k w (.slice q xs.length cap) xs) (hn : n ≤ xs.length) : IsRow Q k w (.slice q n cap) (xs.take n) := by
  obtain ⟨q', cap', hv, hl, hcap, hc⟩ := h
  injection hv with a b c
  subst a c
  have hlen : (xs.take n).length = n := by rw [List.length_take]; omega
  refine ⟨q, cap, by rw [hlen], by rw [hlen]; omega, by rw [hlen]; omega, fun hp => ?_⟩
  rw [hlen] at hp
  obtain ⟨b, off, hq, hb, hcell⟩ := hc (by omega)
  refine ⟨b, off, hq, hb, fun i x hx => hcell i x ?_⟩
  rw [List.getElem?_take] at hx
  split at hx
  · exact hx
  · cases hx
end Go.Proofs.YtncdbjflfhfddaaGreat
