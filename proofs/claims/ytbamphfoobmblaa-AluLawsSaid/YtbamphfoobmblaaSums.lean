/- AluLaws: what follows of unsigned kinds, and its walk. -/
import Derived.Test.YtbamphfoobmblaaRefOps
namespace Go.Proofs.Ytbamphfoobmblaa
open Go.ChangeShapes Go.WideShapes Go.ChangeAt Go.RowKit Go.Joins Go.Deep
set_option linter.unusedVariables false

theorem xor_ones (a : Int) (h0 : 0 ≤ a) (h1 : a < 4294967296) : bits .xor .i64 (-1) a = -a - 1 := by
  show IntKind.i64.wrap ((BitVec.ofInt 64 (-1) ^^^ BitVec.ofInt 64 a).toNat : Int) = _
  have e1 : BitVec.ofInt 64 (-1) = BitVec.allOnes 64 := by decide
  rw [e1, BitVec.allOnes_xor, BitVec.toNat_not, BitVec.toNat_ofInt]
  have e2 : (a % ((2 ^ 64 : Nat) : Int)).toNat = a.toNat := by
    rw [Int.emod_eq_of_lt h0 (by simp; omega)]
  rw [e2]
  simp [IntKind.wrap, IntKind.bits, IntKind.signed]
  omega
def unsK (k : Int) : Prop := k = 1 ∨ k = 3 ∨ k = 5
theorem uns_num {k : Int} (h : unsK k) : 1 ≤ k ∧ k ≤ 6 := by unfold unsK at h; omega
theorem uns_sg {k : Int} (h : unsK k) : signedB k = false := by rcases h with rfl | rfl | rfl <;> decide
theorem uns_see {k : Int} (h : unsK k) (a : Int) : seeI k a = a := by unfold seeI; rw [uns_sg h]; rfl
theorem uns_fit {k : Int} (h : unsK k) (v : Int) : fitI k v = (wrapI v (widthI k), 0) := fit_yes (fits_u (uns_sg h))
/-- what the walk is given of two numbers of an unsigned kind -/
structure Sums (k a b s m t : Int) : Prop where
  hs : isN s (widthI k)
  ht : isN t (widthI k)
  e1 : twoI 8 k a b = (s, 0)
  e2 : twoI 9 k s b = (a, 0)
  e3 : twoI 10 k a b = (m, 0)
  e4 : twoI 10 k b a = (m, 0)
  e5 : oneI 6 k a = (t, 0)
  e6 : oneI 6 k t = (a, 0)
theorem two_8_at {k : Int} (h : unsK k) (a b : Int) : twoI 8 k a b = (wrapI (a + b) (widthI k), 0) := by
  show fitI k (seeI k a + seeI k b) = _
  rw [uns_fit h, uns_see h, uns_see h]
theorem two_9_at {k : Int} (h : unsK k) (a b : Int) : twoI 9 k a b = (wrapI (a - b) (widthI k), 0) := by
  show fitI k (seeI k a - seeI k b) = _
  rw [uns_fit h, uns_see h, uns_see h]
theorem two_10_at {k : Int} (h : unsK k) (a b : Int) : twoI 10 k a b = (wrapI (wrap64 (a * b)) (widthI k), 0) := by
  show fitI k (wrap64 (seeI k a * seeI k b)) = _
  rw [uns_fit h, uns_see h, uns_see h]
theorem sums_at {k : Int} (h : unsK k) (a b : Int) (ha : isN a (widthI k)) (hb : isN b (widthI k)) : ∃ s m t, Sums k a b s m t := by
  have hW := width_isW (uns_num h)
  refine ⟨wrapI (a + b) (widthI k), wrapI (wrap64 (a * b)) (widthI k), wrapI (bits .xor .i64 (-1) a) (widthI k), wrapI_isN hW _, wrapI_isN hW _, two_8_at h a b, ?_, two_10_at h a b, ?_, (if_neg (by decide)).trans (if_pos rfl), ?_⟩
  · rw [two_9_at h]
    congr 1
    generalize widthI k = W at *
    rcases hW with rfl | rfl | rfl <;> simp only [isN, Int.reduceToNat, Int.reducePow] at ha hb <;> simp only [wrapI_8, wrapI_16, wrapI_32] <;> omega
  · rw [two_10_at h, Int.mul_comm]
  · have e : oneI 6 k (wrapI (bits .xor .i64 (-1) a) (widthI k)) = (wrapI (bits .xor .i64 (-1) (wrapI (bits .xor .i64 (-1) a) (widthI k))) (widthI k), 0) := (if_neg (by decide)).trans (if_pos rfl)
    rw [e]
    congr 1
    generalize widthI k = W at *
    obtain ⟨a0, a1⟩ := isN_32 hW ha
    obtain ⟨t0, t1⟩ := isN_32 hW (wrapI_isN hW (bits .xor .i64 (-1) a))
    rw [xor_ones _ t0 t1, xor_ones _ a0 a1]
    rcases hW with rfl | rfl | rfl <;> simp only [isN, Int.reduceToNat, Int.reducePow] at ha hb <;> simp only [wrapI_8, wrapI_16, wrapI_32] <;> omega
structure Parts (k a b q r : Int) : Prop where
  e1 : twoI 11 k a b = (q, 0)
  e2 : twoI 12 k a b = (r, 0)
  e3 : q * b + r = a
  q0 : 0 ≤ q
  q1 : q ≤ 4294967295
  r0 : 0 ≤ r
  r1 : r < b
theorem quo_ok {k u v w q : Int} (h : signedB k = false) (hv : ¬ v = 0) : quoI k u v w q = (wrapI q w, 0) := (if_neg hv).trans (if_neg (fun h' => by rw [h] at h'; exact absurd h'.1 (by decide)))
theorem parts_at {k : Int} (h : unsK k) (a b : Int) (ha : isN a (widthI k)) (hb : isN b (widthI k)) (hb0 : ¬ b = 0) : ∃ q r, Parts k a b q r := by
  have hW := width_isW (uns_num h)
  obtain ⟨a0, a1⟩ := isN_32 hW ha
  obtain ⟨b0, b1⟩ := isN_32 hW hb
  have hbp : 0 < b := by omega
  have d0 : 0 ≤ a / b := Int.ediv_nonneg a0 b0
  have d1 : a / b ≤ a := Int.ediv_le_self b a0
  have m0 : 0 ≤ a % b := Int.emod_nonneg _ hb0
  have m1 : a % b < b := Int.emod_lt_of_pos _ hbp
  have m2 : a % b ≤ a := by
    have e := Int.ediv_mul_add_emod a b
    have p : 0 ≤ a / b * b := Int.mul_nonneg d0 b0
    generalize a / b * b = x at *
    omega
  have w1 : ∀ x, 0 ≤ x → x ≤ a → wrapI x (widthI k) = x := by
    intro x hx hxa
    generalize widthI k = W at *
    rcases hW with rfl | rfl | rfl <;> simp only [isN, Int.reduceToNat, Int.reducePow] at ha <;> simp only [wrapI_8, wrapI_16, wrapI_32] <;> omega
  refine ⟨a / b, a % b, ?_, ?_, Int.ediv_mul_add_emod a b, d0, by omega, m0, m1⟩
  · have e : twoI 11 k a b = quoI k (seeI k a) (seeI k b) (widthI k) (wrap64 ((seeI k a).tdiv (seeI k b))) := rfl
    rw [e, uns_see h, uns_see h, quo_ok (uns_sg h) hb0, Int.tdiv_eq_ediv_of_nonneg a0, wrap64_small d0 (by omega), w1 _ d0 d1]
  · have e : twoI 12 k a b = quoI k (seeI k a) (seeI k b) (widthI k) ((seeI k a).tmod (seeI k b)) := rfl
    rw [e, uns_see h, uns_see h, quo_ok (uns_sg h) hb0, Int.tmod_eq_emod_of_nonneg a0, w1 _ m0 m2]
end Go.Proofs.Ytbamphfoobmblaa
