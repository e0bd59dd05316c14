/- What was put is got: plain mathematics. -/
import Derived.Test.YtnhbaigagphpmaaBRGet
namespace Go.Proofs.Ytnhbaigagphpmaa
open Go.ChangeShapes Go.WideShapes Go.ChangeAt Go.RowKit Go.Joins Go.Deep
set_option linter.unusedVariables false

theorem getD_put (big : Bool) (n : Nat) (s : SC) {j : Nat} (h : j < (putL big n s).length) : (putL big n s).getD j default = putY big n s j := putL_get big n s j (by rwa [putL_len] at h)
theorem mem_put {big : Bool} {n : Nat} {s : SC} {x : BY} (h : x ∈ putL big n s) : ∃ j, j < n ∧ x = putY big n s j := by
  simp only [putL, List.mem_map, List.mem_range] at h
  obtain ⟨j, hj, rfl⟩ := h
  exact ⟨j, hj, rfl⟩
theorem putY_num (big : Bool) (n : Nat) (m : Int) (j : Nat) : putY big n ⟨false, m, 0, 0⟩ j = digY (digI m (wtN big n j)) := by simp [putY]
theorem putY_null (big : Bool) (n : Nat) (j : Nat) : putY big n ⟨true, 0, 0, 0⟩ j = digY 0 := by simp [putY, digI]
theorem putY_par (big : Bool) (n : Nat) (b o : Int) (hb : 0 < b) (j : Nat) : putY big n ⟨true, 0, b, o⟩ j = parY b o (j : Nat) := by simp [putY, hb]
theorem may_dig (m : Int) (u : Nat) : mayY (digY (digI m u)) = true := by
  have := digI_bd m u
  show mayY ⟨1, digI m u, 0, 0, 0⟩ = true
  rw [mayY_1]; simp [upTo]; omega
theorem mays_put {big : Bool} {n : Nat} (hn : n = 1 ∨ n = 2 ∨ n = 4) {k : Int} {s : SC} (h : mayS k s = true) : maysY (putL big n s) = true := by
  refine List.all_eq_true.2 fun x hx => ?_
  obtain ⟨j, hj, rfl⟩ := mem_put hx
  rcases mayS_cases h with ⟨m, rfl⟩ | rfl | ⟨b, o, hb, rfl⟩
  · rw [putY_num]; exact may_dig _ _
  · rw [putY_null]; rfl
  · rw [putY_par _ _ _ _ hb]
    have hk : k = 7 := by
      unfold mayS at h
      split at h
      · assumption
      · simp [mayN] at h
    subst hk
    have h2 : mayP ⟨true, 0, b, o⟩ = true := by simpa [mayS] using h
    rw [mayP_eq] at h2
    show mayY ⟨2, 0, b, o, (j : Nat)⟩ = true
    rw [mayY_2]
    simp [upTo] at h2 ⊢
    omega
theorem sum_put (big : Bool) (n : Nat) (hn : n = 1 ∨ n = 2 ∨ n = 4) (m : Int) (h0 : 0 ≤ m) (h1 : m < 256 ^ n) : sumI big n (putL big n ⟨false, m, 0, 0⟩) n = m := by
  have hg : ∀ j, j < n → ((putL big n ⟨false, m, 0, 0⟩).getD j default).n = digI m (wtN big n j) := fun j hj => by rw [putL_get _ _ _ _ hj, putY_num]; rfl
  rcases hn with rfl | rfl | rfl
  · simp only [sumI, hg 0 (by decide)]
    cases big <;> simp [wtN, digI] <;> omega
  · simp only [sumI, hg 0 (by decide), hg 1 (by decide)]
    cases big <;> simp [wtN, digI] <;> omega
  · simp only [sumI, hg 0 (by decide), hg 1 (by decide), hg 2 (by decide), hg 3 (by decide)]
    cases big <;> simp [wtN, digI] <;> omega
theorem get_put {big : Bool} {p k : Int} (hp : mayA p) {s : SC} (h : mayS k s = true) : getS big k (putL big (sizN p k) s) = (s, 0) := by
  have hk := mayS_kind h
  have hn := siz_cases hp hk
  have hm := mays_put (big := big) hn h
  have hlen := putL_len big (sizN p k) s
  by_cases h7 : k = 7
  · subst h7
    generalize hnn : sizN p 7 = n at *
    rcases mayS_cases h with ⟨m, rfl⟩ | rfl | ⟨b, o, hb, rfl⟩
    · have : mayP ⟨false, m, 0, 0⟩ = true := by simpa [mayS] using h
      simp [mayP, eqS] at this
    · have h0 : cnt isNo (putL big n ⟨true, 0, 0, 0⟩) = 0 := cnt_zero.2 fun x hx => by obtain ⟨j, hj, rfl⟩ := mem_put hx; rw [putY_null]; rfl
      have h1 : cnt isPa (putL big n ⟨true, 0, 0, 0⟩) = 0 := cnt_zero.2 fun x hx => by obtain ⟨j, hj, rfl⟩ := mem_put hx; rw [putY_null]; rfl
      rw [get_p0 h0, ptr_null hm h0 h1 (fun j hj => by rw [getD_put _ _ _ hj, putY_null]; rfl)]
    · have h0 : cnt isNo (putL big n ⟨true, 0, b, o⟩) = 0 := cnt_zero.2 fun x hx => by obtain ⟨j, hj, rfl⟩ := mem_put hx; rw [putY_par _ _ _ _ hb]; rfl
      have hl0 : 0 < (putL big n ⟨true, 0, b, o⟩).length := by rw [hlen]; omega
      have hh : hdY (putL big n ⟨true, 0, b, o⟩) = parY b o (0 : Nat) := (getD_put _ _ _ hl0).trans (putY_par _ _ _ _ hb 0)
      have hf : cntOf (putL big n ⟨true, 0, b, o⟩) 3 = (putL big n ⟨true, 0, b, o⟩).length := fo_iff.2 fun j hj => by rw [getD_put _ _ _ hj, putY_par _ _ _ _ hb, hh]; rfl
      have hz : ¬ cntOf (putL big n ⟨true, 0, b, o⟩) 2 = (putL big n ⟨true, 0, b, o⟩).length := fun hq => by
        have := ze_iff.1 hq 0 hl0
        rw [getD_put _ _ _ hl0, putY_par _ _ _ _ hb] at this
        have := congrArg BY.st this
        simp [parY, digY] at this
      rw [get_p0 h0]
      unfold ptrR
      rw [if_neg hz, if_pos hf, hh]
      rfl
  · have hw : 256 ^ sizN p k = (2 : Int) ^ (widI k).toNat := by
      have : k = 1 ∨ k = 2 ∨ k = 3 ∨ k = 4 ∨ k = 5 ∨ k = 6 := by omega
      rcases this with rfl | rfl | rfl | rfl | rfl | rfl <;> rfl
    generalize hnn : sizN p k = n at *
    have hN : mayN k s = true := by simpa [mayS, h7] using h
    rcases mayS_cases h with ⟨m, rfl⟩ | rfl | ⟨b, o, hb, rfl⟩
    · have h0 : cnt isNo (putL big n ⟨false, m, 0, 0⟩) = 0 := cnt_zero.2 fun x hx => by obtain ⟨j, hj, rfl⟩ := mem_put hx; rw [putY_num]; rfl
      have h1 : cnt isPa (putL big n ⟨false, m, 0, 0⟩) = 0 := cnt_zero.2 fun x hx => by obtain ⟨j, hj, rfl⟩ := mem_put hx; rw [putY_num]; rfl
      have hmb : 0 ≤ m ∧ m < 2 ^ (widI k).toNat := by
        simp only [mayN, Bool.and_eq_true] at hN
        exact ⟨of_decide_eq_true hN.1.2, of_decide_eq_true hN.2⟩
      rw [get_n0 h7 h0]
      unfold numR
      rw [if_neg (show ¬ 0 < cntOf (putL big n ⟨false, m, 0, 0⟩) 1 by show ¬ 0 < cnt isPa _; omega), hlen, sum_put big n hn m hmb.1 (by rw [hw]; exact hmb.2)]
    · simp [mayN] at hN
    · simp [mayN] at hN
theorem get_put_no {big : Bool} {k : Int} {l : List BY} {j : Nat} (hj : j < l.length) : getS big k (l.set j noY) = (noS, 7) := by
  refine get_no (cnt_any.2 (List.any_eq_true.2 ⟨noY, ?_, rfl⟩))
  have h : j < (l.set j noY).length := by simpa using hj
  have e : (l.set j noY)[j] = noY := by simp
  have h2 := List.getElem_mem h
  rw [e] at h2
  exact h2
theorem mays_set {l : List BY} (h : maysY l = true) {x : BY} (hx : mayY x = true) (j : Nat) : maysY (l.set j x) = true := by
  refine List.all_eq_true.2 fun y hy => ?_
  rcases List.mem_or_eq_of_mem_set hy with h1 | h1
  · exact List.all_eq_true.1 h y h1
  · rw [h1]; exact hx
end Go.Proofs.Ytnhbaigagphpmaa
