/- What a text is cut into are words. -/
import Derived.Test.YtkhklndmbfbnoaaGreatDoorLText
namespace Go.Proofs.YtkhklndmbfbnoaaGreatDoor
set_option linter.unusedVariables false

theorem runN_take (p : UInt8 → Bool) (l : List UInt8) : runN p (l.take (runN p l)) = runN p l := by
  induction l with
  | nil => rfl
  | cons c l ih =>
    by_cases hp : p c = true
    · have e : runN p (c :: l) = runN p l + 1 := by (conv => lhs; unfold runN); rw [if_pos hp]
      rw [e, List.take_succ_cons]
      (conv => lhs; unfold runN)
      rw [if_pos hp, ih]
    · have e : runN p (c :: l) = 0 := by (conv => lhs; unfold runN); rw [if_neg hp]
      rw [e]
      rfl
theorem cap_self {m k : Nat} (h : k ≤ m) : cap m k = k := by unfold cap; rw [if_neg (by omega)]
theorem run_word (p : UInt8 → Bool) (m : Nat) (l : List UInt8) {n : Nat} (h : cap m (runN p l) = n) (hn : 0 < n) : cap m (runN p (l.take n)) = n := by
  obtain ⟨h1, h2⟩ := cap_eq h hn
  rw [← h1, runN_take, cap_self (by omega)]
theorem long_take (l : List UInt8) {n : Nat} (h : longN l = n) (hn : 0 < n) : longN (l.take n) = n := by
  match l with
  | [] => simp [longN] at h; omega
  | c :: r =>
    obtain ⟨m, rfl⟩ : ∃ m, n = m + 1 := ⟨n - 1, by omega⟩
    rw [List.take_succ_cons]
    unfold longN at h ⊢
    dsimp only at h ⊢
    by_cases h1 : letB c = true
    · rw [if_pos h1] at h ⊢
      have := run_word namB 8 (c :: r) h (by omega)
      rwa [List.take_succ_cons] at this
    · rw [if_neg h1] at h ⊢
      by_cases h2 : ((c.toNat : Int) == 48) = true
      · rw [if_pos h2] at h ⊢
        have := run_word digB 1 (c :: r) h (by omega)
        rwa [List.take_succ_cons] at this
      · rw [if_neg h2] at h ⊢
        by_cases h3 : digB c = true
        · rw [if_pos h3] at h ⊢
          have := run_word digB 10 (c :: r) h (by omega)
          rwa [List.take_succ_cons] at this
        · rw [if_neg h3] at h ⊢
          by_cases h4 : pairB (c :: r) = true
          · rw [if_pos h4] at h
            obtain rfl : m = 1 := by omega
            have h5 : pairB (c :: r.take 1) = true := by
              rw [← h4]
              cases r with
              | nil => rfl
              | cons d t => cases t <;> simp [pairB]
            rw [if_pos h5]
          · rw [if_neg h4] at h
            by_cases h5 : signs.contains c = true
            · rw [if_pos h5] at h
              obtain rfl : m = 0 := by omega
              have h6 : pairB (c :: r.take 0) = false := by simp [pairB]
              rw [if_neg (by rw [h6]; decide), if_pos h5]
            · rw [if_neg h5] at h
              omega
theorem word_take (l : List UInt8) (h : 0 < longN l) : wordB (l.take (longN l)) = true := by
  have h1 := long_take l rfl h
  have h2 := longN_le l
  have h3 : (l.take (longN l)).length = longN l := by rw [List.length_take]; omega
  unfold wordB
  rw [h1, h3]
  have : (l.take (longN l)).isEmpty = false := by
    rw [List.isEmpty_eq_false_iff]
    intro e
    rw [e] at h3
    simp at h3
    omega
  rw [this]
  simp
theorem scan_word : ∀ (f : Nat) (p : Bool) (l : List UInt8) (a : Nat), ∀ t ∈ (scan f p l a).1, wordB t.1 = true := by
  intro f
  induction f with
  | zero => intro p l a t ht; simp [scan] at ht
  | succ f ih =>
    intro p l a t ht
    unfold scan at ht
    split at ht
    · simp at ht
    · rename_i h
      simp only [List.mem_cons] at ht
      rcases ht with rfl | ht
      · exact word_take _ (by omega)
      · exact ih _ _ _ t ht
theorem tellW_word (l : List UInt8) : ∀ t ∈ (tellW l).1, wordB t.1 = true := by
  unfold tellW
  split
  · simp
  · split
    · simp
    · exact scan_word _ _ _ _
theorem tellW_words (l : List UInt8) (k : Nat) (hk : k < (tellW l).1.length) : wordB ((tellW l).1.getD k ([], 0)).1 = true :=
  tellW_word l _ (by rw [List.getD_eq_getElem?_getD, List.getElem?_eq_getElem hk]; simp)
end Go.Proofs.YtkhklndmbfbnoaaGreatDoor
