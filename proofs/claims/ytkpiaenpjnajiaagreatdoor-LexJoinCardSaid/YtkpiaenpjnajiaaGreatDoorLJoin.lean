/- Words joined with a blank between: they are its words. Nothing here speaks of one translation. -/
import Derived.Test.YtkpiaenpjnajiaaGreatDoorLText
namespace Go.Proofs.YtkpiaenpjnajiaaGreatDoor
set_option linter.unusedVariables false

def joinL : List (List UInt8) → List UInt8
  | [] => []
  | x :: r => if r.isEmpty then x else x ++ 32 :: joinL r
def allW (L : List (List UInt8)) : Bool := L.all wordB
theorem joinL_snoc : ∀ (L : List (List UInt8)) (x : List UInt8), joinL (L ++ [x]) = if L.isEmpty then x else joinL L ++ 32 :: x := by
  intro L x
  induction L with
  | nil => rfl
  | cons a r ih =>
    have e : (r ++ [x]).isEmpty = false := by cases r <;> rfl
    show (if (r ++ [x]).isEmpty then a else a ++ 32 :: joinL (r ++ [x])) = _
    rw [e, ih]
    cases r with
    | nil => rfl
    | cons b r => simp [joinL]
theorem runN_stop {p : UInt8 → Bool} : ∀ (x : List UInt8) (y : UInt8) (r : List UInt8), runN p x = x.length → p y = false → runN p (x ++ y :: r) = x.length := by
  intro x y r
  induction x with
  | nil => intro _ h; show (if p y then _ else 0) = 0; rw [h]; rfl
  | cons a x ih =>
    intro h hy
    have ha : p a = true := runN_all h a (by simp)
    rw [runN_pos ha] at h
    show (if p a then runN p (x ++ y :: r) + 1 else 0) = _
    rw [if_pos ha, ih (by simpa using h) hy]
    rfl
theorem u8_all (P : UInt8 → Bool) (h : ∀ n, n < 256 → P (UInt8.ofNat n) = true) (c : UInt8) : P c = true := by
  have := h c.toNat c.toNat_lt
  simpa using this
theorem begin_stop (c : UInt8) (h : (letB c || digB c || c == 62 || signs.contains c) = true) : stopB false c = true := by
  have := u8_all (fun c => !(letB c || digB c || c == 62 || signs.contains c) || stopB false c) (by decide +kernel) c
  rw [h] at this
  simpa using this
theorem long_begin {c : UInt8} {r : List UInt8} (h : 0 < longN (c :: r)) : (letB c || digB c || c == 62 || signs.contains c) = true := by
  have key : longN (c :: r) = if letB c then cap 8 (runN namB (c :: r)) else if (c.toNat : Int) == 48 then cap 1 (runN digB (c :: r)) else if digB c then cap 10 (runN digB (c :: r)) else if pairB (c :: r) then 2 else if signs.contains c then 1 else 0 := rfl
  rw [key] at h
  cases h1 : letB c
  · cases h2 : (c.toNat : Int) == 48
    · cases h3 : digB c
      · cases h4 : pairB (c :: r)
        · cases h5 : signs.contains c
          · rw [h1, h2, h3, h4, h5] at h; simp at h
          · simp
        · match r, h4 with
          | [], h4 => simp [pairB] at h4
          | b :: r, h4 =>
            simp only [pairB, Bool.or_eq_true, Bool.and_eq_true, beq_iff_eq] at h4
            rcases h4 with (⟨rfl, _⟩ | ⟨rfl, _⟩) | ⟨rfl, _⟩ <;> decide
      · simp
    · have : digB c = true := by
        rw [beq_iff_eq] at h2
        simp only [digB, Bool.and_eq_true, decide_eq_true_eq]
        omega
      simp [this]
  · simp
theorem word_stop {x : List UInt8} (hx : wordB x = true) : x ≠ [] ∧ longN x = x.length := by
  simp only [wordB, Bool.and_eq_true, Bool.not_eq_true', beq_iff_eq] at hx
  exact ⟨by intro h; rw [h] at hx; simp at hx, hx.2⟩
theorem long_blank {x : List UInt8} (hx : wordB x = true) (r : List UInt8) : longN (x ++ 32 :: r) = x.length := by
  obtain ⟨h0, h1⟩ := word_stop hx
  match x, h0, h1 with
  | c :: t, _, h1 =>
    have key : ∀ t, longN (c :: t) = if letB c then cap 8 (runN namB (c :: t)) else if (c.toNat : Int) == 48 then cap 1 (runN digB (c :: t)) else if digB c then cap 10 (runN digB (c :: t)) else if pairB (c :: t) then 2 else if signs.contains c then 1 else 0 := fun _ => rfl
    show longN (c :: (t ++ 32 :: r)) = _
    rw [key] at h1 ⊢
    cases hl : letB c
    · rw [hl] at h1
      cases h48 : (c.toNat : Int) == 48
      · rw [h48] at h1
        cases hd : digB c
        · rw [hd] at h1
          simp only [Bool.false_eq_true, if_false] at h1 ⊢
          match t, h1 with
          | [], h1 =>
            have hp : pairB [c] = false := rfl
            have hp2 : pairB (c :: 32 :: r) = false := by simp [pairB]
            rw [hp] at h1
            rw [List.nil_append, hp2]
            simpa using h1
          | [b], h1 =>
            have e : pairB (c :: ([b] ++ 32 :: r)) = pairB [c, b] := rfl
            rw [e]
            exact h1
          | b :: d :: t, h1 =>
            exfalso
            split at h1
            · simp at h1
            · split at h1 <;> simp at h1
        · rw [hd] at h1
          simp only [Bool.false_eq_true, if_false, if_true] at h1 ⊢
          obtain ⟨e1, e2⟩ := cap_eq h1 (by simp)
          have := runN_stop (c :: t) 32 r e1 (by decide)
          rw [show c :: (t ++ 32 :: r) = (c :: t) ++ 32 :: r from rfl, this]
          rw [e1] at h1
          exact h1
      · rw [h48] at h1
        simp only [Bool.false_eq_true, if_false, if_true] at h1 ⊢
        obtain ⟨e1, e2⟩ := cap_eq h1 (by simp)
        have := runN_stop (c :: t) 32 r e1 (by decide)
        rw [show c :: (t ++ 32 :: r) = (c :: t) ++ 32 :: r from rfl, this]
        rw [e1] at h1
        exact h1
    · rw [hl] at h1
      simp only [if_true] at h1 ⊢
      obtain ⟨e1, e2⟩ := cap_eq h1 (by simp)
      have := runN_stop (c :: t) 32 r e1 (by decide)
      rw [show c :: (t ++ 32 :: r) = (c :: t) ++ 32 :: r from rfl, this]
      rw [e1] at h1
      exact h1
theorem gap_word {l : List UInt8} (h : 0 < longN l) : gapN false l = 0 := by
  match l, h with
  | c :: r, h =>
    have := begin_stop c (long_begin h)
    simp only [stopB, Bool.and_eq_true, Bool.not_eq_true', Bool.not_false] at this
    obtain ⟨⟨⟨a, b⟩, _⟩, d⟩ := this
    rw [gapN_cons, a, b, d]
    rfl
theorem scan_join : ∀ (L : List (List UInt8)) (a : Nat), allW L = true → (scanL false (joinL L) a).1.map (·.1) = L ∧ (scanL false (joinL L) a).2 = a + (joinL L).length := by
  intro L
  induction L with
  | nil => intro a _; rw [show joinL [] = [] from rfl, scanL_nil]; exact ⟨rfl, rfl⟩
  | cons x r ih =>
    intro a h
    simp only [allW, List.all_cons, Bool.and_eq_true] at h
    obtain ⟨hx, hr⟩ := h
    obtain ⟨h0, h1⟩ := word_stop hx
    have hp : 0 < x.length := List.length_pos_iff.2 h0
    cases r with
    | nil =>
      show (scanL false x a).1.map (·.1) = [x] ∧ (scanL false x a).2 = a + x.length
      have hg := gap_word (l := x) (by omega)
      rw [scanL_some hg (n := x.length) (by rw [List.drop_zero]; exact h1) hp]
      rw [List.drop_zero, List.take_length, Nat.zero_add, List.drop_length, scanL_nil, Nat.add_zero]
      exact ⟨rfl, rfl⟩
    | cons y r =>
      have hb := long_blank hx (joinL (y :: r))
      show (scanL false (x ++ 32 :: joinL (y :: r)) a).1.map (·.1) = x :: y :: r ∧ (scanL false (x ++ 32 :: joinL (y :: r)) a).2 = a + (x ++ 32 :: joinL (y :: r)).length
      have hg := gap_word (l := x ++ 32 :: joinL (y :: r)) (by omega)
      rw [scanL_some hg (n := x.length) (by rw [List.drop_zero]; exact hb) hp]
      rw [List.drop_zero, List.take_left, Nat.zero_add, List.drop_left, Nat.add_zero]
      have hs : scanL false (32 :: joinL (y :: r)) (a + x.length) = scanL false (joinL (y :: r)) (a + x.length + 1) := scanL_pass (by rw [gapN_cons]; rfl)
      rw [hs]
      obtain ⟨i1, i2⟩ := ih (a + x.length + 1) hr
      refine ⟨by rw [List.map_cons, i1], ?_⟩
      rw [i2, List.length_append, List.length_cons]
      omega
/-- what was joined has just these words -/
theorem tell_join {L : List (List UInt8)} (h : allW L = true) (hl : (joinL L).length ≤ 2000) : ∃ T, tellW (joinL L) = (T, 0, 0) ∧ T.map (·.1) = L := by
  obtain ⟨h1, h2⟩ := scan_join L 0 h
  refine ⟨(cutW (joinL L)).1, ?_, h1⟩
  unfold tellW
  rw [if_neg (by omega), if_neg (by show ¬ (scanL false (joinL L) 0).2 < _; omega)]
end Go.Proofs.YtkpiaenpjnajiaaGreatDoor
