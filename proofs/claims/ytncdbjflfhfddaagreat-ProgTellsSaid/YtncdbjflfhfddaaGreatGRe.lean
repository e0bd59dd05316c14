/- The document on programs: expressions. -/
import Derived.Test.YtncdbjflfhfddaaGreatGSz
import Derived.Test.YtncdbjflfhfddaaGreatGE
import Derived.Deep.Cut
import Derived.Deep.CutRange
namespace Go.Proofs.YtncdbjflfhfddaaGreat
open Go.ChangeShapes Go.WideShapes Go.ChangeAt Go.RowKit Go.Joins Go.Deep
set_option linter.unusedVariables false
set_option linter.unusedSimpArgs false


theorem gS_eq (k : Int) : gS k = upTo k 1 7 := by
  rw [Bool.eq_iff_iff]
  simp [gS, gN, upTo]
  omega
theorem gN_ne0 {k : Int} (h : gN k = true) : k ≠ 0 := by
  simp [gN] at h; omega
def manyN (op : Int) : Int := if op = 1 ∨ op = 2 then 0 else if upTo op 3 7 then 1 else 2
theorem many_any (op : Int) (w : World) : Calls Tryz.prog 44 #[.int .i64 op] w fun e w' => e = .returned (.int .i64 (manyN op)) ∧ w = w' := by
  have cB := fun w => Between_any op 3 7 w
  by_cases h1 : op = 1
  · subst h1
    go_enter Tryz.func44, Tryz.ntmps44
    go_wp2
    go_ret
    exact ⟨rfl, rfl⟩
  · have h1b : (op == 1) = false := beq_eq_false_iff_ne.2 h1
    by_cases h2 : op = 2
    · subst h2
      go_enter Tryz.func44, Tryz.ntmps44
      go_wp2
      go_ret
      exact ⟨rfl, rfl⟩
    · have h2b : (op == 2) = false := beq_eq_false_iff_ne.2 h2
      cases h3 : upTo op 3 7
      all_goals
        rw [h3] at cB
        go_enter Tryz.func44, Tryz.ntmps44
        go_wp2_with (go_at_call 43; refine (cB _).mono ?_; rintro e w' ⟨rfl, rfl⟩)
        go_ret
        exact ⟨ret_i (by simp [manyN, h1, h2, h3]), rfl⟩
theorem rNums_any (k : Int) (w : World) : Calls Tryz.prog 46 #[.int .i64 k] w fun e w' => e = .returned (.bool (gN k)) ∧ w = w' := by
  have c := fun w => rWidth_any k w
  by_cases h : 1 ≤ k ∧ k ≤ 6
  · have hp := width_pos h
    generalize widthI k = W at *
    go_enter Tryz.func46, Tryz.ntmps46
    go_wp2_with (go_at_call 48; refine (c _).mono ?_; rintro e w' ⟨rfl, rfl⟩)
    go_ret
    exact ⟨ret_b (by simp [gN, h, hp]), rfl⟩
  · have hp := width_no h
    rw [hp] at c
    go_enter Tryz.func46, Tryz.ntmps46
    go_wp2_with (go_at_call 48; refine (c _).mono ?_; rintro e w' ⟨rfl, rfl⟩)
    go_ret
    exact ⟨ret_b (by rw [gN_eq, decide_eq_false h]), rfl⟩
def rNumB (k n : Int) : Bool := if gN k then (decide (0 ≤ n) && decide (n < 2 ^ (widthI k).toNat)) else (k == 7) && (n == 0)
theorem rNum_may (k n : Int) : rNumB k n = mayS k ⟨k == 7, n, 0, 0⟩ := by
  unfold rNumB
  by_cases h7 : k = 7
  · subst h7
    simp [gN, mayS, mayP, eqS]
  · have h7b : (k == 7) = false := beq_eq_false_iff_ne.2 h7
    rw [h7b]
    by_cases h : 1 ≤ k ∧ k ≤ 6
    · rw [gN_eq, decide_eq_true h, if_pos rfl]
      rw [Bool.eq_iff_iff]
      simp [mayS, h7, mayN, h, widI_eq]
      intro _
      exact ⟨fun h => decide_eq_true h, fun h => of_decide_eq_true h⟩
    · rw [gN_eq, decide_eq_false h]
      have : decide (1 ≤ k ∧ k ≤ 6) = false := decide_eq_false h
      simp [mayS, h7, mayN]
      omega
/-- the document's way to ask it -/
def rExprB (P : PX) (x : EX) (i : Int) : Bool :=
  if upTo x.op 1 22 = false then false
  else if manyN x.op = 0 then (if x.a ≠ 0 then false else if x.b ≠ 0 then false else if x.op = 1 then rNumB x.kind x.n else (x.kind == 7) && upTo x.n 1 P.vars.length)
  else if manyN x.op = 1 then (if upTo x.a 0 (i - 1) = false then false else if x.b ≠ 0 then false else if x.n ≠ 0 then false else fitsOneB x (exAt P x.a).kind)
  else (if upTo x.a 0 (i - 1) = false then false else if upTo x.b 0 (i - 1) = false then false else if x.n ≠ 0 then false else fitsTwoB x (exAt P x.a).kind (exAt P x.b).kind)
theorem fitsOne_0 (x : EX) : fitsOneB x 0 = false := by
  unfold fitsOneB
  split
  · simp
  · split
    · simp [gN]
    · split
      · simp [gS, gN]
      · by_cases h : x.kind = 0
        · simp [h, gN]
        · have : ((0 : Int) == x.kind) = false := beq_eq_false_iff_ne.2 (Ne.symm h)
          simp [this]
theorem fitsTwo_0 (x : EX) (a b : Int) (h : a = 0 ∨ b = 0) : fitsTwoB x a b = false := by
  cases hf : fitsTwoB x a b
  · rfl
  · exfalso
    unfold fitsTwoB at hf
    split at hf
    · simp at hf; have := gN_ne0 hf.1.2; omega
    · split at hf
      · simp at hf; omega
      · split at hf
        · simp at hf; omega
        · simp at hf; have := gN_ne0 hf.1.1; omega
theorem kindI_in {P : PX} {a i : Int} (h : upTo a 0 (i - 1) = true) : kindI P a i = (exAt P a).kind := by
  have : plB a i = true := by simp [upTo] at h; simp [plB]; omega
  unfold kindI; rw [if_pos this]
theorem kindI_out {P : PX} {a i : Int} (h : upTo a 0 (i - 1) = false) : kindI P a i = 0 := by
  have : plB a i = false := by simp [upTo] at h; simp [plB]; omega
  unfold kindI; rw [this]; rfl
theorem rExpr_eq (P : PX) (x : EX) (i : Int) : rExprB P x i = isExprB P x i := by
  unfold rExprB isExprB
  by_cases hr : upTo x.op 1 22 = true
  · rw [if_neg (by rw [hr]; decide)]
    have hrr : 1 ≤ x.op ∧ x.op ≤ 22 := by simpa [upTo] using hr
    by_cases h0 : x.op = 1 ∨ x.op = 2
    · have m0 : manyN x.op = 0 := by unfold manyN; rw [if_pos h0]
      have t2 : hasTwoB x.op = false := by simp [hasTwoB]; omega
      have t1 : hasOneB x.op = false := by simp [hasOneB]; omega
      rw [if_pos m0, t2, t1]
      simp only [Bool.false_eq_true, if_false]
      by_cases ha : x.a = 0
      · by_cases hb : x.b = 0
        · simp only [ha, hb, ne_eq, not_true_eq_false, or_self, if_false]
          unfold fitsNoneB
          rcases h0 with h0 | h0
          · rw [if_pos h0, if_pos h0, rNum_may]
          · rw [if_neg (show ¬ x.op = 1 by omega), if_neg (show ¬ x.op = 1 by omega), if_pos h0]
            rfl
        · simp [ha, hb]
      · simp [ha]
    · by_cases h1 : 3 ≤ x.op ∧ x.op ≤ 7
      · have m1 : manyN x.op = 1 := by unfold manyN; rw [if_neg h0, if_pos (by simp [upTo, h1])]
        have t2 : hasTwoB x.op = false := by simp [hasTwoB]; omega
        have t1 : hasOneB x.op = true := by simp [hasOneB]; omega
        rw [if_neg (by rw [m1]; decide), if_pos m1, t2, t1]
        simp only [Bool.false_eq_true, if_false, if_true]
        cases hu : upTo x.a 0 (i - 1)
        · rw [kindI_out hu, fitsOne_0]; simp
        · rw [kindI_in hu]
          by_cases hb : x.b = 0
          · by_cases hn : x.n = 0
            · simp [hb, hn]
            · simp [hb, hn]
          · simp [hb]
      · have m2 : manyN x.op = 2 := by
          unfold manyN
          rw [if_neg h0, if_neg (by simp [upTo]; omega)]
        have t2 : hasTwoB x.op = true := by simp [hasTwoB]; omega
        rw [if_neg (by rw [m2]; decide), if_neg (by rw [m2]; decide), t2]
        simp only [if_true]
        cases hu : upTo x.a 0 (i - 1)
        · rw [kindI_out hu, fitsTwo_0 _ _ _ (Or.inl rfl)]; simp
        · cases hv : upTo x.b 0 (i - 1)
          · rw [kindI_out hv, fitsTwo_0 _ _ _ (Or.inr rfl)]; simp
          · rw [kindI_in hu, kindI_in hv]
            by_cases hn : x.n = 0
            · simp [hn]
            · simp [hn]
  · have hrf : upTo x.op 1 22 = false := by simpa using hr
    rw [if_pos hrf]
    have hrr : x.op < 1 ∨ 22 < x.op := by simp [upTo] at hrf; omega
    have t2 : hasTwoB x.op = false := by simp [hasTwoB]; omega
    have t1 : hasOneB x.op = false := by simp [hasOneB]; omega
    rw [t2, t1]
    simp only [Bool.false_eq_true, if_false]
    unfold fitsNoneB
    rw [if_neg (show ¬ x.op = 1 by omega), if_neg (show ¬ x.op = 2 by omega)]
    split <;> rfl
end Go.Proofs.YtncdbjflfhfddaaGreat
