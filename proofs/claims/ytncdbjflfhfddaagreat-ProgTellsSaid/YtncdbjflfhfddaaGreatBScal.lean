/- Package bytes: which scalars, and which bytes, may be; the document's own asking. -/
import Derived.Test.YtncdbjflfhfddaaGreatBSmall
namespace Go.Proofs.YtncdbjflfhfddaaGreat
open Go.ChangeShapes Go.WideShapes Go.ChangeAt Go.RowKit Go.Joins Go.Deep
set_option linter.unusedVariables false

theorem isPointer_any (s : SC) (w : World) : Calls Tryz.prog 98 #[scV s] w fun e w' => e = .returned (.bool (mayP s)) ∧ Below w.heap.size w w' := by
  obtain ⟨p, n, b, o⟩ := s
  show Calls Tryz.prog 98 #[.agg #[.bool p, .int .i64 n, .int .i64 b, .int .i64 o]] w _
  have cE := fun w => eql_sc' p n b o true 0 0 0 w
  have cP := fun w => isPlace_any b o w
  by_cases hb : b = 0
  · subst hb
    have hr : mayP ⟨p, n, 0, o⟩ = eqS ⟨p, n, 0, o⟩ ⟨true, 0, 0, 0⟩ := by simp [mayP]
    rw [hr]
    generalize eqS ⟨p, n, 0, o⟩ ⟨true, 0, 0, 0⟩ = q at cE ⊢
    go_enter Tryz.func98, Tryz.ntmps98
    go_wp2
    go_ret
    exact ⟨rfl, below_box1 _ _⟩
  · have h3 : (b == 0) = false := by simpa using hb
    have hr : mayP ⟨p, n, b, o⟩ = (p && (n == 0) && placeB b o) := by simp [mayP, hb, placeB, Bool.and_assoc]
    rw [hr]
    cases p
    · go_enter Tryz.func98, Tryz.ntmps98
      go_wp2
      go_ret
      exact ⟨rfl, below_box1 _ _⟩
    · by_cases hn : n = 0
      · subst hn
        go_enter Tryz.func98, Tryz.ntmps98
        go_wp2_with (go_at_call 107; refine (cP _).mono ?_; rintro e w' ⟨rfl, rfl⟩)
        go_ret
        exact ⟨rfl, below_box1 _ _⟩
      · have h4 : (n == 0) = false := by simpa using hn
        go_enter Tryz.func98, Tryz.ntmps98
        go_wp2
        go_ret
        exact ⟨ret_b (by simp [h4]), below_box1 _ _⟩
theorem mayN_eq {k : Int} (h : 1 ≤ k ∧ k ≤ 6) (s : SC) : mayN k s = eqS s ⟨false, wrapI s.n (widthI k), 0, 0⟩ := by
  obtain ⟨p, n, b, o⟩ := s
  have h2 := wrapI_isN (width_isW h) n
  have h3 : (0 ≤ n ∧ n < 2 ^ (widthI k).toNat) ↔ n = wrapI n (widthI k) := by
    constructor
    · intro hh
      unfold wrapI
      rw [Int.emod_eq_of_lt hh.1 hh.2]
    · intro hh
      rw [hh]
      exact h2
  rw [Bool.eq_iff_iff]
  simp only [mayN, widI_eq, eqS, Bool.and_eq_true, decide_eq_true_eq, beq_iff_eq, Bool.not_eq_true']
  constructor
  · rintro ⟨⟨⟨⟨⟨_, rfl⟩, rfl⟩, rfl⟩, h5⟩, h6⟩
    exact ⟨⟨⟨rfl, h3.1 ⟨h5, of_decide_eq_true h6⟩⟩, rfl⟩, rfl⟩
  · rintro ⟨⟨⟨rfl, h5⟩, rfl⟩, rfl⟩
    have := h3.2 h5
    exact ⟨⟨⟨⟨⟨h, rfl⟩, rfl⟩, rfl⟩, this.1⟩, decide_eq_true this.2⟩
theorem isNumber_any (k : Int) (s : SC) (w : World) : Calls Tryz.prog 99 #[.int .i64 k, scV s] w fun e w' => e = .returned (.bool (mayN k s)) ∧ Below w.heap.size w w' := by
  by_cases hk : 1 ≤ k ∧ k ≤ 6
  · rw [mayN_eq hk]
    obtain ⟨p, n, b, o⟩ := s
    show Calls Tryz.prog 99 #[.int .i64 k, .agg #[.bool p, .int .i64 n, .int .i64 b, .int .i64 o]] w _
    have cE := fun w => eql_sc' p n b o false (wrapI n (widthI k)) 0 0 w
    have cW := fun w => Width_yes k hk w
    have cR := fun w => Wrap_yes n (widthI k) (width_isW hk) w
    generalize widthI k = W at *
    dsimp only
    generalize wrapI n W = m at *
    generalize eqS ⟨p, n, b, o⟩ ⟨false, m, 0, 0⟩ = q at cE ⊢
    clear hk
    go_enter Tryz.func99, Tryz.ntmps99
    go_wp2_with (first | (go_at_call 83; refine (cW _).mono ?_; rintro e w' ⟨rfl, rfl⟩) | (go_at_call 108; refine (cR _).mono ?_; rintro e w' ⟨rfl, rfl⟩))
    go_ret
    exact ⟨rfl, below_box1 _ _⟩
  · have hr : mayN k s = false := by simp [mayN, hk]
    rw [hr]
    obtain ⟨p, n, b, o⟩ := s
    show Calls Tryz.prog 99 #[.int .i64 k, .agg #[.bool p, .int .i64 n, .int .i64 b, .int .i64 o]] w _
    have cW := fun w => Width_no k hk w
    clear hr
    go_enter Tryz.func99, Tryz.ntmps99
    go_wp2_with (first | (go_at_call 83; refine (cW _).mono ?_; rintro e w' ⟨rfl, rfl⟩))
    go_ret
    exact ⟨rfl, below_box1 _ _⟩
theorem isScalar_any (k : Int) (s : SC) (w : World) : Calls Tryz.prog 90 #[.int .i64 k, scV s] w fun e w' => e = .returned (.bool (mayS k s)) ∧ Below w.heap.size w w' := by
  have cP := fun w => isPointer_any s w
  have cN := fun w => isNumber_any k s w
  by_cases hk : k = 7
  · subst hk
    have hr : mayS 7 s = mayP s := by simp [mayS]
    rw [hr]
    generalize mayP s = q at *
    obtain ⟨p, n, b, o⟩ := s
    show Calls Tryz.prog 90 #[.int .i64 7, .agg #[.bool p, .int .i64 n, .int .i64 b, .int .i64 o]] w _
    unfold scV at cP
    dsimp only at cP
    clear cN hr
    go_enter Tryz.func90, Tryz.ntmps90
    go_wp2_with (first | (go_at_call 98; refine (cP _).mono ?_; rintro e w' ⟨rfl, hb⟩))
    go_ret
    exact ⟨rfl, (below_box1 _ _).trans (hb.mono (by simp))⟩
  · have hr : mayS k s = mayN k s := by simp [mayS, hk]
    rw [hr]
    generalize mayN k s = q at *
    obtain ⟨p, n, b, o⟩ := s
    show Calls Tryz.prog 90 #[.int .i64 k, .agg #[.bool p, .int .i64 n, .int .i64 b, .int .i64 o]] w _
    unfold scV at cN
    dsimp only at cN
    have h7 : (k == 7) = false := by simpa using hk
    clear cP hr
    go_enter Tryz.func90, Tryz.ntmps90
    go_wp2_with (first | (go_at_call 99; refine (cN _).mono ?_; rintro e w' ⟨rfl, hb⟩))
    go_ret
    exact ⟨rfl, (below_box1 _ _).trans (hb.mono (by simp))⟩
theorem Check_any (k : Int) (s : SC) (w : World) : Calls Tryz.prog 81 #[.int .i64 k, scV s] w fun e w' => e = .returned (.int .i64 (if mayS k s then 0 else 1)) ∧ Below w.heap.size w w' := by
  have cP := fun w => isScalar_any k s w
  cases hm : mayS k s
  all_goals
    rw [hm] at cP
    obtain ⟨p, n, b, o⟩ := s
    show Calls Tryz.prog 81 #[.int .i64 k, .agg #[.bool p, .int .i64 n, .int .i64 b, .int .i64 o]] w _
    unfold scV at cP
    dsimp only at cP
    clear hm
    go_enter Tryz.func81, Tryz.ntmps81
    go_wp2_with (first | (go_at_call 90; refine (cP _).mono ?_; rintro e w' ⟨rfl, hb⟩))
    go_ret
    exact ⟨rfl, (below_box1 _ _).trans (hb.mono (by simp))⟩
end Go.Proofs.YtncdbjflfhfddaaGreat
