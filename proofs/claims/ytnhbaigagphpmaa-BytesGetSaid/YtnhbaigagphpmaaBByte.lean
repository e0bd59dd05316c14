/- Package bytes: which scalars, and which bytes, may be; the document's own asking. -/
import Derived.Test.YtnhbaigagphpmaaBSmall
namespace Go.Proofs.Ytnhbaigagphpmaa
open Go.ChangeShapes Go.WideShapes Go.ChangeAt Go.RowKit Go.Joins Go.Deep
set_option linter.unusedVariables false

theorem isPointer_any (s : SC) (w : World) : Calls Try.prog 78 #[scV s] w fun e w' => e = .returned (.bool (mayP s)) ∧ Below w.heap.size w w' := by
  obtain ⟨p, n, b, o⟩ := s
  show Calls Try.prog 78 #[.agg #[.bool p, .int .i64 n, .int .i64 b, .int .i64 o]] w _
  have cE := fun w => eql_sc' p n b o true 0 0 0 w
  have cP := fun w => isPlace_any b o w
  by_cases hb : b = 0
  · subst hb
    have hr : mayP ⟨p, n, 0, o⟩ = eqS ⟨p, n, 0, o⟩ ⟨true, 0, 0, 0⟩ := by simp [mayP]
    rw [hr]
    generalize eqS ⟨p, n, 0, o⟩ ⟨true, 0, 0, 0⟩ = q at cE ⊢
    go_enter Try.func78, Try.ntmps78
    go_wp2
    go_ret
    exact ⟨rfl, below_box1 _ _⟩
  · have h3 : (b == 0) = false := by simpa using hb
    have hr : mayP ⟨p, n, b, o⟩ = (p && (n == 0) && placeB b o) := by simp [mayP, hb, placeB, Bool.and_assoc]
    rw [hr]
    cases p
    · go_enter Try.func78, Try.ntmps78
      go_wp2
      go_ret
      exact ⟨rfl, below_box1 _ _⟩
    · by_cases hn : n = 0
      · subst hn
        go_enter Try.func78, Try.ntmps78
        go_wp2_with (go_at_call 72; refine (cP _).mono ?_; rintro e w' ⟨rfl, rfl⟩)
        go_ret
        exact ⟨rfl, below_box1 _ _⟩
      · have h4 : (n == 0) = false := by simpa using hn
        go_enter Try.func78, Try.ntmps78
        go_wp2
        go_ret
        exact ⟨ret_b (by simp [h4]), below_box1 _ _⟩
theorem mayN_eq {k : Int} (h : 1 ≤ k ∧ k ≤ 6) (s : SC) : mayN k s = eqS s ⟨false, wrapI s.n (widthI k), 0, 0⟩ := by
  obtain ⟨p, n, b, o⟩ := s
  have h2 := wrapI_isN (width_isW h) n
  have h3 : (0 ≤ n ∧ n < 2 ^ (widthI k).toNat) ↔ n = wrapI n (widthI k) := by
    constructor
    · intro hh
      unfold wrapI
      rw [Int.emod_eq_of_lt hh.1 hh.2]
    · intro hh
      rw [hh]
      exact h2
  rw [Bool.eq_iff_iff]
  simp only [mayN, widI_eq, eqS, Bool.and_eq_true, decide_eq_true_eq, beq_iff_eq, Bool.not_eq_true']
  constructor
  · rintro ⟨⟨⟨⟨⟨_, rfl⟩, rfl⟩, rfl⟩, h5⟩, h6⟩
    exact ⟨⟨⟨rfl, h3.1 ⟨h5, of_decide_eq_true h6⟩⟩, rfl⟩, rfl⟩
  · rintro ⟨⟨⟨rfl, h5⟩, rfl⟩, rfl⟩
    have := h3.2 h5
    exact ⟨⟨⟨⟨⟨h, rfl⟩, rfl⟩, rfl⟩, this.1⟩, decide_eq_true this.2⟩
theorem isNumber_any (k : Int) (s : SC) (w : World) : Calls Try.prog 79 #[.int .i64 k, scV s] w fun e w' => e = .returned (.bool (mayN k s)) ∧ Below w.heap.size w w' := by
  by_cases hk : 1 ≤ k ∧ k ≤ 6
  · rw [mayN_eq hk]
    obtain ⟨p, n, b, o⟩ := s
    show Calls Try.prog 79 #[.int .i64 k, .agg #[.bool p, .int .i64 n, .int .i64 b, .int .i64 o]] w _
    have cE := fun w => eql_sc' p n b o false (wrapI n (widthI k)) 0 0 w
    have cW := fun w => Width_yes k hk w
    have cR := fun w => Wrap_yes n (widthI k) (width_isW hk) w
    generalize widthI k = W at *
    dsimp only
    generalize wrapI n W = m at *
    generalize eqS ⟨p, n, b, o⟩ ⟨false, m, 0, 0⟩ = q at cE ⊢
    clear hk
    go_enter Try.func79, Try.ntmps79
    go_wp2_with (first | (go_at_call 87; refine (cW _).mono ?_; rintro e w' ⟨rfl, rfl⟩) | (go_at_call 88; refine (cR _).mono ?_; rintro e w' ⟨rfl, rfl⟩))
    go_ret
    exact ⟨rfl, below_box1 _ _⟩
  · have hr : mayN k s = false := by simp [mayN, hk]
    rw [hr]
    obtain ⟨p, n, b, o⟩ := s
    show Calls Try.prog 79 #[.int .i64 k, .agg #[.bool p, .int .i64 n, .int .i64 b, .int .i64 o]] w _
    have cW := fun w => Width_no k hk w
    clear hr
    go_enter Try.func79, Try.ntmps79
    go_wp2_with (first | (go_at_call 87; refine (cW _).mono ?_; rintro e w' ⟨rfl, rfl⟩))
    go_ret
    exact ⟨rfl, below_box1 _ _⟩
theorem isScalar_any (k : Int) (s : SC) (w : World) : Calls Try.prog 62 #[.int .i64 k, scV s] w fun e w' => e = .returned (.bool (mayS k s)) ∧ Below w.heap.size w w' := by
  have cP := fun w => isPointer_any s w
  have cN := fun w => isNumber_any k s w
  by_cases hk : k = 7
  · subst hk
    have hr : mayS 7 s = mayP s := by simp [mayS]
    rw [hr]
    generalize mayP s = q at *
    obtain ⟨p, n, b, o⟩ := s
    show Calls Try.prog 62 #[.int .i64 7, .agg #[.bool p, .int .i64 n, .int .i64 b, .int .i64 o]] w _
    unfold scV at cP
    dsimp only at cP
    clear cN hr
    go_enter Try.func62, Try.ntmps62
    go_wp2_with (first | (go_at_call 78; refine (cP _).mono ?_; rintro e w' ⟨rfl, hb⟩))
    go_ret
    exact ⟨rfl, (below_box1 _ _).trans (hb.mono (by simp))⟩
  · have hr : mayS k s = mayN k s := by simp [mayS, hk]
    rw [hr]
    generalize mayN k s = q at *
    obtain ⟨p, n, b, o⟩ := s
    show Calls Try.prog 62 #[.int .i64 k, .agg #[.bool p, .int .i64 n, .int .i64 b, .int .i64 o]] w _
    unfold scV at cN
    dsimp only at cN
    have h7 : (k == 7) = false := by simpa using hk
    clear cP hr
    go_enter Try.func62, Try.ntmps62
    go_wp2_with (first | (go_at_call 79; refine (cN _).mono ?_; rintro e w' ⟨rfl, hb⟩))
    go_ret
    exact ⟨rfl, (below_box1 _ _).trans (hb.mono (by simp))⟩
theorem Check_any (k : Int) (s : SC) (w : World) : Calls Try.prog 81 #[.int .i64 k, scV s] w fun e w' => e = .returned (.int .i64 (if mayS k s then 0 else 1)) ∧ Below w.heap.size w w' := by
  have cP := fun w => isScalar_any k s w
  cases hm : mayS k s
  all_goals
    rw [hm] at cP
    obtain ⟨p, n, b, o⟩ := s
    show Calls Try.prog 81 #[.int .i64 k, .agg #[.bool p, .int .i64 n, .int .i64 b, .int .i64 o]] w _
    unfold scV at cP
    dsimp only at cP
    clear hm
    go_enter Try.func81, Try.ntmps81
    go_wp2_with (first | (go_at_call 62; refine (cP _).mono ?_; rintro e w' ⟨rfl, hb⟩))
    go_ret
    exact ⟨rfl, (below_box1 _ _).trans (hb.mono (by simp))⟩
end Go.Proofs.Ytnhbaigagphpmaa

/- Package bytes: which bytes may be; the document's own asking of scalars and bytes. -/
namespace Go.Proofs.Ytnhbaigagphpmaa
open Go.ChangeShapes Go.WideShapes Go.ChangeAt Go.RowKit Go.Joins Go.Deep
set_option linter.unusedVariables false

theorem flipC {P : Program} {f : Nat} {args : Array Value} {w : World} {v : Value} (h : Calls P f args w fun e w' => e = .returned v ∧ w = w') : Calls P f args w fun e w' => e = .returned v ∧ w' = w := h.mono fun _ _ ⟨a, b⟩ => ⟨a, b.symm⟩
theorem mayP_eq (p : Bool) (n b o : Int) : mayP ⟨p, n, b, o⟩ = (p && (n == 0) && upTo b 0 32 && upTo o 0 32 && (decide (0 < b) || (o == 0))) := by
  rw [Bool.eq_iff_iff]
  by_cases hb : b = 0
  · subst hb
    simp only [mayP, eqS, upTo, if_true, Bool.and_eq_true, Bool.or_eq_true, beq_iff_eq, decide_eq_true_eq]
    constructor
    · rintro ⟨⟨⟨rfl, rfl⟩, _⟩, rfl⟩; exact ⟨⟨⟨⟨rfl, rfl⟩, by omega, by omega⟩, by omega, by omega⟩, Or.inr rfl⟩
    · rintro ⟨⟨⟨⟨rfl, rfl⟩, _⟩, _⟩, h⟩; exact ⟨⟨⟨rfl, rfl⟩, trivial⟩, by omega⟩
  · simp [mayP, hb, upTo]
    constructor
    · rintro ⟨⟨⟨h1, h2⟩, h3⟩, h4⟩; exact ⟨⟨⟨⟨h1, h2⟩, by omega⟩, h4⟩, Or.inl (by omega)⟩
    · rintro ⟨⟨⟨⟨h1, h2⟩, h3⟩, h4⟩, h5⟩; exact ⟨⟨⟨h1, h2⟩, by omega⟩, h4⟩
theorem rScalar_p (s : SC) (w : World) : Calls Try.prog 23 #[.int .i64 7, scV s] w fun e w' => e = .returned (.bool (mayS 7 s)) ∧ Below w.heap.size w w' := by
  obtain ⟨p, n, b, o⟩ := s
  have hr : mayS 7 ⟨p, n, b, o⟩ = mayP ⟨p, n, b, o⟩ := by simp [mayS]
  rw [hr, mayP_eq]
  clear hr
  show Calls Try.prog 23 #[.int .i64 7, .agg #[.bool p, .int .i64 n, .int .i64 b, .int .i64 o]] w _
  have c1 := fun w => Num_any b 32 w
  have c2 := fun w => Num_any o 32 w
  cases p
  · go_enter Try.func23, Try.ntmps23
    go_wp2
    go_ret
    exact ⟨rfl, below_box1 _ _⟩
  · by_cases hn : n = 0
    · subst hn
      cases h1 : upTo b 0 32
      · rw [h1] at c1
        clear h1 c2
        go_enter Try.func23, Try.ntmps23
        go_wp2_with (go_at_call 42; (with_reducible refine (c1 _).mono ?_); rintro e w' ⟨rfl, rfl⟩)
        go_ret
        exact ⟨rfl, below_box1 _ _⟩
      · rw [h1] at c1
        clear h1
        cases h2 : upTo o 0 32
        · rw [h2] at c2
          clear h2
          go_enter Try.func23, Try.ntmps23
          go_wp2_with (go_at_call 42; (first | ((with_reducible refine (c1 _).mono ?_); rintro e w' ⟨rfl, rfl⟩) | ((with_reducible refine (c2 _).mono ?_); rintro e w' ⟨rfl, rfl⟩)))
          go_ret
          exact ⟨rfl, below_box1 _ _⟩
        · rw [h2] at c2
          clear h2
          by_cases h3 : 0 < b
          · go_enter Try.func23, Try.ntmps23
            go_wp2_with (go_at_call 42; (first | ((with_reducible refine (c1 _).mono ?_); rintro e w' ⟨rfl, rfl⟩) | ((with_reducible refine (c2 _).mono ?_); rintro e w' ⟨rfl, rfl⟩)))
            go_ret
            exact ⟨ret_b (by simp [h3]), below_box1 _ _⟩
          · have h4 : decide (0 < b) = false := by simp; omega
            go_enter Try.func23, Try.ntmps23
            go_wp2_with (go_at_call 42; (first | ((with_reducible refine (c1 _).mono ?_); rintro e w' ⟨rfl, rfl⟩) | ((with_reducible refine (c2 _).mono ?_); rintro e w' ⟨rfl, rfl⟩)))
            go_ret
            exact ⟨ret_b (by simp [h4]), below_box1 _ _⟩
    · have h4 : (n == 0) = false := by simpa using hn
      go_enter Try.func23, Try.ntmps23
      go_wp2
      go_ret
      exact ⟨ret_b (by simp [h4]), below_box1 _ _⟩
def isNB (n W : Int) : Bool := decide (0 ≤ n) && decide (n < 2 ^ W.toNat)
theorem isNB_iff {n W : Int} : isNB n W = true ↔ isN n W := by simp [isNB, isN]
theorem rScalar_n (k : Int) (hk7 : k ≠ 7) (s : SC) (w : World) : Calls Try.prog 23 #[.int .i64 k, scV s] w fun e w' => e = .returned (.bool (mayS k s)) ∧ Below w.heap.size w w' := by
  have hr : mayS k s = mayN k s := by simp [mayS, hk7]
  rw [hr]
  obtain ⟨p, n, b, o⟩ := s
  show Calls Try.prog 23 #[.int .i64 k, .agg #[.bool p, .int .i64 n, .int .i64 b, .int .i64 o]] w _
  have h7 : (k == 7) = false := by simpa using hk7
  have cW := fun w => flipC (rWidth_any k w)
  by_cases hk : 1 ≤ k ∧ k ≤ 6
  · have hW := width_isW hk
    have h0 := width_pos hk
    have hd : decide (0 < widthI k) = true := by simpa using h0
    have hm : mayN k ⟨p, n, b, o⟩ = (!p && (b == 0) && (o == 0) && isNB n (widthI k)) := by
      simp [mayN, hk, isNB, widI_eq, Bool.and_assoc]
      rfl
    rw [hm]
    have cN : ∀ w, Calls Try.prog 47 #[.int .i64 n, .int .i64 (widthI k)] w fun e w' => e = .returned (.bool (isNB n (widthI k))) ∧ w' = w := fun w => by
      cases h : isNB n (widthI k)
      · exact flipC (rNumber_no n (widthI k) hW (fun hh => by rw [isNB_iff.2 hh] at h; cases h) w)
      · exact flipC (rNumber_yes n (widthI k) hW (isNB_iff.1 h) w)
    clear hm hr hk7 hW
    generalize isNB n (widthI k) = q at *
    generalize widthI k = W at *
    cases p
    · by_cases hb : b = 0
      · subst hb
        by_cases ho : o = 0
        · subst ho
          go_enter Try.func23, Try.ntmps23
          go_wp2
          go_quiet ((first | (go_at_call 37; (with_reducible exact Calls.quiet_of_same (cW _))) | (go_at_call 47; (with_reducible exact Calls.quiet_of_same (cN _)))))
          go_wp2
          go_ret
          exact ⟨rfl, (below_box1 _ _).trans (Joins.below_draws _ _ _)⟩
        · have h4 : (o == 0) = false := by simpa using ho
          go_enter Try.func23, Try.ntmps23
          go_wp2
          go_quiet ((go_at_call 37; (with_reducible exact Calls.quiet_of_same (cW _))))
          go_wp2
          go_ret
          exact ⟨ret_b (by simp [h4]), (below_box1 _ _).trans (Joins.below_draws _ _ _)⟩
      · have h4 : (b == 0) = false := by simpa using hb
        go_enter Try.func23, Try.ntmps23
        go_wp2
        go_quiet ((go_at_call 37; (with_reducible exact Calls.quiet_of_same (cW _))))
        go_wp2
        go_ret
        exact ⟨ret_b (by simp [h4]), (below_box1 _ _).trans (Joins.below_draws _ _ _)⟩
    · skip
      go_enter Try.func23, Try.ntmps23
      go_wp2
      go_quiet ((go_at_call 37; (with_reducible exact Calls.quiet_of_same (cW _))))
      go_wp2
      go_ret
      exact ⟨rfl, (below_box1 _ _).trans (Joins.below_draws _ _ _)⟩
  · have hr2 : mayN k ⟨p, n, b, o⟩ = false := by simp [mayN, hk]
    rw [hr2]
    have h0 := width_no hk
    rw [h0] at cW
    clear hr hr2 h0 hk hk7
    go_enter Try.func23, Try.ntmps23
    go_wp2
    go_quiet ((go_at_call 37; (with_reducible exact Calls.quiet_of_same (cW _))))
    go_wp2
    go_ret
    exact ⟨rfl, (below_box1 _ _).trans (Joins.below_draws _ _ _)⟩
theorem rScalar_any (k : Int) (s : SC) (w : World) : Calls Try.prog 23 #[.int .i64 k, scV s] w fun e w' => e = .returned (.bool (mayS k s)) ∧ Below w.heap.size w w' := by
  by_cases hk : k = 7
  · subst hk; exact rScalar_p s w
  · exact rScalar_n k hk s w

end Go.Proofs.Ytnhbaigagphpmaa
