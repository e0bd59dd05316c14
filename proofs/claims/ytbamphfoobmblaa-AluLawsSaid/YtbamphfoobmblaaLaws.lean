/- The laws over twos and ones: their walks. -/
import Derived.Test.YtbamphfoobmblaaOnes
namespace Go.Proofs.Ytbamphfoobmblaa
open Go.ChangeShapes Go.WideShapes Go.ChangeAt Go.RowKit Go.Joins Go.Deep
set_option linter.unusedVariables false

/-- a literal's row, read as integers -/
theorem ints_lits (w : World) (xs : List Int) (hw : ∀ x ∈ xs, (Lit.int .i64 x).wf = true) (hm : xs.length ≤ maxLen) : IsInts (w.alloc (.cells (xs.map (Value.int .i64)).toArray 3)) (some ⟨w.heap.size, 0, none⟩) xs.length xs := by
  have h := ownsRow_lit w w.heap.size 3 1 xs.length (xs.map (Value.int .i64)).toArray (Nat.le_refl _) (by simp) hm
  obtain ⟨p, cap, he, hI⟩ := ints_own (xs := xs) (by simpa using h) (fun h => by cases h) hw
  cases he
  exact hI

theorem AluAdd_any (pn : Option Addr) (ln cn : Nat) (zs : List Int) (ps : Option Addr) (ls cs : Nat) (ss : List ByteArray) (pa : Option Addr) (la ca : Nat) (w : World) (hn : IsInts w pn ln zs) (hs : IsStrs w ps ls ss) (hcn : pn = none → cn = 0) (r1 : ln ≤ 17592186044416) (r2 : la ≤ 17592186044416) : Calls Try.prog 6 #[.agg #[.slice pn ln cn, .slice ps ls cs, .slice pa la ca]] w fun e w' => e = .returned (.bool true) ∧ Below w.heap.size w w' := by
  have hb := (below_box w (.cells #[.slice pn ln cn, .slice ps ls cs, .slice pa la ca] 26)).trans ((below_box (w.alloc (.cells #[.slice pn ln cn, .slice ps ls cs, .slice pa la ca] 26)) (.cells #[.int .i64 8] 3)).mono (by simp))
  have hI : IsInts ((w.alloc (.cells #[.slice pn ln cn, .slice ps ls cs, .slice pa la ca] 26)).alloc (.cells #[.int .i64 8] 3)) (some ⟨w.heap.size + 1, 0, none⟩) 1 [8] := by
    have := ints_lits (w.alloc (.cells #[.slice pn ln cn, .slice ps ls cs, .slice pa la ca] 26)) [8] (by decide) (by unfold maxLen; decide)
    rwa [World.size_alloc] at this
  have ct := twos_any pn ln cn zs ps ls cs ss pa la ca _ 1 1 [8] _ (hn.below hb) (hs.below hb) hcn r1 r2 hI
  go_enter Try.func6, Try.ntmps6
  go_wp2_with (go_at_call 21; refine ct.mono ?_; rintro e w1 ⟨rfl, m1⟩)
  go_ret
  exact ⟨rfl, hb.trans (m1.mono (by simp; omega))⟩
theorem AluSub_any (pn : Option Addr) (ln cn : Nat) (zs : List Int) (ps : Option Addr) (ls cs : Nat) (ss : List ByteArray) (pa : Option Addr) (la ca : Nat) (w : World) (hn : IsInts w pn ln zs) (hs : IsStrs w ps ls ss) (hcn : pn = none → cn = 0) (r1 : ln ≤ 17592186044416) (r2 : la ≤ 17592186044416) : Calls Try.prog 7 #[.agg #[.slice pn ln cn, .slice ps ls cs, .slice pa la ca]] w fun e w' => e = .returned (.bool true) ∧ Below w.heap.size w w' := by
  have hb := (below_box w (.cells #[.slice pn ln cn, .slice ps ls cs, .slice pa la ca] 26)).trans ((below_box (w.alloc (.cells #[.slice pn ln cn, .slice ps ls cs, .slice pa la ca] 26)) (.cells #[.int .i64 9] 3)).mono (by simp))
  have hI : IsInts ((w.alloc (.cells #[.slice pn ln cn, .slice ps ls cs, .slice pa la ca] 26)).alloc (.cells #[.int .i64 9] 3)) (some ⟨w.heap.size + 1, 0, none⟩) 1 [9] := by
    have := ints_lits (w.alloc (.cells #[.slice pn ln cn, .slice ps ls cs, .slice pa la ca] 26)) [9] (by decide) (by unfold maxLen; decide)
    rwa [World.size_alloc] at this
  have ct := twos_any pn ln cn zs ps ls cs ss pa la ca _ 1 1 [9] _ (hn.below hb) (hs.below hb) hcn r1 r2 hI
  go_enter Try.func7, Try.ntmps7
  go_wp2_with (go_at_call 21; refine ct.mono ?_; rintro e w1 ⟨rfl, m1⟩)
  go_ret
  exact ⟨rfl, hb.trans (m1.mono (by simp; omega))⟩
theorem AluMul_any (pn : Option Addr) (ln cn : Nat) (zs : List Int) (ps : Option Addr) (ls cs : Nat) (ss : List ByteArray) (pa : Option Addr) (la ca : Nat) (w : World) (hn : IsInts w pn ln zs) (hs : IsStrs w ps ls ss) (hcn : pn = none → cn = 0) (r1 : ln ≤ 17592186044416) (r2 : la ≤ 17592186044416) : Calls Try.prog 8 #[.agg #[.slice pn ln cn, .slice ps ls cs, .slice pa la ca]] w fun e w' => e = .returned (.bool true) ∧ Below w.heap.size w w' := by
  have hb := (below_box w (.cells #[.slice pn ln cn, .slice ps ls cs, .slice pa la ca] 26)).trans ((below_box (w.alloc (.cells #[.slice pn ln cn, .slice ps ls cs, .slice pa la ca] 26)) (.cells #[.int .i64 10] 3)).mono (by simp))
  have hI : IsInts ((w.alloc (.cells #[.slice pn ln cn, .slice ps ls cs, .slice pa la ca] 26)).alloc (.cells #[.int .i64 10] 3)) (some ⟨w.heap.size + 1, 0, none⟩) 1 [10] := by
    have := ints_lits (w.alloc (.cells #[.slice pn ln cn, .slice ps ls cs, .slice pa la ca] 26)) [10] (by decide) (by unfold maxLen; decide)
    rwa [World.size_alloc] at this
  have ct := twos_any pn ln cn zs ps ls cs ss pa la ca _ 1 1 [10] _ (hn.below hb) (hs.below hb) hcn r1 r2 hI
  go_enter Try.func8, Try.ntmps8
  go_wp2_with (go_at_call 21; refine ct.mono ?_; rintro e w1 ⟨rfl, m1⟩)
  go_ret
  exact ⟨rfl, hb.trans (m1.mono (by simp; omega))⟩
theorem AluDiv_any (pn : Option Addr) (ln cn : Nat) (zs : List Int) (ps : Option Addr) (ls cs : Nat) (ss : List ByteArray) (pa : Option Addr) (la ca : Nat) (w : World) (hn : IsInts w pn ln zs) (hs : IsStrs w ps ls ss) (hcn : pn = none → cn = 0) (r1 : ln ≤ 17592186044416) (r2 : la ≤ 17592186044416) : Calls Try.prog 9 #[.agg #[.slice pn ln cn, .slice ps ls cs, .slice pa la ca]] w fun e w' => e = .returned (.bool true) ∧ Below w.heap.size w w' := by
  have hb := (below_box w (.cells #[.slice pn ln cn, .slice ps ls cs, .slice pa la ca] 26)).trans ((below_box (w.alloc (.cells #[.slice pn ln cn, .slice ps ls cs, .slice pa la ca] 26)) (.cells #[.int .i64 11] 3)).mono (by simp))
  have hI : IsInts ((w.alloc (.cells #[.slice pn ln cn, .slice ps ls cs, .slice pa la ca] 26)).alloc (.cells #[.int .i64 11] 3)) (some ⟨w.heap.size + 1, 0, none⟩) 1 [11] := by
    have := ints_lits (w.alloc (.cells #[.slice pn ln cn, .slice ps ls cs, .slice pa la ca] 26)) [11] (by decide) (by unfold maxLen; decide)
    rwa [World.size_alloc] at this
  have ct := twos_any pn ln cn zs ps ls cs ss pa la ca _ 1 1 [11] _ (hn.below hb) (hs.below hb) hcn r1 r2 hI
  go_enter Try.func9, Try.ntmps9
  go_wp2_with (go_at_call 21; refine ct.mono ?_; rintro e w1 ⟨rfl, m1⟩)
  go_ret
  exact ⟨rfl, hb.trans (m1.mono (by simp; omega))⟩
theorem AluRem_any (pn : Option Addr) (ln cn : Nat) (zs : List Int) (ps : Option Addr) (ls cs : Nat) (ss : List ByteArray) (pa : Option Addr) (la ca : Nat) (w : World) (hn : IsInts w pn ln zs) (hs : IsStrs w ps ls ss) (hcn : pn = none → cn = 0) (r1 : ln ≤ 17592186044416) (r2 : la ≤ 17592186044416) : Calls Try.prog 10 #[.agg #[.slice pn ln cn, .slice ps ls cs, .slice pa la ca]] w fun e w' => e = .returned (.bool true) ∧ Below w.heap.size w w' := by
  have hb := (below_box w (.cells #[.slice pn ln cn, .slice ps ls cs, .slice pa la ca] 26)).trans ((below_box (w.alloc (.cells #[.slice pn ln cn, .slice ps ls cs, .slice pa la ca] 26)) (.cells #[.int .i64 12] 3)).mono (by simp))
  have hI : IsInts ((w.alloc (.cells #[.slice pn ln cn, .slice ps ls cs, .slice pa la ca] 26)).alloc (.cells #[.int .i64 12] 3)) (some ⟨w.heap.size + 1, 0, none⟩) 1 [12] := by
    have := ints_lits (w.alloc (.cells #[.slice pn ln cn, .slice ps ls cs, .slice pa la ca] 26)) [12] (by decide) (by unfold maxLen; decide)
    rwa [World.size_alloc] at this
  have ct := twos_any pn ln cn zs ps ls cs ss pa la ca _ 1 1 [12] _ (hn.below hb) (hs.below hb) hcn r1 r2 hI
  go_enter Try.func10, Try.ntmps10
  go_wp2_with (go_at_call 21; refine ct.mono ?_; rintro e w1 ⟨rfl, m1⟩)
  go_ret
  exact ⟨rfl, hb.trans (m1.mono (by simp; omega))⟩
theorem AluAnd_any (pn : Option Addr) (ln cn : Nat) (zs : List Int) (ps : Option Addr) (ls cs : Nat) (ss : List ByteArray) (pa : Option Addr) (la ca : Nat) (w : World) (hn : IsInts w pn ln zs) (hs : IsStrs w ps ls ss) (hcn : pn = none → cn = 0) (r1 : ln ≤ 17592186044416) (r2 : la ≤ 17592186044416) : Calls Try.prog 11 #[.agg #[.slice pn ln cn, .slice ps ls cs, .slice pa la ca]] w fun e w' => e = .returned (.bool true) ∧ Below w.heap.size w w' := by
  have hb := (below_box w (.cells #[.slice pn ln cn, .slice ps ls cs, .slice pa la ca] 26)).trans ((below_box (w.alloc (.cells #[.slice pn ln cn, .slice ps ls cs, .slice pa la ca] 26)) (.cells #[.int .i64 13] 3)).mono (by simp))
  have hI : IsInts ((w.alloc (.cells #[.slice pn ln cn, .slice ps ls cs, .slice pa la ca] 26)).alloc (.cells #[.int .i64 13] 3)) (some ⟨w.heap.size + 1, 0, none⟩) 1 [13] := by
    have := ints_lits (w.alloc (.cells #[.slice pn ln cn, .slice ps ls cs, .slice pa la ca] 26)) [13] (by decide) (by unfold maxLen; decide)
    rwa [World.size_alloc] at this
  have ct := twos_any pn ln cn zs ps ls cs ss pa la ca _ 1 1 [13] _ (hn.below hb) (hs.below hb) hcn r1 r2 hI
  go_enter Try.func11, Try.ntmps11
  go_wp2_with (go_at_call 21; refine ct.mono ?_; rintro e w1 ⟨rfl, m1⟩)
  go_ret
  exact ⟨rfl, hb.trans (m1.mono (by simp; omega))⟩
theorem AluOr_any (pn : Option Addr) (ln cn : Nat) (zs : List Int) (ps : Option Addr) (ls cs : Nat) (ss : List ByteArray) (pa : Option Addr) (la ca : Nat) (w : World) (hn : IsInts w pn ln zs) (hs : IsStrs w ps ls ss) (hcn : pn = none → cn = 0) (r1 : ln ≤ 17592186044416) (r2 : la ≤ 17592186044416) : Calls Try.prog 12 #[.agg #[.slice pn ln cn, .slice ps ls cs, .slice pa la ca]] w fun e w' => e = .returned (.bool true) ∧ Below w.heap.size w w' := by
  have hb := (below_box w (.cells #[.slice pn ln cn, .slice ps ls cs, .slice pa la ca] 26)).trans ((below_box (w.alloc (.cells #[.slice pn ln cn, .slice ps ls cs, .slice pa la ca] 26)) (.cells #[.int .i64 14] 3)).mono (by simp))
  have hI : IsInts ((w.alloc (.cells #[.slice pn ln cn, .slice ps ls cs, .slice pa la ca] 26)).alloc (.cells #[.int .i64 14] 3)) (some ⟨w.heap.size + 1, 0, none⟩) 1 [14] := by
    have := ints_lits (w.alloc (.cells #[.slice pn ln cn, .slice ps ls cs, .slice pa la ca] 26)) [14] (by decide) (by unfold maxLen; decide)
    rwa [World.size_alloc] at this
  have ct := twos_any pn ln cn zs ps ls cs ss pa la ca _ 1 1 [14] _ (hn.below hb) (hs.below hb) hcn r1 r2 hI
  go_enter Try.func12, Try.ntmps12
  go_wp2_with (go_at_call 21; refine ct.mono ?_; rintro e w1 ⟨rfl, m1⟩)
  go_ret
  exact ⟨rfl, hb.trans (m1.mono (by simp; omega))⟩
theorem AluXor_any (pn : Option Addr) (ln cn : Nat) (zs : List Int) (ps : Option Addr) (ls cs : Nat) (ss : List ByteArray) (pa : Option Addr) (la ca : Nat) (w : World) (hn : IsInts w pn ln zs) (hs : IsStrs w ps ls ss) (hcn : pn = none → cn = 0) (r1 : ln ≤ 17592186044416) (r2 : la ≤ 17592186044416) : Calls Try.prog 13 #[.agg #[.slice pn ln cn, .slice ps ls cs, .slice pa la ca]] w fun e w' => e = .returned (.bool true) ∧ Below w.heap.size w w' := by
  have hb := (below_box w (.cells #[.slice pn ln cn, .slice ps ls cs, .slice pa la ca] 26)).trans ((below_box (w.alloc (.cells #[.slice pn ln cn, .slice ps ls cs, .slice pa la ca] 26)) (.cells #[.int .i64 15] 3)).mono (by simp))
  have hI : IsInts ((w.alloc (.cells #[.slice pn ln cn, .slice ps ls cs, .slice pa la ca] 26)).alloc (.cells #[.int .i64 15] 3)) (some ⟨w.heap.size + 1, 0, none⟩) 1 [15] := by
    have := ints_lits (w.alloc (.cells #[.slice pn ln cn, .slice ps ls cs, .slice pa la ca] 26)) [15] (by decide) (by unfold maxLen; decide)
    rwa [World.size_alloc] at this
  have ct := twos_any pn ln cn zs ps ls cs ss pa la ca _ 1 1 [15] _ (hn.below hb) (hs.below hb) hcn r1 r2 hI
  go_enter Try.func13, Try.ntmps13
  go_wp2_with (go_at_call 21; refine ct.mono ?_; rintro e w1 ⟨rfl, m1⟩)
  go_ret
  exact ⟨rfl, hb.trans (m1.mono (by simp; omega))⟩
theorem AluShl_any (pn : Option Addr) (ln cn : Nat) (zs : List Int) (ps : Option Addr) (ls cs : Nat) (ss : List ByteArray) (pa : Option Addr) (la ca : Nat) (w : World) (hn : IsInts w pn ln zs) (hs : IsStrs w ps ls ss) (hcn : pn = none → cn = 0) (r1 : ln ≤ 17592186044416) (r2 : la ≤ 17592186044416) : Calls Try.prog 14 #[.agg #[.slice pn ln cn, .slice ps ls cs, .slice pa la ca]] w fun e w' => e = .returned (.bool true) ∧ Below w.heap.size w w' := by
  have hb := (below_box w (.cells #[.slice pn ln cn, .slice ps ls cs, .slice pa la ca] 26)).trans ((below_box (w.alloc (.cells #[.slice pn ln cn, .slice ps ls cs, .slice pa la ca] 26)) (.cells #[.int .i64 16] 3)).mono (by simp))
  have hI : IsInts ((w.alloc (.cells #[.slice pn ln cn, .slice ps ls cs, .slice pa la ca] 26)).alloc (.cells #[.int .i64 16] 3)) (some ⟨w.heap.size + 1, 0, none⟩) 1 [16] := by
    have := ints_lits (w.alloc (.cells #[.slice pn ln cn, .slice ps ls cs, .slice pa la ca] 26)) [16] (by decide) (by unfold maxLen; decide)
    rwa [World.size_alloc] at this
  have ct := twos_any pn ln cn zs ps ls cs ss pa la ca _ 1 1 [16] _ (hn.below hb) (hs.below hb) hcn r1 r2 hI
  go_enter Try.func14, Try.ntmps14
  go_wp2_with (go_at_call 21; refine ct.mono ?_; rintro e w1 ⟨rfl, m1⟩)
  go_ret
  exact ⟨rfl, hb.trans (m1.mono (by simp; omega))⟩
theorem AluShr_any (pn : Option Addr) (ln cn : Nat) (zs : List Int) (ps : Option Addr) (ls cs : Nat) (ss : List ByteArray) (pa : Option Addr) (la ca : Nat) (w : World) (hn : IsInts w pn ln zs) (hs : IsStrs w ps ls ss) (hcn : pn = none → cn = 0) (r1 : ln ≤ 17592186044416) (r2 : la ≤ 17592186044416) : Calls Try.prog 15 #[.agg #[.slice pn ln cn, .slice ps ls cs, .slice pa la ca]] w fun e w' => e = .returned (.bool true) ∧ Below w.heap.size w w' := by
  have hb := (below_box w (.cells #[.slice pn ln cn, .slice ps ls cs, .slice pa la ca] 26)).trans ((below_box (w.alloc (.cells #[.slice pn ln cn, .slice ps ls cs, .slice pa la ca] 26)) (.cells #[.int .i64 17] 3)).mono (by simp))
  have hI : IsInts ((w.alloc (.cells #[.slice pn ln cn, .slice ps ls cs, .slice pa la ca] 26)).alloc (.cells #[.int .i64 17] 3)) (some ⟨w.heap.size + 1, 0, none⟩) 1 [17] := by
    have := ints_lits (w.alloc (.cells #[.slice pn ln cn, .slice ps ls cs, .slice pa la ca] 26)) [17] (by decide) (by unfold maxLen; decide)
    rwa [World.size_alloc] at this
  have ct := twos_any pn ln cn zs ps ls cs ss pa la ca _ 1 1 [17] _ (hn.below hb) (hs.below hb) hcn r1 r2 hI
  go_enter Try.func15, Try.ntmps15
  go_wp2_with (go_at_call 21; refine ct.mono ?_; rintro e w1 ⟨rfl, m1⟩)
  go_ret
  exact ⟨rfl, hb.trans (m1.mono (by simp; omega))⟩
theorem AluEq_any (pn : Option Addr) (ln cn : Nat) (zs : List Int) (ps : Option Addr) (ls cs : Nat) (ss : List ByteArray) (pa : Option Addr) (la ca : Nat) (w : World) (hn : IsInts w pn ln zs) (hs : IsStrs w ps ls ss) (hcn : pn = none → cn = 0) (r1 : ln ≤ 17592186044416) (r2 : la ≤ 17592186044416) : Calls Try.prog 16 #[.agg #[.slice pn ln cn, .slice ps ls cs, .slice pa la ca]] w fun e w' => e = .returned (.bool true) ∧ Below w.heap.size w w' := by
  have hb := (below_box w (.cells #[.slice pn ln cn, .slice ps ls cs, .slice pa la ca] 26)).trans ((below_box (w.alloc (.cells #[.slice pn ln cn, .slice ps ls cs, .slice pa la ca] 26)) (.cells #[.int .i64 18] 3)).mono (by simp))
  have hI : IsInts ((w.alloc (.cells #[.slice pn ln cn, .slice ps ls cs, .slice pa la ca] 26)).alloc (.cells #[.int .i64 18] 3)) (some ⟨w.heap.size + 1, 0, none⟩) 1 [18] := by
    have := ints_lits (w.alloc (.cells #[.slice pn ln cn, .slice ps ls cs, .slice pa la ca] 26)) [18] (by decide) (by unfold maxLen; decide)
    rwa [World.size_alloc] at this
  have ct := twos_any pn ln cn zs ps ls cs ss pa la ca _ 1 1 [18] _ (hn.below hb) (hs.below hb) hcn r1 r2 hI
  go_enter Try.func16, Try.ntmps16
  go_wp2_with (go_at_call 21; refine ct.mono ?_; rintro e w1 ⟨rfl, m1⟩)
  go_ret
  exact ⟨rfl, hb.trans (m1.mono (by simp; omega))⟩
theorem AluLess_any (pn : Option Addr) (ln cn : Nat) (zs : List Int) (ps : Option Addr) (ls cs : Nat) (ss : List ByteArray) (pa : Option Addr) (la ca : Nat) (w : World) (hn : IsInts w pn ln zs) (hs : IsStrs w ps ls ss) (hcn : pn = none → cn = 0) (r1 : ln ≤ 17592186044416) (r2 : la ≤ 17592186044416) : Calls Try.prog 17 #[.agg #[.slice pn ln cn, .slice ps ls cs, .slice pa la ca]] w fun e w' => e = .returned (.bool true) ∧ Below w.heap.size w w' := by
  have hb := (below_box w (.cells #[.slice pn ln cn, .slice ps ls cs, .slice pa la ca] 26)).trans ((below_box (w.alloc (.cells #[.slice pn ln cn, .slice ps ls cs, .slice pa la ca] 26)) (.cells #[.int .i64 19] 3)).mono (by simp))
  have hI : IsInts ((w.alloc (.cells #[.slice pn ln cn, .slice ps ls cs, .slice pa la ca] 26)).alloc (.cells #[.int .i64 19] 3)) (some ⟨w.heap.size + 1, 0, none⟩) 1 [19] := by
    have := ints_lits (w.alloc (.cells #[.slice pn ln cn, .slice ps ls cs, .slice pa la ca] 26)) [19] (by decide) (by unfold maxLen; decide)
    rwa [World.size_alloc] at this
  have ct := twos_any pn ln cn zs ps ls cs ss pa la ca _ 1 1 [19] _ (hn.below hb) (hs.below hb) hcn r1 r2 hI
  go_enter Try.func17, Try.ntmps17
  go_wp2_with (go_at_call 21; refine ct.mono ?_; rintro e w1 ⟨rfl, m1⟩)
  go_ret
  exact ⟨rfl, hb.trans (m1.mono (by simp; omega))⟩
theorem AluNeg_any (pn : Option Addr) (ln cn : Nat) (zs : List Int) (ps : Option Addr) (ls cs : Nat) (ss : List ByteArray) (pa : Option Addr) (la ca : Nat) (w : World) (hn : IsInts w pn ln zs) (hs : IsStrs w ps ls ss) (hcn : pn = none → cn = 0) (r1 : ln ≤ 17592186044416) (r2 : la ≤ 17592186044416) : Calls Try.prog 18 #[.agg #[.slice pn ln cn, .slice ps ls cs, .slice pa la ca]] w fun e w' => e = .returned (.bool true) ∧ Below w.heap.size w w' := by
  have hb := (below_box w (.cells #[.slice pn ln cn, .slice ps ls cs, .slice pa la ca] 26)).trans ((below_box (w.alloc (.cells #[.slice pn ln cn, .slice ps ls cs, .slice pa la ca] 26)) (.cells #[.int .i64 5] 3)).mono (by simp))
  have hI : IsInts ((w.alloc (.cells #[.slice pn ln cn, .slice ps ls cs, .slice pa la ca] 26)).alloc (.cells #[.int .i64 5] 3)) (some ⟨w.heap.size + 1, 0, none⟩) 1 [5] := by
    have := ints_lits (w.alloc (.cells #[.slice pn ln cn, .slice ps ls cs, .slice pa la ca] 26)) [5] (by decide) (by unfold maxLen; decide)
    rwa [World.size_alloc] at this
  have ct := ones_any pn ln cn zs ps ls cs ss pa la ca _ 1 1 [5] _ (hn.below hb) (hs.below hb) hcn r1 r2 hI
  go_enter Try.func18, Try.ntmps18
  go_wp2_with (go_at_call 22; refine ct.mono ?_; rintro e w1 ⟨rfl, m1⟩)
  go_ret
  exact ⟨rfl, hb.trans (m1.mono (by simp; omega))⟩
theorem AluNot_any (pn : Option Addr) (ln cn : Nat) (zs : List Int) (ps : Option Addr) (ls cs : Nat) (ss : List ByteArray) (pa : Option Addr) (la ca : Nat) (w : World) (hn : IsInts w pn ln zs) (hs : IsStrs w ps ls ss) (hcn : pn = none → cn = 0) (r1 : ln ≤ 17592186044416) (r2 : la ≤ 17592186044416) : Calls Try.prog 19 #[.agg #[.slice pn ln cn, .slice ps ls cs, .slice pa la ca]] w fun e w' => e = .returned (.bool true) ∧ Below w.heap.size w w' := by
  have hb := (below_box w (.cells #[.slice pn ln cn, .slice ps ls cs, .slice pa la ca] 26)).trans ((below_box (w.alloc (.cells #[.slice pn ln cn, .slice ps ls cs, .slice pa la ca] 26)) (.cells #[.int .i64 6] 3)).mono (by simp))
  have hI : IsInts ((w.alloc (.cells #[.slice pn ln cn, .slice ps ls cs, .slice pa la ca] 26)).alloc (.cells #[.int .i64 6] 3)) (some ⟨w.heap.size + 1, 0, none⟩) 1 [6] := by
    have := ints_lits (w.alloc (.cells #[.slice pn ln cn, .slice ps ls cs, .slice pa la ca] 26)) [6] (by decide) (by unfold maxLen; decide)
    rwa [World.size_alloc] at this
  have ct := ones_any pn ln cn zs ps ls cs ss pa la ca _ 1 1 [6] _ (hn.below hb) (hs.below hb) hcn r1 r2 hI
  go_enter Try.func19, Try.ntmps19
  go_wp2_with (go_at_call 22; refine ct.mono ?_; rintro e w1 ⟨rfl, m1⟩)
  go_ret
  exact ⟨rfl, hb.trans (m1.mono (by simp; omega))⟩
theorem AluZero_any (pn : Option Addr) (ln cn : Nat) (zs : List Int) (ps : Option Addr) (ls cs : Nat) (ss : List ByteArray) (pa : Option Addr) (la ca : Nat) (w : World) (hn : IsInts w pn ln zs) (hs : IsStrs w ps ls ss) (hcn : pn = none → cn = 0) (r1 : ln ≤ 17592186044416) (r2 : la ≤ 17592186044416) : Calls Try.prog 20 #[.agg #[.slice pn ln cn, .slice ps ls cs, .slice pa la ca]] w fun e w' => e = .returned (.bool true) ∧ Below w.heap.size w w' := by
  have hb := (below_box w (.cells #[.slice pn ln cn, .slice ps ls cs, .slice pa la ca] 26)).trans ((below_box (w.alloc (.cells #[.slice pn ln cn, .slice ps ls cs, .slice pa la ca] 26)) (.cells #[.int .i64 7] 3)).mono (by simp))
  have hI : IsInts ((w.alloc (.cells #[.slice pn ln cn, .slice ps ls cs, .slice pa la ca] 26)).alloc (.cells #[.int .i64 7] 3)) (some ⟨w.heap.size + 1, 0, none⟩) 1 [7] := by
    have := ints_lits (w.alloc (.cells #[.slice pn ln cn, .slice ps ls cs, .slice pa la ca] 26)) [7] (by decide) (by unfold maxLen; decide)
    rwa [World.size_alloc] at this
  have ct := ones_any pn ln cn zs ps ls cs ss pa la ca _ 1 1 [7] _ (hn.below hb) (hs.below hb) hcn r1 r2 hI
  go_enter Try.func20, Try.ntmps20
  go_wp2_with (go_at_call 22; refine ct.mono ?_; rintro e w1 ⟨rfl, m1⟩)
  go_ret
  exact ⟨rfl, hb.trans (m1.mono (by simp; omega))⟩
theorem AluOdd_any (pn : Option Addr) (ln cn : Nat) (zs : List Int) (ps : Option Addr) (ls cs : Nat) (ss : List ByteArray) (pa : Option Addr) (la ca : Nat) (w : World) (hn : IsInts w pn ln zs) (hs : IsStrs w ps ls ss) (hcn : pn = none → cn = 0) (r1 : ln ≤ 17592186044416) (r2 : la ≤ 17592186044416) : Calls Try.prog 3 #[.agg #[.slice pn ln cn, .slice ps ls cs, .slice pa la ca]] w fun e w' => e = .returned (.bool true) ∧ Below w.heap.size w w' := by
  have hb := (below_box w (.cells #[.slice pn ln cn, .slice ps ls cs, .slice pa la ca] 26)).trans ((below_box (w.alloc (.cells #[.slice pn ln cn, .slice ps ls cs, .slice pa la ca] 26)) (.cells #[.int .i64 (-1), .int .i64 0, .int .i64 3, .int .i64 7, .int .i64 20] 3)).mono (by simp))
  have hI : IsInts ((w.alloc (.cells #[.slice pn ln cn, .slice ps ls cs, .slice pa la ca] 26)).alloc (.cells #[.int .i64 (-1), .int .i64 0, .int .i64 3, .int .i64 7, .int .i64 20] 3)) (some ⟨w.heap.size + 1, 0, none⟩) 5 [-1, 0, 3, 7, 20] := by
    have := ints_lits (w.alloc (.cells #[.slice pn ln cn, .slice ps ls cs, .slice pa la ca] 26)) [-1, 0, 3, 7, 20] (by decide) (by unfold maxLen; decide)
    rwa [World.size_alloc] at this
  have ct := twos_any pn ln cn zs ps ls cs ss pa la ca _ 5 5 [-1, 0, 3, 7, 20] _ (hn.below hb) (hs.below hb) hcn r1 r2 hI
  have hc0 : (w.alloc (.cells #[.slice pn ln cn, .slice ps ls cs, .slice pa la ca] 26)).cell? ⟨w.heap.size, 0, none⟩ = some (.slice pn ln cn) := by simp
  have hc1 : (w.alloc (.cells #[.slice pn ln cn, .slice ps ls cs, .slice pa la ca] 26)).cell? ⟨w.heap.size, 1, none⟩ = some (.slice ps ls cs) := by simp
  have hc2 : (w.alloc (.cells #[.slice pn ln cn, .slice ps ls cs, .slice pa la ca] 26)).cell? ⟨w.heap.size, 2, none⟩ = some (.slice pa la ca) := by simp
  go_enter Try.func3, Try.ntmps3
  go_wp2_with fail
  refine ct.mono ?_
  rintro e w1 ⟨rfl, m1⟩
  have h0 : w1.cell? ⟨w.heap.size, 0, none⟩ = some (.slice pn ln cn) := (m1.cell (p := ⟨w.heap.size, 0, none⟩) (by simp; omega)).trans ((World.cell?_alloc_lt _ _ _ (by simp)).trans hc0)
  have h1 : w1.cell? ⟨w.heap.size, 1, none⟩ = some (.slice ps ls cs) := (m1.cell (p := ⟨w.heap.size, 1, none⟩) (by simp; omega)).trans ((World.cell?_alloc_lt _ _ _ (by simp)).trans hc1)
  have h2 : w1.cell? ⟨w.heap.size, 2, none⟩ = some (.slice pa la ca) := (m1.cell (p := ⟨w.heap.size, 2, none⟩) (by simp; omega)).trans ((World.cell?_alloc_lt _ _ _ (by simp)).trans hc2)
  have hbw := hb.trans (m1.mono (by simp; omega))
  have hb2 := hbw.trans ((below_box w1 (.cells #[.int .i64 (-1), .int .i64 0, .int .i64 4, .int .i64 8, .int .i64 22] 3)).mono hbw.size)
  have hI2 : IsInts (w1.alloc (.cells #[.int .i64 (-1), .int .i64 0, .int .i64 4, .int .i64 8, .int .i64 22] 3)) (some ⟨w1.heap.size, 0, none⟩) 5 [-1, 0, 4, 8, 22] := ints_lits w1 [-1, 0, 4, 8, 22] (by decide) (by unfold maxLen; decide)
  have ct2 := ones_any pn ln cn zs ps ls cs ss pa la ca _ 5 5 [-1, 0, 4, 8, 22] _ (hn.below hb2) (hs.below hb2) hcn r1 r2 hI2
  clear hc0 hc1 hc2 ct
  go_wp2_with fail
  refine ct2.mono ?_
  rintro e w2 ⟨rfl, m2⟩
  go_wp2_with fail
  go_ret
  exact ⟨rfl, hb2.trans (m2.mono hb2.size)⟩
end Go.Proofs.Ytbamphfoobmblaa
