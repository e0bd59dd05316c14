/- Package alu: its exported calls. -/
import Derived.Test.YtbamphfoobmblaaTell
namespace Go.Proofs.Ytbamphfoobmblaa
open Go.ChangeShapes Go.WideShapes Go.ChangeAt Go.RowKit Go.Joins Go.Deep
set_option linter.unusedVariables false

theorem ret_3 {a b c d e f : Int} (h : a = b) (h' : c = d) (h'' : e = f) : Ending.returned (.tuple #[.int .i64 a, .int .i64 c, .int .i64 e]) = .returned (.tuple #[.int .i64 b, .int .i64 d, .int .i64 f]) := by rw [h, h', h'']

theorem take_no_k (k a c : Int) (hk : ¬ (1 ≤ k ∧ k ≤ 6)) (w : World) : Calls Try.prog 39 #[.int .i64 k, .int .i64 a, .int .i64 c] w fun e w' => e = .returned (.tuple #[.pointer none, .int .i64 1]) ∧ w = w' := by
  go_enter Try.func39, Try.ntmps39
  go_wp2_with ((go_at_call 40; refine (Width_no _ hk _).mono ?_; rintro e w' ⟨rfl, rfl⟩))
  go_ret2
  exact ⟨rfl, rfl⟩
theorem take_no_a (k a c : Int) (hk : 1 ≤ k ∧ k ≤ 6) (ha : ¬ isN a (widthI k)) (w : World) : Calls Try.prog 39 #[.int .i64 k, .int .i64 a, .int .i64 c] w fun e w' => e = .returned (.tuple #[.pointer none, .int .i64 1]) ∧ w = w' := by
  go_enter Try.func39, Try.ntmps39
  go_wp2_with (first | (go_at_call 40; refine (Width_yes _ hk _).mono ?_; rintro e w' ⟨rfl, rfl⟩) | (go_at_call 52; refine (Signed_yes _ hk _).mono ?_; rintro e w' ⟨rfl, rfl⟩) | (go_at_call 53; refine (isNumber_no _ _ (width_isW hk) ha _).mono ?_; rintro e w' ⟨rfl, rfl⟩))
  go_ret2
  exact ⟨rfl, rfl⟩
theorem take_no_c (k a c : Int) (hk : 1 ≤ k ∧ k ≤ 6) (ha : isN a (widthI k)) (hc : ¬ isN c (widthI k)) (w : World) : Calls Try.prog 39 #[.int .i64 k, .int .i64 a, .int .i64 c] w fun e w' => e = .returned (.tuple #[.pointer none, .int .i64 1]) ∧ w = w' := by
  have ia := fun w => isNumber_yes a _ (width_isW hk) ha w
  have ic := fun w => isNumber_no c _ (width_isW hk) hc w
  go_enter Try.func39, Try.ntmps39
  go_wp2_with (first | (go_at_call 40; refine (Width_yes _ hk _).mono ?_; rintro e w' ⟨rfl, rfl⟩) | (go_at_call 52; refine (Signed_yes _ hk _).mono ?_; rintro e w' ⟨rfl, rfl⟩) | (go_at_call 53; ((with_reducible refine (ia _).mono ?_); rintro e w' ⟨rfl, rfl⟩)) | (go_at_call 53; ((with_reducible refine (ic _).mono ?_); rintro e w' ⟨rfl, rfl⟩)))
  go_ret2
  exact ⟨rfl, rfl⟩
def takenW (k a c : Int) (w : World) : World := w.alloc (.cells (numC (widthI k) (signedB k) a c 0 0 0 0 0) 75)
theorem taken_at (k a c : Int) (w : World) : NumAt (takenW k a c w) w.heap.size (widthI k) (signedB k) a c 0 0 0 0 0 := heap_alloc_new _ _
theorem take_yes (k a c : Int) (hk : 1 ≤ k ∧ k ≤ 6) (ha : isN a (widthI k)) (hc : isN c (widthI k)) (w : World) : Calls Try.prog 39 #[.int .i64 k, .int .i64 a, .int .i64 c] w fun e w' => e = .returned (.tuple #[.pointer (some ⟨w.heap.size, 0, none⟩), .int .i64 0]) ∧ takenW k a c w = w' := by
  have ia := fun w => isNumber_yes a _ (width_isW hk) ha w
  have ic := fun w => isNumber_yes c _ (width_isW hk) hc w
  go_enter Try.func39, Try.ntmps39
  go_wp2_with (first | (go_at_call 40; refine (Width_yes _ hk _).mono ?_; rintro e w' ⟨rfl, rfl⟩) | (go_at_call 52; refine (Signed_yes _ hk _).mono ?_; rintro e w' ⟨rfl, rfl⟩) | (go_at_call 53; ((with_reducible refine (ia _).mono ?_); rintro e w' ⟨rfl, rfl⟩)) | (go_at_call 53; ((with_reducible refine (ic _).mono ?_); rintro e w' ⟨rfl, rfl⟩)))
  go_ret2
  exact ⟨rfl, rfl⟩
def NoPost (w : World) (e : Ending) (w' : World) : Prop := e = .returned (.tuple #[.int .i64 0, .int .i64 0, .int .i64 1]) ∧ w = w'
def YesPost (r : Int × Int) (w : World) (e : Ending) (w' : World) : Prop := e = .returned (.tuple #[.int .i64 r.1, .int .i64 r.2, .int .i64 0]) ∧ Below w.heap.size w w'

theorem Two_no_o (o k : Int) (a c : Int) (ho : ¬ (8 ≤ o ∧ o ≤ 19)) (w : World) : Calls Try.prog 31 #[.int .i64 o, .int .i64 k, .int .i64 a, .int .i64 c] w (NoPost w) := by
  by_cases h1 : o < 8
  · go_enter Try.func31, Try.ntmps31
    go_wp2_with fail
    go_ret3
    exact ⟨rfl, rfl⟩
  · have d1 : decide (o < 8) = false := by simp; omega
    have d2 : decide (19 < o) = true := by simp; omega
    go_enter Try.func31, Try.ntmps31
    go_wp2_with fail
    go_ret3
    exact ⟨rfl, rfl⟩
theorem Two_no_k (o k : Int) (a c : Int) (ho : 8 ≤ o ∧ o ≤ 19) (hk : ¬ (1 ≤ k ∧ k ≤ 6)) (w : World) : Calls Try.prog 31 #[.int .i64 o, .int .i64 k, .int .i64 a, .int .i64 c] w (NoPost w) := by
  obtain ⟨o1, o2⟩ := ho
  have d1 : decide (o < 8) = false := by simp; omega
  have d2 : decide (19 < o) = false := by simp; omega
  go_enter Try.func31, Try.ntmps31
  go_wp2_with (go_at_call 39; refine (take_no_k _ _ _ hk _).mono ?_; rintro e w' ⟨rfl, rfl⟩)
  go_ret3
  exact ⟨rfl, rfl⟩
theorem Two_no_a (o k : Int) (a c : Int) (ho : 8 ≤ o ∧ o ≤ 19) (hk : 1 ≤ k ∧ k ≤ 6) (ha : ¬ isN a (widthI k)) (w : World) : Calls Try.prog 31 #[.int .i64 o, .int .i64 k, .int .i64 a, .int .i64 c] w (NoPost w) := by
  obtain ⟨o1, o2⟩ := ho
  have d1 : decide (o < 8) = false := by simp; omega
  have d2 : decide (19 < o) = false := by simp; omega
  go_enter Try.func31, Try.ntmps31
  go_wp2_with (go_at_call 39; refine (take_no_a _ _ _ hk ha _).mono ?_; rintro e w' ⟨rfl, rfl⟩)
  go_ret3
  exact ⟨rfl, rfl⟩
theorem Two_no_c (o k : Int) (a c : Int) (ho : 8 ≤ o ∧ o ≤ 19) (hk : 1 ≤ k ∧ k ≤ 6) (ha : isN a (widthI k)) (hc : ¬ isN c (widthI k)) (w : World) : Calls Try.prog 31 #[.int .i64 o, .int .i64 k, .int .i64 a, .int .i64 c] w (NoPost w) := by
  obtain ⟨o1, o2⟩ := ho
  have d1 : decide (o < 8) = false := by simp; omega
  have d2 : decide (19 < o) = false := by simp; omega
  go_enter Try.func31, Try.ntmps31
  go_wp2_with (go_at_call 39; refine (take_no_c _ _ _ hk ha hc _).mono ?_; rintro e w' ⟨rfl, rfl⟩)
  go_ret3
  exact ⟨rfl, rfl⟩
theorem Two_yes (o k : Int) (a c : Int) (ho : 8 ≤ o ∧ o ≤ 19) (hk : 1 ≤ k ∧ k ≤ 6) (ha : isN a (widthI k)) (hc : isN c (widthI k)) (w : World) : Calls Try.prog 31 #[.int .i64 o, .int .i64 k, .int .i64 a, .int .i64 c] w (YesPost (twoI o k a c) w) := by
  have ct := fun w b h => two_any o ho b k a c hk ha hc w h
  have hb : Below w.heap.size w (takenW k a c w) := (Below.refl _ _).alloc (Nat.le_refl _) _
  have hn := taken_at k a c w
  generalize twoI o k a c = r at *
  obtain ⟨o1, o2⟩ := ho
  have d1 : decide (o < 8) = false := by simp; omega
  have d2 : decide (19 < o) = false := by simp; omega
  go_enter Try.func31, Try.ntmps31
  go_wp2_with (first | (go_at_call 39; refine (take_yes _ _ _ hk ha hc _).mono ?_; rintro e w' ⟨rfl, rfl⟩) | (go_at_call 46; refine (ct _ _ hn).mono ?_; rintro e w' ⟨n, bad, dn, u, v, rfl, m1, m2, b0, b6, e0, e1⟩))
  by_cases hbad : bad = 0
  · have er := e0 hbad
    subst hbad er
    clear e0 e1
    refine (tell_no w.heap.size _ _ _ _ _ _ _ _ n _ m1).mono ?_
    rintro e w' ⟨rfl, rfl⟩
    go_wp2_with fail
    go_ret3
    exact ⟨rfl, hb.trans m2⟩
  · have er := e1 hbad
    subst er
    clear e0 e1
    refine (tell_yes w.heap.size _ _ _ _ _ _ _ _ n bad (by omega) b6 _ m1).mono ?_
    rintro e w' ⟨rfl, rfl⟩
    go_wp2_with fail
    go_ret3
    exact ⟨rfl, hb.trans m2⟩
theorem One_no_o (o k : Int) (c : Int) (ho : ¬ (5 ≤ o ∧ o ≤ 7)) (w : World) : Calls Try.prog 32 #[.int .i64 o, .int .i64 k, .int .i64 c] w (NoPost w) := by
  by_cases h1 : o < 5
  · go_enter Try.func32, Try.ntmps32
    go_wp2_with fail
    go_ret3
    exact ⟨rfl, rfl⟩
  · have d1 : decide (o < 5) = false := by simp; omega
    have d2 : decide (7 < o) = true := by simp; omega
    go_enter Try.func32, Try.ntmps32
    go_wp2_with fail
    go_ret3
    exact ⟨rfl, rfl⟩
theorem One_no_k (o k : Int) (c : Int) (ho : 5 ≤ o ∧ o ≤ 7) (hk : ¬ (1 ≤ k ∧ k ≤ 6)) (w : World) : Calls Try.prog 32 #[.int .i64 o, .int .i64 k, .int .i64 c] w (NoPost w) := by
  obtain ⟨o1, o2⟩ := ho
  have d1 : decide (o < 5) = false := by simp; omega
  have d2 : decide (7 < o) = false := by simp; omega
  go_enter Try.func32, Try.ntmps32
  go_wp2_with (go_at_call 39; refine (take_no_k _ _ _ hk _).mono ?_; rintro e w' ⟨rfl, rfl⟩)
  go_ret3
  exact ⟨rfl, rfl⟩
theorem One_no_c (o k : Int) (c : Int) (ho : 5 ≤ o ∧ o ≤ 7) (hk : 1 ≤ k ∧ k ≤ 6) (hc : ¬ isN c (widthI k)) (w : World) : Calls Try.prog 32 #[.int .i64 o, .int .i64 k, .int .i64 c] w (NoPost w) := by
  obtain ⟨o1, o2⟩ := ho
  have d1 : decide (o < 5) = false := by simp; omega
  have d2 : decide (7 < o) = false := by simp; omega
  go_enter Try.func32, Try.ntmps32
  go_wp2_with (go_at_call 39; refine (take_no_c _ _ _ hk (isN_0 hk) hc _).mono ?_; rintro e w' ⟨rfl, rfl⟩)
  go_ret3
  exact ⟨rfl, rfl⟩
theorem One_yes (o k : Int) (c : Int) (ho : 5 ≤ o ∧ o ≤ 7) (hk : 1 ≤ k ∧ k ≤ 6) (hc : isN c (widthI k)) (w : World) : Calls Try.prog 32 #[.int .i64 o, .int .i64 k, .int .i64 c] w (YesPost (oneI o k c) w) := by
  have ct := fun w b h => one_any o ho b k c hk hc w h
  have hb : Below w.heap.size w (takenW k 0 c w) := (Below.refl _ _).alloc (Nat.le_refl _) _
  have hn := taken_at k 0 c w
  generalize oneI o k c = r at *
  obtain ⟨o1, o2⟩ := ho
  have d1 : decide (o < 5) = false := by simp; omega
  have d2 : decide (7 < o) = false := by simp; omega
  go_enter Try.func32, Try.ntmps32
  go_wp2_with (first | (go_at_call 39; refine (take_yes _ _ _ hk (isN_0 hk) hc _).mono ?_; rintro e w' ⟨rfl, rfl⟩) | (go_at_call 47; refine (ct _ _ hn).mono ?_; rintro e w' ⟨n, bad, dn, u, v, rfl, m1, m2, b0, b6, e0, e1⟩))
  by_cases hbad : bad = 0
  · have er := e0 hbad
    subst hbad er
    clear e0 e1
    refine (tell_no w.heap.size _ _ _ _ _ _ _ _ n _ m1).mono ?_
    rintro e w' ⟨rfl, rfl⟩
    go_wp2_with fail
    go_ret3
    exact ⟨rfl, hb.trans m2⟩
  · have er := e1 hbad
    subst er
    clear e0 e1
    refine (tell_yes w.heap.size _ _ _ _ _ _ _ _ n bad (by omega) b6 _ m1).mono ?_
    rintro e w' ⟨rfl, rfl⟩
    go_wp2_with fail
    go_ret3
    exact ⟨rfl, hb.trans m2⟩
def CastNo (w : World) (e : Ending) (w' : World) : Prop := e = .returned (.tuple #[.int .i64 0, .int .i64 1]) ∧ Below w.heap.size w w'
def CastYes (n : Int) (w : World) (e : Ending) (w' : World) : Prop := e = .returned (.tuple #[.int .i64 n, .int .i64 0]) ∧ Below w.heap.size w w'
theorem Cast_no_k (k t a : Int) (hk : ¬ (1 ≤ k ∧ k ≤ 6)) (w : World) : Calls Try.prog 25 #[.int .i64 k, .int .i64 t, .int .i64 a] w (CastNo w) := by
  go_enter Try.func25, Try.ntmps25
  go_wp2_with (go_at_call 39; refine (take_no_k _ _ _ hk _).mono ?_; rintro e w' ⟨rfl, rfl⟩)
  go_ret2
  exact ⟨rfl, Below.refl _ _⟩
theorem Cast_no_a (k t a : Int) (hk : 1 ≤ k ∧ k ≤ 6) (ha : ¬ isN a (widthI k)) (w : World) : Calls Try.prog 25 #[.int .i64 k, .int .i64 t, .int .i64 a] w (CastNo w) := by
  go_enter Try.func25, Try.ntmps25
  go_wp2_with (go_at_call 39; refine (take_no_a _ _ _ hk ha _).mono ?_; rintro e w' ⟨rfl, rfl⟩)
  go_ret2
  exact ⟨rfl, Below.refl _ _⟩
theorem Cast_no_t (k t a : Int) (hk : 1 ≤ k ∧ k ≤ 6) (ha : isN a (widthI k)) (ht : ¬ (1 ≤ t ∧ t ≤ 6)) (w : World) : Calls Try.prog 25 #[.int .i64 k, .int .i64 t, .int .i64 a] w (CastNo w) := by
  have hb : Below w.heap.size w (takenW k a 0 w) := (Below.refl _ _).alloc (Nat.le_refl _) _
  go_enter Try.func25, Try.ntmps25
  go_wp2_with (first | (go_at_call 39; refine (take_yes _ _ _ hk ha (isN_0 hk) _).mono ?_; rintro e w' ⟨rfl, rfl⟩) | (go_at_call 40; refine (Width_no _ ht _).mono ?_; rintro e w' ⟨rfl, rfl⟩))
  go_ret2
  exact ⟨rfl, hb⟩
theorem Cast_yes (k t a : Int) (hk : 1 ≤ k ∧ k ≤ 6) (ha : isN a (widthI k)) (ht : 1 ≤ t ∧ t ≤ 6) (w : World) : Calls Try.prog 25 #[.int .i64 k, .int .i64 t, .int .i64 a] w (CastYes (wrapI (seeI k a) (widthI t)) w) := by
  have hb : Below w.heap.size w (takenW k a 0 w) := (Below.refl _ _).alloc (Nat.le_refl _) _
  have hn := taken_at k a 0 w
  have cv := views_any _ _ _ a 0 0 (width_isW hk) ha (isN_0 hk) _ hn
  unfold ViewsPost at cv
  rw [show viewOf (signedB k) a (widthI k) = seeI k a from rfl] at cv
  go_enter Try.func25, Try.ntmps25
  go_wp2_with (first | (go_at_call 39; refine (take_yes _ _ _ hk ha (isN_0 hk) _).mono ?_; rintro e w' ⟨rfl, rfl⟩) | (go_at_call 40; refine (Width_yes _ ht _).mono ?_; rintro e w' ⟨rfl, rfl⟩) | (go_at_call 41; refine cv.mono ?_; rintro e w' ⟨rfl, m1, m2⟩) | (go_at_call 42; refine (Wrap_yes _ _ (width_isW ht) _).mono ?_; rintro e w' ⟨rfl, rfl⟩))
  go_ret2
  exact ⟨rfl, hb.trans m2⟩
theorem wakes_any (w : World) : Calls Try.prog 30 #[] w fun e w' => e = .returned (.bool true) ∧ Below w.heap.size w w' := by
  have c1 := fun w => Two_yes 8 1 200 100 (by decide) (by decide) (by unfold isN; decide) (by unfold isN; decide) w
  have c2 := fun w => Two_yes 8 2 100 100 (by decide) (by decide) (by unfold isN; decide) (by unfold isN; decide) w
  rw [show twoI 8 1 200 100 = (44, 0) from by decide] at c1
  rw [show twoI 8 2 100 100 = (0, 4) from by decide] at c2
  go_enter Try.func30, Try.ntmps30
  go_wp2_with (first | (go_at_call 31; ((with_reducible refine (c1 _).mono ?_); rintro e w1 ⟨rfl, m1⟩)) | (go_at_call 31; ((with_reducible refine (c2 _).mono ?_); rintro e w2 ⟨rfl, m2⟩)) | (go_at_call 29; refine (num_any _ _).mono ?_; rintro e w' ⟨rfl, rfl⟩))
  go_ret
  exact ⟨rfl, m1.trans (m2.mono m1.size)⟩
end Go.Proofs.Ytbamphfoobmblaa
