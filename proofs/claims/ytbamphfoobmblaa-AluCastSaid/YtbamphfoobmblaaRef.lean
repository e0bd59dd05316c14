/- The contracts of the document's own operators, and of the numbers that package alu asks. -/
import Derived.Test.YtbamphfoobmblaaWord
namespace Go.Proofs.Ytbamphfoobmblaa
open Go.ChangeShapes Go.WideShapes Go.ChangeAt Go.RowKit Go.Joins Go.Deep
set_option linter.unusedVariables false

theorem calls_flip {P : Program} {f : Nat} {args : Array Value} {w : World} {E : Ending} (h : Calls P f args w fun e w' => e = E ∧ w = w') : Calls P f args w fun e w' => e = E ∧ w' = w :=
  h.mono fun _ _ h => ⟨h.1, h.2.symm⟩

/-- only draws -/
def Draws (w w' : World) : Prop := ∃ n, w' = w.drewN n
def seeI (k n : Int) : Int := if signedB k = true then viewI n (widthI k) else n
def halfI (k : Int) : Int := 2 ^ ((widthI k).toNat - 1)
def fitsB (k v : Int) : Bool := !signedB k || (decide (-(halfI k) ≤ v) && decide (v < halfI k))
def fitI (k v : Int) : Int × Int := if fitsB k v = true then (wrapI v (widthI k), 0) else (0, 4)
def truthI (b : Bool) : Int := if b = true then 1 else 0
def quoI (k u v w : Int) (q : Int) : Int × Int := if v = 0 then (0, 6) else if signedB k = true ∧ u = -(halfI k) ∧ v = -1 then (0, 4) else (wrapI q w, 0)
def shI (k v w : Int) (q : Int) : Int × Int := if 0 ≤ v ∧ v < w then (wrapI q w, 0) else (0, 5)
def twoI (op k a b : Int) : Int × Int :=
  if op = 8 then fitI k (seeI k a + seeI k b)
  else if op = 9 then fitI k (seeI k a - seeI k b)
  else if op = 10 then fitI k (wrap64 (seeI k a * seeI k b))
  else if op = 11 then quoI k (seeI k a) (seeI k b) (widthI k) (wrap64 ((seeI k a).tdiv (seeI k b)))
  else if op = 12 then quoI k (seeI k a) (seeI k b) (widthI k) ((seeI k a).tmod (seeI k b))
  else if op = 13 then (bits .and .i64 a b, 0)
  else if op = 14 then (bits .or .i64 a b, 0)
  else if op = 15 then (bits .xor .i64 a b, 0)
  else if op = 16 then shI k (seeI k b) (widthI k) (wrap64 (a * 2 ^ (seeI k b).toNat))
  else if op = 17 then shI k (seeI k b) (widthI k) (seeI k a / 2 ^ (seeI k b).toNat)
  else if op = 18 then (truthI (decide (seeI k a = seeI k b)), 0)
  else (truthI (decide (seeI k a < seeI k b)), 0)

theorem see_bd {k n : Int} (h : 1 ≤ k ∧ k ≤ 6) (hn : isN n (widthI k)) : -2147483648 ≤ seeI k n ∧ seeI k n ≤ 4294967295 := by
  rcases num_cases h with rfl | rfl | rfl | rfl | rfl | rfl
  all_goals
    simp only [isN, show widthI 1 = 8 from rfl, show widthI 2 = 8 from rfl, show widthI 3 = 16 from rfl, show widthI 4 = 16 from rfl, show widthI 5 = 32 from rfl, show widthI 6 = 32 from rfl, Int.reduceToNat, Int.reducePow] at hn
    simp only [seeI, signedB, show widthI 1 = 8 from rfl, show widthI 2 = 8 from rfl, show widthI 3 = 16 from rfl, show widthI 4 = 16 from rfl, show widthI 5 = 32 from rfl, show widthI 6 = 32 from rfl, viewI_8, viewI_16, viewI_32]
    simp
    first | omega | (split <;> omega)
theorem see_inj {k a b : Int} (h : 1 ≤ k ∧ k ≤ 6) (ha : isN a (widthI k)) (hb : isN b (widthI k)) : seeI k a = seeI k b ↔ a = b := by
  rcases num_cases h with rfl | rfl | rfl | rfl | rfl | rfl
  all_goals
    simp only [isN, show widthI 1 = 8 from rfl, show widthI 2 = 8 from rfl, show widthI 3 = 16 from rfl, show widthI 4 = 16 from rfl, show widthI 5 = 32 from rfl, show widthI 6 = 32 from rfl, Int.reduceToNat, Int.reducePow] at ha hb
    simp only [seeI, signedB, show widthI 1 = 8 from rfl, show widthI 2 = 8 from rfl, show widthI 3 = 16 from rfl, show widthI 4 = 16 from rfl, show widthI 5 = 32 from rfl, show widthI 6 = 32 from rfl, viewI_8, viewI_16, viewI_32]
    simp
    try (first | omega | (split <;> split <;> omega))

theorem rsee_any (k n : Int) (h : 1 ≤ k ∧ k ≤ 6) (hn : isN n (widthI k)) (w : World) : Calls Try.prog 44 #[.int .i64 k, .int .i64 n] w fun e w' => e = .returned (.int .i64 (seeI k n)) ∧ w = w' := by
  by_cases hs : signedB k = true
  · have e1 : seeI k n = viewI n (widthI k) := by unfold seeI; rw [if_pos hs]
    rw [e1]
    clear e1
    go_enter Try.func44, Try.ntmps44
    go_wp2_with (first | (go_at_call 50; refine (rSigned_any _ _).mono ?_; rintro e w' ⟨rfl, rfl⟩) | (go_at_call 26; refine (rWidth_any _ _).mono ?_; rintro e w' ⟨rfl, rfl⟩) | (go_at_call 59; refine (rView_any _ _ (width_isW h) hn _).mono ?_; rintro e w' ⟨rfl, rfl⟩))
    go_ret
    exact ⟨rfl, rfl⟩
  · have hs : signedB k = false := by simpa using hs
    have e1 : seeI k n = n := by unfold seeI; rw [hs]; rfl
    rw [e1]
    clear e1
    go_enter Try.func44, Try.ntmps44
    go_wp2_with (first | (go_at_call 50; refine (rSigned_any _ _).mono ?_; rintro e w' ⟨rfl, rfl⟩))
    go_ret
    exact ⟨rfl, rfl⟩
theorem Between_yes (n a b : Int) (h1 : a ≤ n) (h2 : n ≤ b) (w : World) : Calls Try.prog 48 #[.int .i64 n, .int .i64 a, .int .i64 b] w fun e w' => e = .returned (.bool true) ∧ w = w' := by
  go_enter Try.func48, Try.ntmps48
  go_wp2
  go_ret
  first | exact ⟨rfl, rfl⟩ | (refine ⟨ret_b ?_, rfl⟩; simp; omega)
theorem Between_no (n a b : Int) (h : ¬ (a ≤ n ∧ n ≤ b)) (w : World) : Calls Try.prog 48 #[.int .i64 n, .int .i64 a, .int .i64 b] w fun e w' => e = .returned (.bool false) ∧ w = w' := by
  by_cases h1 : a ≤ n
  · have h2 : b < n := by omega
    go_enter Try.func48, Try.ntmps48
    go_wp2
    go_ret
    first | exact ⟨rfl, rfl⟩ | (refine ⟨ret_b ?_, rfl⟩; simp; omega)
  · have h2 : n < a := by omega
    have d1 : decide (a ≤ n) = false := by simp; omega
    go_enter Try.func48, Try.ntmps48
    go_wp2
    go_ret
    first | exact ⟨rfl, rfl⟩ | (refine ⟨ret_b ?_, rfl⟩; simp; omega)
theorem rNum_yes (n b : Int) (h1 : 0 ≤ n) (h2 : n ≤ b) (w : World) : Calls Try.prog 43 #[.int .i64 n, .int .i64 b] w fun e w' => e = .returned (.bool true) ∧ w = w' := by
  go_enter Try.func43, Try.ntmps43
  go_wp2
  go_ret
  first | exact ⟨rfl, rfl⟩ | (refine ⟨ret_b ?_, rfl⟩; simp; omega)
theorem rNum_no (n b : Int) (h : ¬ (0 ≤ n ∧ n ≤ b)) (w : World) : Calls Try.prog 43 #[.int .i64 n, .int .i64 b] w fun e w' => e = .returned (.bool false) ∧ w = w' := by
  by_cases h1 : 0 ≤ n
  · have h2 : b < n := by omega
    go_enter Try.func43, Try.ntmps43
    go_wp2
    go_ret
    first | exact ⟨rfl, rfl⟩ | (refine ⟨ret_b ?_, rfl⟩; simp; omega)
  · have h2 : n < 0 := by omega
    have d1 : decide (0 ≤ n) = false := by simp; omega
    go_enter Try.func43, Try.ntmps43
    go_wp2
    go_ret
    first | exact ⟨rfl, rfl⟩ | (refine ⟨ret_b ?_, rfl⟩; simp; omega)
theorem rtruth_any (b : Bool) (w : World) : Calls Try.prog 51 #[.bool b] w fun e w' => e = .returned (.int .i64 (truthI b)) ∧ w = w' := by
  cases b
  all_goals
    go_enter Try.func51, Try.ntmps51
    go_wp2
    go_ret
    exact ⟨rfl, rfl⟩
theorem atruth_any (b : Bool) (w : World) : Calls Try.prog 68 #[.bool b] w fun e w' => e = .returned (.int .i64 (truthI b)) ∧ w = w' := by
  cases b
  all_goals
    go_enter Try.func68, Try.ntmps68
    go_wp2
    go_ret
    exact ⟨rfl, rfl⟩
theorem isNumber_yes (n w : Int) (h : isW w) (hn : isN n w) (wd : World) : Calls Try.prog 53 #[.int .i64 n, .int .i64 w] wd fun e w' => e = .returned (.bool true) ∧ wd = w' := by
  have e1 : wrapI n w = n := by
    rcases h with rfl | rfl | rfl <;> simp only [isN, Int.reduceToNat, Int.reducePow] at hn <;> simp only [wrapI_8, wrapI_16, wrapI_32] <;> omega
  have c := Wrap_yes n w h wd
  rw [e1] at c
  clear e1
  go_enter Try.func53, Try.ntmps53
  go_wp2_with (go_at_call 42; refine c.mono ?_; rintro e w' ⟨rfl, rfl⟩)
  go_ret
  first | exact ⟨rfl, rfl⟩ | (refine ⟨ret_b ?_, rfl⟩; simp)
theorem isNumber_no (n w : Int) (h : isW w) (hn : ¬ isN n w) (wd : World) : Calls Try.prog 53 #[.int .i64 n, .int .i64 w] wd fun e w' => e = .returned (.bool false) ∧ wd = w' := by
  have e1 : (wrapI n w == n) = false := by
    rcases h with rfl | rfl | rfl <;> simp only [isN, Int.reduceToNat, Int.reducePow] at hn <;> simp only [wrapI_8, wrapI_16, wrapI_32] <;> simp <;> omega
  go_enter Try.func53, Try.ntmps53
  go_wp2_with (go_at_call 42; refine (Wrap_yes n w h wd).mono ?_; rintro e w' ⟨rfl, rfl⟩)
  go_ret
  first | exact ⟨rfl, rfl⟩ | (refine ⟨ret_b ?_, rfl⟩; simp; omega)

theorem fits_u {k v : Int} (h : signedB k = false) : fitsB k v = true := by simp [fitsB, h]
theorem fit_yes {k v : Int} (h : fitsB k v = true) : fitI k v = (wrapI v (widthI k), 0) := by unfold fitI; rw [if_pos h]
theorem fit_no {k v : Int} (h : fitsB k v = false) : fitI k v = (0, 4) := by unfold fitI; rw [h]; rfl

theorem rFit_1 (v : Int) (w : World) : Calls Try.prog 49 #[.int .i64 1, .int .i64 v] w fun e w' => e = .returned (.tuple #[.int .i64 (fitI 1 v).1, .int .i64 (fitI 1 v).2]) ∧ Draws w w' := by
  have hs : signedB 1 = false := by decide
  have hw : widthI 1 = 8 := by decide
  have hW : isW 8 := by unfold isW; decide
  have cS := fun w => rSigned_any 1 w
  rw [hs] at cS
  have cW := fun w => rWidth_any 1 w
  rw [hw] at cW
  rw [fit_yes (fits_u hs), hw]
  clear hs hw
  go_enter Try.func49, Try.ntmps49
  go_wp2_with (first | (go_at_call 26; refine (cW _).mono ?_; rintro e w' ⟨rfl, rfl⟩))
  go_quiet ((go_at_call 50; exact Calls.quiet_of_same (calls_flip (cS _))))
  go_wp2_with (first | (go_at_call 38; refine (rWrap_any _ _ hW _).mono ?_; rintro e w' ⟨rfl, rfl⟩))
  go_ret2
  exact ⟨rfl, ⟨_, rfl⟩⟩
theorem rFit_2 (v : Int) (w : World) : Calls Try.prog 49 #[.int .i64 2, .int .i64 v] w fun e w' => e = .returned (.tuple #[.int .i64 (fitI 2 v).1, .int .i64 (fitI 2 v).2]) ∧ Draws w w' := by
  have hs : signedB 2 = true := by decide
  have hw : widthI 2 = 8 := by decide
  have hW : isW 8 := by unfold isW; decide
  have cS := fun w => rSigned_any 2 w
  rw [hs] at cS
  have cW := fun w => rWidth_any 2 w
  rw [hw] at cW
  have q1 : IntKind.i64.wrap 7 = 7 := by decide
  have q2 : IntKind.i64.wrap 128 = 128 := by decide
  have q3 : IntKind.i64.wrap (-128) = -128 := by decide
  have q4 : IntKind.i64.wrap 127 = 127 := by decide
  by_cases hf : fitsB 2 v = true
  · rw [fit_yes hf]
    have hB : -128 ≤ v ∧ v ≤ 127 := by simp [fitsB, hs, halfI, hw] at hf; omega
    clear hf
    obtain ⟨hB1, hB2⟩ := hB
    clear hs hw
    have hBt := fun w => Between_yes v (-128) 127 hB1 hB2 w
    go_enter Try.func49, Try.ntmps49
    go_wp2_with (first | (go_at_call 26; refine (cW _).mono ?_; rintro e w' ⟨rfl, rfl⟩))
    go_quiet ((first | (go_at_call 50; exact Calls.quiet_of_same (calls_flip (cS _))) | (go_at_call 48; exact Calls.quiet_of_same (calls_flip (hBt _)))))
    go_wp2_with (first | (go_at_call 38; refine (rWrap_any _ _ hW _).mono ?_; rintro e w' ⟨rfl, rfl⟩))
    go_ret2
    exact ⟨rfl, ⟨_, rfl⟩⟩
  · have hf' : fitsB 2 v = false := by simpa using hf
    rw [fit_no hf']
    have hB : ¬ (-128 ≤ v ∧ v ≤ 127) := by simp [fitsB, hs, halfI, hw] at hf; omega
    clear hf hf' hs hw
    have hBt := fun w => Between_no v (-128) 127 hB w
    go_enter Try.func49, Try.ntmps49
    go_wp2_with (first | (go_at_call 26; refine (cW _).mono ?_; rintro e w' ⟨rfl, rfl⟩))
    go_quiet ((first | (go_at_call 50; exact Calls.quiet_of_same (calls_flip (cS _))) | (go_at_call 48; exact Calls.quiet_of_same (calls_flip (hBt _)))))
    go_wp2_with fail
    go_ret2
    exact ⟨rfl, ⟨_, rfl⟩⟩
theorem rFit_3 (v : Int) (w : World) : Calls Try.prog 49 #[.int .i64 3, .int .i64 v] w fun e w' => e = .returned (.tuple #[.int .i64 (fitI 3 v).1, .int .i64 (fitI 3 v).2]) ∧ Draws w w' := by
  have hs : signedB 3 = false := by decide
  have hw : widthI 3 = 16 := by decide
  have hW : isW 16 := by unfold isW; decide
  have cS := fun w => rSigned_any 3 w
  rw [hs] at cS
  have cW := fun w => rWidth_any 3 w
  rw [hw] at cW
  rw [fit_yes (fits_u hs), hw]
  clear hs hw
  go_enter Try.func49, Try.ntmps49
  go_wp2_with (first | (go_at_call 26; refine (cW _).mono ?_; rintro e w' ⟨rfl, rfl⟩))
  go_quiet ((go_at_call 50; exact Calls.quiet_of_same (calls_flip (cS _))))
  go_wp2_with (first | (go_at_call 38; refine (rWrap_any _ _ hW _).mono ?_; rintro e w' ⟨rfl, rfl⟩))
  go_ret2
  exact ⟨rfl, ⟨_, rfl⟩⟩
theorem rFit_4 (v : Int) (w : World) : Calls Try.prog 49 #[.int .i64 4, .int .i64 v] w fun e w' => e = .returned (.tuple #[.int .i64 (fitI 4 v).1, .int .i64 (fitI 4 v).2]) ∧ Draws w w' := by
  have hs : signedB 4 = true := by decide
  have hw : widthI 4 = 16 := by decide
  have hW : isW 16 := by unfold isW; decide
  have cS := fun w => rSigned_any 4 w
  rw [hs] at cS
  have cW := fun w => rWidth_any 4 w
  rw [hw] at cW
  have q1 : IntKind.i64.wrap 15 = 15 := by decide
  have q2 : IntKind.i64.wrap 32768 = 32768 := by decide
  have q3 : IntKind.i64.wrap (-32768) = -32768 := by decide
  have q4 : IntKind.i64.wrap 32767 = 32767 := by decide
  by_cases hf : fitsB 4 v = true
  · rw [fit_yes hf]
    have hB : -32768 ≤ v ∧ v ≤ 32767 := by simp [fitsB, hs, halfI, hw] at hf; omega
    clear hf
    obtain ⟨hB1, hB2⟩ := hB
    clear hs hw
    have hBt := fun w => Between_yes v (-32768) 32767 hB1 hB2 w
    go_enter Try.func49, Try.ntmps49
    go_wp2_with (first | (go_at_call 26; refine (cW _).mono ?_; rintro e w' ⟨rfl, rfl⟩))
    go_quiet ((first | (go_at_call 50; exact Calls.quiet_of_same (calls_flip (cS _))) | (go_at_call 48; exact Calls.quiet_of_same (calls_flip (hBt _)))))
    go_wp2_with (first | (go_at_call 38; refine (rWrap_any _ _ hW _).mono ?_; rintro e w' ⟨rfl, rfl⟩))
    go_ret2
    exact ⟨rfl, ⟨_, rfl⟩⟩
  · have hf' : fitsB 4 v = false := by simpa using hf
    rw [fit_no hf']
    have hB : ¬ (-32768 ≤ v ∧ v ≤ 32767) := by simp [fitsB, hs, halfI, hw] at hf; omega
    clear hf hf' hs hw
    have hBt := fun w => Between_no v (-32768) 32767 hB w
    go_enter Try.func49, Try.ntmps49
    go_wp2_with (first | (go_at_call 26; refine (cW _).mono ?_; rintro e w' ⟨rfl, rfl⟩))
    go_quiet ((first | (go_at_call 50; exact Calls.quiet_of_same (calls_flip (cS _))) | (go_at_call 48; exact Calls.quiet_of_same (calls_flip (hBt _)))))
    go_wp2_with fail
    go_ret2
    exact ⟨rfl, ⟨_, rfl⟩⟩
theorem rFit_5 (v : Int) (w : World) : Calls Try.prog 49 #[.int .i64 5, .int .i64 v] w fun e w' => e = .returned (.tuple #[.int .i64 (fitI 5 v).1, .int .i64 (fitI 5 v).2]) ∧ Draws w w' := by
  have hs : signedB 5 = false := by decide
  have hw : widthI 5 = 32 := by decide
  have hW : isW 32 := by unfold isW; decide
  have cS := fun w => rSigned_any 5 w
  rw [hs] at cS
  have cW := fun w => rWidth_any 5 w
  rw [hw] at cW
  rw [fit_yes (fits_u hs), hw]
  clear hs hw
  go_enter Try.func49, Try.ntmps49
  go_wp2_with (first | (go_at_call 26; refine (cW _).mono ?_; rintro e w' ⟨rfl, rfl⟩))
  go_quiet ((go_at_call 50; exact Calls.quiet_of_same (calls_flip (cS _))))
  go_wp2_with (first | (go_at_call 38; refine (rWrap_any _ _ hW _).mono ?_; rintro e w' ⟨rfl, rfl⟩))
  go_ret2
  exact ⟨rfl, ⟨_, rfl⟩⟩
theorem rFit_6 (v : Int) (w : World) : Calls Try.prog 49 #[.int .i64 6, .int .i64 v] w fun e w' => e = .returned (.tuple #[.int .i64 (fitI 6 v).1, .int .i64 (fitI 6 v).2]) ∧ Draws w w' := by
  have hs : signedB 6 = true := by decide
  have hw : widthI 6 = 32 := by decide
  have hW : isW 32 := by unfold isW; decide
  have cS := fun w => rSigned_any 6 w
  rw [hs] at cS
  have cW := fun w => rWidth_any 6 w
  rw [hw] at cW
  have q1 : IntKind.i64.wrap 31 = 31 := by decide
  have q2 : IntKind.i64.wrap 2147483648 = 2147483648 := by decide
  have q3 : IntKind.i64.wrap (-2147483648) = -2147483648 := by decide
  have q4 : IntKind.i64.wrap 2147483647 = 2147483647 := by decide
  by_cases hf : fitsB 6 v = true
  · rw [fit_yes hf]
    have hB : -2147483648 ≤ v ∧ v ≤ 2147483647 := by simp [fitsB, hs, halfI, hw] at hf; omega
    clear hf
    obtain ⟨hB1, hB2⟩ := hB
    clear hs hw
    have hBt := fun w => Between_yes v (-2147483648) 2147483647 hB1 hB2 w
    go_enter Try.func49, Try.ntmps49
    go_wp2_with (first | (go_at_call 26; refine (cW _).mono ?_; rintro e w' ⟨rfl, rfl⟩))
    go_quiet ((first | (go_at_call 50; exact Calls.quiet_of_same (calls_flip (cS _))) | (go_at_call 48; exact Calls.quiet_of_same (calls_flip (hBt _)))))
    go_wp2_with (first | (go_at_call 38; refine (rWrap_any _ _ hW _).mono ?_; rintro e w' ⟨rfl, rfl⟩))
    go_ret2
    exact ⟨rfl, ⟨_, rfl⟩⟩
  · have hf' : fitsB 6 v = false := by simpa using hf
    rw [fit_no hf']
    have hB : ¬ (-2147483648 ≤ v ∧ v ≤ 2147483647) := by simp [fitsB, hs, halfI, hw] at hf; omega
    clear hf hf' hs hw
    have hBt := fun w => Between_no v (-2147483648) 2147483647 hB w
    go_enter Try.func49, Try.ntmps49
    go_wp2_with (first | (go_at_call 26; refine (cW _).mono ?_; rintro e w' ⟨rfl, rfl⟩))
    go_quiet ((first | (go_at_call 50; exact Calls.quiet_of_same (calls_flip (cS _))) | (go_at_call 48; exact Calls.quiet_of_same (calls_flip (hBt _)))))
    go_wp2_with fail
    go_ret2
    exact ⟨rfl, ⟨_, rfl⟩⟩
end Go.Proofs.Ytbamphfoobmblaa
