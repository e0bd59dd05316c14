/- Rows of bytes held against each other; a machine's sizes. -/
import Derived.Test.YtnhbaigagphpmaaBRead
namespace Go.Proofs.Ytnhbaigagphpmaa
open Go.ChangeShapes Go.WideShapes Go.ChangeAt Go.RowKit Go.Joins Go.Deep
set_option linter.unusedVariables false

theorem neq_by' (s n b o i s' n' b' o' i' : Int) (w : World) :
    (binOp .neq 67 (.agg #[.int .i64 s, .int .i64 n, .int .i64 b, .int .i64 o, .int .i64 i]) (.agg #[.int .i64 s', .int .i64 n', .int .i64 b', .int .i64 o', .int .i64 i'])).run Try.prog w = .ok (.bool (!eqY ⟨s, n, b, o, i⟩ ⟨s', n', b', o', i'⟩)) w := by
  unfold eqY
  rw [run_neq_struct, run_equalIn_agg w 9999 67 _ _ under_by held_by]
  simp [Program.fieldsOf, Try.underlying67, go_sem]
  by_cases e1 : s = s' <;> by_cases e2 : n = n' <;> by_cases e3 : b = b' <;> by_cases e4 : o = o' <;> by_cases e5 : i = i' <;> simp [e1, e2, e3, e4, e5]
theorem neq_sc' (p : Bool) (n b o : Int) (p' : Bool) (n' b' o' : Int) (w : World) :
    (binOp .neq 33 (.agg #[.bool p, .int .i64 n, .int .i64 b, .int .i64 o]) (.agg #[.bool p', .int .i64 n', .int .i64 b', .int .i64 o'])).run Try.prog w = .ok (.bool (!eqS ⟨p, n, b, o⟩ ⟨p', n', b', o'⟩)) w := by
  unfold eqS
  rw [run_neq_struct, run_equalIn_agg w 9999 33 _ _ under_sc held_sc]
  simp [Program.fieldsOf, Try.underlying33, go_sem]
  by_cases e1 : p = p' <;> by_cases e2 : n = n' <;> by_cases e3 : b = b' <;> by_cases e4 : o = o' <;> simp [e1, e2, e3, e4]
def eqLY : List BY → List BY → Bool
  | [], [] => true
  | x :: r, y :: s => eqY x y && eqLY r s
  | _, _ => false
theorem eqLY_iff {l : List BY} : ∀ {m : List BY}, eqLY l m = true ↔ l = m := by
  induction l with
  | nil => intro m; cases m <;> simp [eqLY]
  | cons x r ih => intro m; cases m with
    | nil => simp [eqLY]
    | cons y s => simp [eqLY, eqY_iff, ih]
theorem eqLY_no {l m : List BY} (h : l ≠ m) : eqLY l m = false := by
  rw [Bool.eq_false_iff]; intro hh; exact h (eqLY_iff.1 hh)
theorem eqLY_no_at {l m : List BY} (j : Nat) (h : eqY (l.getD j default) (m.getD j default) = false) : eqLY l m = false := by
  refine eqLY_no fun hh => ?_
  subst hh
  rw [eqY_refl] at h
  cases h
def RelE (xs ys : List BY) (len : Nat) (w0 : World) (v : Value) (wr : World) : Prop := ∃ j : Nat, j ≤ len ∧ v = .int .i64 j ∧ Below w0.heap.size w0 wr ∧ xs.take j = ys.take j
set_option maxHeartbeats 800000 in
theorem EqBytes_any (p : Option Addr) (len cap : Nat) (xs : List BY) (p2 : Option Addr) (len2 cap2 : Nat) (ys : List BY) (w : World) (h : IsBys w p len xs) (h2 : IsBys w p2 len2 ys) :
    Calls Try.prog 16 #[.slice p len cap, .slice p2 len2 cap2] w fun e w' => e = .returned (.bool (eqLY xs ys)) ∧ Below w.heap.size w w' := by
  obtain ⟨hl, hlen, hc⟩ := h
  obtain ⟨hl2, hlen2, hc2⟩ := h2
  by_cases hee : len = len2
  · subst hee
    go_enter Try.func16, Try.ntmps16
    go_wp2
    go_loopw [5] (fun v wr => RelE xs ys len w v wr) (fun v _ => len - (intOf v).toNat)
    case atStart => exact ⟨0, by omega, rfl, Below.refl _ _, by simp⟩
    case round =>
      obtain ⟨j, hj, rfl, hbr, hm⟩ := hrel
      by_cases hlt : j < len
      · obtain ⟨b, off, rfl, hbb, hcells⟩ := hc (by omega)
        obtain ⟨b2, off2, rfl, hbb2, hcells2⟩ := hc2 (by omega)
        have hcj := (hcells j hlt).below hbr
        have hcj2 := (hcells2 j hlt).below hbr
        have hsn := take_snocD xs j (by omega)
        have hsn2 := take_snocD ys j (by omega)
        have hno := fun h => eqLY_no_at (l := xs) (m := ys) j h
        obtain ⟨x, hx⟩ : ∃ x, x = xs.getD j default := ⟨_, rfl⟩
        obtain ⟨y, hy⟩ : ∃ y, y = ys.getD j default := ⟨_, rfl⟩
        rw [← hx] at hcj hsn hno
        rw [← hy] at hcj2 hsn2 hno
        have hj3 : (j : Int) < (len : Int) := by omega
        obtain ⟨s, n, bb, o, i⟩ := x
        obtain ⟨s', n', bb', o', i'⟩ := y
        obtain ⟨p0, p1, p2, p3, p4⟩ := hcj
        obtain ⟨q0, q1, q2, q3, q4⟩ := hcj2
        dsimp only at *
        have cE := fun w => neq_by' s n bb o i s' n' bb' o' i' w
        have HS := Lib.hid hsn
        have HS2 := Lib.hid hsn2
        have HM := Lib.hid hm
        have HN := Lib.hid hno
        have HL := Lib.hid hlen
        have HL2 := Lib.hid hlen2
        have hqq : eqY ⟨s, n, bb, o, i⟩ ⟨s', n', bb', o', i'⟩ = true ↔ (⟨s, n, bb, o, i⟩ : BY) = ⟨s', n', bb', o', i'⟩ := eqY_iff
        have HQQ := Lib.hid hqq
        clear hcells hcells2 hsn hsn2 hx hy hm hno hc hc2 hlen hlen2 hqq
        cases hq : eqY ⟨s, n, bb, o, i⟩ ⟨s', n', bb', o', i'⟩
        · rw [hq] at cE
          have HO := Lib.hid (HN.out hq)
          clear HN hq
          go_wp2
          go_quiet (fail)
          go_wp2
          go_ret
          exact ⟨ret_b HO.out.symm, hbr.trans (Joins.below_draws _ _ _)⟩
        · rw [hq] at cE
          have HQ := Lib.hid (HQQ.out.1 hq)
          clear hq HN HQQ
          go_wp2
          go_quiet (fail)
          go_wp2
          go_roundw
          case rel => exact ⟨j + 1, by omega, by go_num, hbr.trans (Joins.below_draws _ _ _), by rw [HS.out, HS2.out, HM.out, HQ.out]⟩
          case measure => simp [intOf]; omega
      · have e : xs.take j = xs := List.take_of_length_le (by omega)
        have e2 : ys.take j = ys := List.take_of_length_le (by omega)
        rw [e, e2] at hm
        have HM := Lib.hid hm
        clear hm e e2
        go_wp2
        go_ret
        exact ⟨ret_b (eqLY_iff.2 HM.out).symm, hbr⟩
  · have hne : xs ≠ ys := fun hh => hee (by rw [← hlen, ← hlen2, hh])
    have HR := Lib.hid (eqLY_no hne)
    have h3 : (len == len2) = false := by simpa using hee
    have h4 : ((len : Int) == (len2 : Int)) = false := by rw [beq_eq_false_iff_ne]; exact fun hh => hee (by exact_mod_cast hh)
    clear hlen hlen2 hne hee
    go_enter Try.func16, Try.ntmps16
    go_wp2
    go_ret
    exact ⟨ret_b HR.out.symm, Below.refl _ _⟩

theorem siz_eq (p k : Int) (hk : 1 ≤ k ∧ k ≤ 6) : ((sizN p k : Nat) : Int) = widthI k / 8 := by
  rcases num_cases hk with rfl | rfl | rfl | rfl | rfl | rfl <;> rfl
theorem siz_ptr (p : Int) (hp : mayA p) : ((sizN p 7 : Nat) : Int) = p := by rcases hp with rfl | rfl <;> rfl
theorem Size_yes (big : Bool) (p k : Int) (hp : mayA p) (hk : 1 ≤ k ∧ k ≤ 7) (w : World) : Calls Try.prog 31 #[.agg #[.bool big, .int .i64 p], .int .i64 k] w fun e w' => e = .returned (.tuple #[.int .i64 (sizN p k : Nat), .int .i64 0]) ∧ Below w.heap.size w w' := by
  have : k = 1 ∨ k = 2 ∨ k = 3 ∨ k = 4 ∨ k = 5 ∨ k = 6 ∨ k = 7 := by omega
  rcases hp with rfl | rfl <;> rcases this with rfl | rfl | rfl | rfl | rfl | rfl | rfl
  all_goals
    go_enter Try.func31, Try.ntmps31
    go_wp2
    go_ret2
    exact ⟨rfl, by first | exact below_box1 _ _ | exact below_box2 _ _ _⟩
theorem Abi_any (big : Bool) (p : Int) (w : World) : Calls Try.prog 10 #[.agg #[.bool big, .int .i64 p]] w fun e w' => e = .returned (.bool (p == 2 || p == 4)) ∧ Below w.heap.size w w' := by
  by_cases h2 : p = 2
  · subst h2
    go_enter Try.func10, Try.ntmps10
    go_wp2
    go_ret
    exact ⟨rfl, below_box1 _ _⟩
  · have h3 : (p == 2) = false := by simpa using h2
    clear h2
    go_enter Try.func10, Try.ntmps10
    go_wp2
    go_ret
    exact ⟨ret_b (by simp [h3]), below_box1 _ _⟩
theorem Kind_any (k : Int) (w : World) : Calls Try.prog 11 #[.int .i64 k] w fun e w' => e = .returned (.bool (upTo k 1 7)) ∧ w = w' := by
  have c1 := fun w => Between_any k 1 7 w
  go_enter Try.func11, Try.ntmps11
  go_wp2_with (go_at_call 36; (with_reducible refine (c1 _).mono ?_); rintro e w' ⟨rfl, rfl⟩)
  go_ret
  exact ⟨rfl, rfl⟩
theorem rSize_any (big : Bool) (p k : Int) (hp : mayA p) (hk : 1 ≤ k ∧ k ≤ 7) (w : World) : Calls Try.prog 12 #[.agg #[.bool big, .int .i64 p], .int .i64 k] w fun e w' => e = .returned (.int .i64 (sizN p k : Nat)) ∧ Below w.heap.size w w' := by
  have : k = 1 ∨ k = 2 ∨ k = 3 ∨ k = 4 ∨ k = 5 ∨ k = 6 ∨ k = 7 := by omega
  rcases hp with rfl | rfl <;> rcases this with rfl | rfl | rfl | rfl | rfl | rfl | rfl
  all_goals
    go_enter Try.func12, Try.ntmps12
    go_wp2
    go_ret
    exact ⟨rfl, by first | exact below_box1 _ _ | exact below_box2 _ _ _⟩
theorem Size_no (big : Bool) (p k : Int) (h : ¬ (mayA p ∧ 1 ≤ k ∧ k ≤ 7)) (w : World) : Calls Try.prog 31 #[.agg #[.bool big, .int .i64 p], .int .i64 k] w fun e w' => e = .returned (.tuple #[.int .i64 0, .int .i64 1]) ∧ Below w.heap.size w w' := by
  by_cases hp : mayA p
  · have hk : k < 1 ∨ 7 < k := by
      by_cases h1 : 1 ≤ k
      · by_cases h2 : k ≤ 7
        · exact absurd ⟨hp, h1, h2⟩ h
        · exact Or.inr (by omega)
      · exact Or.inl (by omega)
    clear h
    rcases hp with rfl | rfl <;> rcases hk with hk | hk
    all_goals
      have h7 : (k == 7) = false := by simp; omega
      first
        | have d1 : decide (1 ≤ k) = false := by (simp; omega)
        | have d1 : decide (k ≤ 6) = false := by (simp; omega)
      have d2 : (1 ≤ k) ∨ True := Or.inr trivial
      go_enter Try.func31, Try.ntmps31
      go_wp2
      go_ret2
      exact ⟨rfl, by first | exact below_box1 _ _ | exact below_box2 _ _ _⟩
  · have h2 : (p == 2) = false := by rw [beq_eq_false_iff_ne]; exact fun hh => hp (Or.inl hh)
    have h4 : (p == 4) = false := by rw [beq_eq_false_iff_ne]; exact fun hh => hp (Or.inr hh)
    clear hp h
    go_enter Try.func31, Try.ntmps31
    go_wp2
    go_ret2
    exact ⟨rfl, by first | exact below_box1 _ _ | exact below_box2 _ _ _⟩
end Go.Proofs.Ytnhbaigagphpmaa
