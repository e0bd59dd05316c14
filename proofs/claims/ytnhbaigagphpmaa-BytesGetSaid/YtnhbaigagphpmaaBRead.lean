/- Rows of bytes: which may be, which are alike. -/
import Derived.Test.YtnhbaigagphpmaaBDig
import Derived.LoopTactic
namespace Go.Proofs.Ytnhbaigagphpmaa
open Go.ChangeShapes Go.WideShapes Go.ChangeAt Go.RowKit Go.Joins Go.Deep
set_option linter.unusedVariables false

def ByCells (w : World) (b o : Nat) (x : BY) : Prop :=
  w.cell? ⟨b, o, none⟩ = some (.int .i64 x.st) ∧ w.cell? ⟨b, o + 1, none⟩ = some (.int .i64 x.n) ∧ w.cell? ⟨b, o + 2, none⟩ = some (.int .i64 x.b) ∧ w.cell? ⟨b, o + 3, none⟩ = some (.int .i64 x.o) ∧ w.cell? ⟨b, o + 4, none⟩ = some (.int .i64 x.i)
/-- a slice of bytes -/
def IsBys (w : World) (p : Option Addr) (len : Nat) (xs : List BY) : Prop :=
  len ≤ 1000 ∧ xs.length = len ∧ (0 < len → ∃ b off, p = some ⟨b, off, none⟩ ∧ b < w.heap.size ∧ ∀ i, i < len → ByCells w b (off + i * 5) (xs.getD i default))
theorem ByCells.below {w w' : World} {b o : Nat} {v : BY} (h : ByCells w b o v) (hb : Below w.heap.size w w') : ByCells w' b o v :=
  ⟨cell_below h.1 hb, cell_below h.2.1 hb, cell_below h.2.2.1 hb, cell_below h.2.2.2.1 hb, cell_below h.2.2.2.2 hb⟩
theorem IsBys.below {w w' : World} {p : Option Addr} {len : Nat} {xs : List BY} (h : IsBys w p len xs) (hb : Below w.heap.size w w') : IsBys w' p len xs := by
  obtain ⟨a, c, d⟩ := h
  refine ⟨a, c, fun hl => ?_⟩
  obtain ⟨x, off, rfl, hx, hc⟩ := d hl
  exact ⟨x, off, rfl, by have := hb.size; omega, fun i hi => (hc i hi).below hb⟩
theorem mays_snoc (l : List BY) (x : BY) : maysY (l ++ [x]) = (maysY l && mayY x) := by simp [maysY, List.all_append]
theorem take_snocD (l : List BY) (j : Nat) (h : j < l.length) : l.take (j + 1) = l.take j ++ [l.getD j default] := by
  rw [List.take_succ_eq_append_getElem h]; simp [List.getD, h]
theorem mays_no {l : List BY} {j : Nat} (hj : j < l.length) (h : mayY (l.getD j default) = false) : maysY l = false := by
  rw [Bool.eq_false_iff]
  intro hh
  have := (List.all_eq_true.1 hh) l[j] (List.getElem_mem hj)
  simp [List.getD, hj] at h
  rw [h] at this; cases this
def RelI (f : List BY → Bool) (xs : List BY) (len : Nat) (w0 : World) (v : Value) (wr : World) : Prop := ∃ j : Nat, j ≤ len ∧ v = .int .i64 j ∧ Below w0.heap.size w0 wr ∧ f (xs.take j) = true

set_option maxHeartbeats 800000 in
theorem areBytes_any (p : Option Addr) (len cap : Nat) (xs : List BY) (w : World) (h : IsBys w p len xs) :
    Calls Try.prog 32 #[.slice p len cap] w fun e w' => e = .returned (.bool (maysY xs)) ∧ Below w.heap.size w w' := by
  obtain ⟨hl, hlen, hc⟩ := h
  have cB := fun (x : BY) w => isByte_any x w
  go_enter Try.func32, Try.ntmps32
  go_wp2
  go_loopw [7] (fun v wr => RelI maysY xs len w v wr) (fun v _ => len - (intOf v).toNat)
  case atStart => exact ⟨0, by omega, rfl, Below.refl _ _, by simp [maysY]⟩
  case round =>
    obtain ⟨j, hj, rfl, hbr, hm⟩ := hrel
    by_cases hlt : j < len
    · obtain ⟨b, off, rfl, hbb, hcells⟩ := hc (by omega)
      have hcj := (hcells j hlt).below hbr
      have hsn := take_snocD xs j (by omega)
      have hno := fun h => mays_no (l := xs) (j := j) (by omega) h
      obtain ⟨x, hx⟩ : ∃ x, x = xs.getD j default := ⟨_, rfl⟩
      rw [← hx] at hcj hsn hno
      have cX := fun w => cB x w
      have hj3 : (j : Int) < (len : Int) := by omega
      obtain ⟨s, n, bb, o, i⟩ := x
      obtain ⟨p0, p1, p2, p3, p4⟩ := hcj
      unfold byV at cX
      dsimp only at *
      have hbV := hbr.alloc hbr.size (.cells #[.int .i64 s, .int .i64 n, .int .i64 bb, .int .i64 o, .int .i64 i] 67)
      have HS := Lib.hid hsn
      have HM := Lib.hid hm
      have HN := Lib.hid hno
      have HL := Lib.hid hlen
      clear hcells hsn hx cB hm hno hc hlen
      cases hq : mayY ⟨s, n, bb, o, i⟩
      · rw [hq] at cX
        have HO := Lib.hid (HN.out hq)
        clear HN hq
        go_wp2_with (go_at_call 55; (with_reducible refine (cX _).mono ?_); rintro e w' ⟨rfl, hb2⟩)
        go_ret
        exact ⟨ret_b HO.out.symm, hbV.trans (hb2.mono hbV.size)⟩
      · rw [hq] at cX
        have HQ := Lib.hid hq
        clear hq HN
        go_wp2_with (go_at_call 55; (with_reducible refine (cX _).mono ?_); rintro e w' ⟨rfl, hb2⟩)
        go_roundw
        case rel => exact ⟨j + 1, by omega, by go_num, hbV.trans (hb2.mono hbV.size), by rw [HS.out, mays_snoc, HM.out, HQ.out]; rfl⟩
        case measure => simp [intOf]; omega
    · have e : xs.take j = xs := List.take_of_length_le (by omega)
      rw [e] at hm
      have HM := Lib.hid hm
      clear hm e
      go_wp2
      go_ret
      exact ⟨ret_b HM.out.symm, hbr⟩

theorem rByte_any (x : BY) (w : World) : Calls Try.prog 38 #[byV x] w fun e w' => e = .returned (.bool (mayY x)) ∧ Below w.heap.size w w' := by
  obtain ⟨s, n, b, o, i⟩ := x
  show Calls Try.prog 38 #[.agg #[.int .i64 s, .int .i64 n, .int .i64 b, .int .i64 o, .int .i64 i]] w _
  by_cases h0 : s = 0
  · subst h0
    rw [mayY_0]
    have cE := fun w => eql_by' 0 n b o i 0 0 0 0 0 w
    unfold noY
    generalize eqY ⟨0, n, b, o, i⟩ ⟨0, 0, 0, 0, 0⟩ = q at *
    go_enter Try.func38, Try.ntmps38
    go_wp2
    go_ret
    exact ⟨rfl, below_box1 _ _⟩
  by_cases h1 : s = 1
  · subst h1
    rw [mayY_1]
    have c1 := fun w => Num_any n 255 w
    clear h0
    cases hq : upTo n 0 255
    · rw [hq] at c1
      clear hq
      go_enter Try.func38, Try.ntmps38
      go_wp2_with (go_at_call 42; (with_reducible refine (c1 _).mono ?_); rintro e w' ⟨rfl, rfl⟩)
      go_ret
      exact ⟨rfl, below_box1 _ _⟩
    · rw [hq] at c1
      clear hq
      by_cases hb : b = 0
      · subst hb
        by_cases ho : o = 0
        · subst ho
          go_enter Try.func38, Try.ntmps38
          go_wp2_with (go_at_call 42; (with_reducible refine (c1 _).mono ?_); rintro e w' ⟨rfl, rfl⟩)
          go_ret
          exact ⟨ret_b (by simp), below_box1 _ _⟩
        · have h4 : (o == 0) = false := by simpa using ho
          clear ho
          go_enter Try.func38, Try.ntmps38
          go_wp2_with (go_at_call 42; (with_reducible refine (c1 _).mono ?_); rintro e w' ⟨rfl, rfl⟩)
          go_ret
          exact ⟨ret_b (by simp [h4]), below_box1 _ _⟩
      · have h4 : (b == 0) = false := by simpa using hb
        clear hb
        go_enter Try.func38, Try.ntmps38
        go_wp2_with (go_at_call 42; (with_reducible refine (c1 _).mono ?_); rintro e w' ⟨rfl, rfl⟩)
        go_ret
        exact ⟨ret_b (by simp [h4]), below_box1 _ _⟩
  by_cases h2 : s = 2
  · subst h2
    rw [mayY_2]
    have c1 := fun w => Between_any b 1 32 w
    have c2 := fun w => Num_any o 32 w
    have c3 := fun w => Num_any i 3 w
    clear h0 h1
    by_cases hn : n = 0
    · subst hn
      cases hq : upTo b 1 32
      · rw [hq] at c1
        clear hq
        go_enter Try.func38, Try.ntmps38
        go_wp2_with (go_at_call 36; (with_reducible refine (c1 _).mono ?_); rintro e w' ⟨rfl, rfl⟩)
        go_ret
        exact ⟨rfl, below_box1 _ _⟩
      · rw [hq] at c1
        clear hq
        cases hq : upTo o 0 32
        all_goals
          rw [hq] at c2
          clear hq
          go_enter Try.func38, Try.ntmps38
          go_wp2_with (first | (go_at_call 36; (with_reducible refine (c1 _).mono ?_); rintro e w' ⟨rfl, rfl⟩) | (go_at_call 42; (with_reducible refine (c2 _).mono ?_); rintro e w' ⟨rfl, rfl⟩) | (go_at_call 42; (with_reducible refine (c3 _).mono ?_); rintro e w' ⟨rfl, rfl⟩))
          go_ret
          exact ⟨rfl, below_box1 _ _⟩
    · have h4 : (n == 0) = false := by simpa using hn
      clear hn
      go_enter Try.func38, Try.ntmps38
      go_wp2
      go_ret
      exact ⟨ret_b (by simp [h4]), below_box1 _ _⟩
  rw [mayY_no s n b o i ⟨h0, h1, h2⟩]
  have e0 : (s == 0) = false := by simpa using h0
  have e1 : (s == 1) = false := by simpa using h1
  have e2 : (s == 2) = false := by simpa using h2
  clear h0 h1 h2
  go_enter Try.func38, Try.ntmps38
  go_wp2
  go_ret
  exact ⟨rfl, below_box1 _ _⟩
set_option maxHeartbeats 800000 in
theorem rBytes_any (p : Option Addr) (len cap : Nat) (xs : List BY) (w : World) (h : IsBys w p len xs) :
    Calls Try.prog 13 #[.slice p len cap] w fun e w' => e = .returned (.bool (maysY xs)) ∧ Below w.heap.size w w' := by
  obtain ⟨hl, hlen, hc⟩ := h
  have cB := fun (x : BY) w => rByte_any x w
  go_enter Try.func13, Try.ntmps13
  go_wp2
  go_loopw [3] (fun v wr => RelI maysY xs len w v wr) (fun v _ => len - (intOf v).toNat)
  case atStart => exact ⟨0, by omega, rfl, Below.refl _ _, by simp [maysY]⟩
  case round =>
    obtain ⟨j, hj, rfl, hbr, hm⟩ := hrel
    by_cases hlt : j < len
    · obtain ⟨b, off, rfl, hbb, hcells⟩ := hc (by omega)
      have hcj := (hcells j hlt).below hbr
      have hsn := take_snocD xs j (by omega)
      have hno := fun h => mays_no (l := xs) (j := j) (by omega) h
      obtain ⟨x, hx⟩ : ∃ x, x = xs.getD j default := ⟨_, rfl⟩
      rw [← hx] at hcj hsn hno
      have cX := fun w => cB x w
      have hj3 : (j : Int) < (len : Int) := by omega
      obtain ⟨s, n, bb, o, i⟩ := x
      obtain ⟨p0, p1, p2, p3, p4⟩ := hcj
      unfold byV at cX
      dsimp only at *
      have HS := Lib.hid hsn
      have HM := Lib.hid hm
      have HN := Lib.hid hno
      have HL := Lib.hid hlen
      clear hcells hsn hx cB hm hno hc hlen
      cases hq : mayY ⟨s, n, bb, o, i⟩
      · rw [hq] at cX
        have HO := Lib.hid (HN.out hq)
        clear HN hq
        go_wp2_with (go_at_call 38; (with_reducible refine (cX _).mono ?_); rintro e w' ⟨rfl, hb2⟩)
        go_ret
        exact ⟨ret_b HO.out.symm, hbr.trans (hb2.mono hbr.size)⟩
      · rw [hq] at cX
        have HQ := Lib.hid hq
        clear hq HN
        go_wp2_with (go_at_call 38; (with_reducible refine (cX _).mono ?_); rintro e w' ⟨rfl, hb2⟩)
        go_roundw
        case rel => exact ⟨j + 1, by omega, by go_num, hbr.trans (hb2.mono hbr.size), by rw [HS.out, mays_snoc, HM.out, HQ.out]; rfl⟩
        case measure => simp [intOf]; omega
    · have e : xs.take j = xs := List.take_of_length_le (by omega)
      rw [e] at hm
      have HM := Lib.hid hm
      clear hm e
      go_wp2
      go_ret
      exact ⟨ret_b HM.out.symm, hbr⟩
end Go.Proofs.Ytnhbaigagphpmaa
