/- Package prog: small questions. -/
import Derived.Test.YtncdbjflfhfddaaGreatGMath
import Derived.Test.YtncdbjflfhfddaaGreatBScal
import Derived.Test.YtncdbjflfhfddaaGreatVQuiet
namespace Go.Proofs.YtncdbjflfhfddaaGreat
open Go.ChangeShapes Go.WideShapes Go.ChangeAt Go.RowKit Go.Joins Go.Deep
set_option linter.unusedVariables false


theorem gN_eq (k : Int) : gN k = decide (1 ≤ k ∧ k ≤ 6) := by simp [gN]
theorem gPlace_any (i b : Int) (w : World) : Calls Tryz.prog 80 #[.int .i64 i, .int .i64 b] w fun e w' => e = .returned (.bool (plB i b)) ∧ w = w' := by
  by_cases h1 : 0 ≤ i
  · go_enter Tryz.func80, Tryz.ntmps80
    go_wp2
    go_ret
    exact ⟨ret_b (by simp [plB, h1]), rfl⟩
  · have h3 : decide (0 ≤ i) = false := decide_eq_false h1
    go_enter Tryz.func80, Tryz.ntmps80
    go_wp2
    go_ret
    exact ⟨ret_b (by simp [plB]; omega), rfl⟩
theorem gNums_any (k : Int) (w : World) : Calls Tryz.prog 71 #[.int .i64 k] w fun e w' => e = .returned (.bool (gN k)) ∧ w = w' := by
  by_cases h : 1 ≤ k ∧ k ≤ 6
  · have c := fun w => Width_yes k h w
    go_enter Tryz.func71, Tryz.ntmps71
    go_wp2_with (go_at_call 83; refine (c _).mono ?_; rintro e w' ⟨rfl, rfl⟩)
    go_ret
    exact ⟨ret_b (by simp [gN, h]), rfl⟩
  · have c := fun w => Width_no k h w
    go_enter Tryz.func71, Tryz.ntmps71
    go_wp2_with (go_at_call 83; refine (c _).mono ?_; rintro e w' ⟨rfl, rfl⟩)
    go_ret
    exact ⟨ret_b (by rw [gN_eq, decide_eq_false h]), rfl⟩
theorem gScal_any (k : Int) (w : World) : Calls Tryz.prog 70 #[.int .i64 k] w fun e w' => e = .returned (.bool (gS k)) ∧ w = w' := by
  have c := fun w => gNums_any k w
  by_cases h : k = 7
  · subst h
    go_enter Tryz.func70, Tryz.ntmps70
    go_wp2
    go_ret
    exact ⟨ret_b rfl, rfl⟩
  · have h2 : (k == 7) = false := beq_eq_false_iff_ne.2 h
    go_enter Tryz.func70, Tryz.ntmps70
    go_wp2_with (go_at_call 71; refine (c _).mono ?_; rintro e w' ⟨rfl, rfl⟩)
    go_ret
    exact ⟨ret_b (by simp [gS, h2]), rfl⟩
theorem gTwo_any (k : Int) (w : World) : Calls Tryz.prog 64 #[.int .i64 k] w fun e w' => e = .returned (.bool (hasTwoB k)) ∧ w = w' := by
  by_cases h1 : 8 ≤ k
  · go_enter Tryz.func64, Tryz.ntmps64
    go_wp2
    go_ret
    exact ⟨ret_b (by simp [hasTwoB, h1]), rfl⟩
  · have h3 : decide (8 ≤ k) = false := decide_eq_false h1
    go_enter Tryz.func64, Tryz.ntmps64
    go_wp2
    go_ret
    exact ⟨ret_b (by simp [hasTwoB]; omega), rfl⟩
theorem gOne_any (k : Int) (w : World) : Calls Tryz.prog 67 #[.int .i64 k] w fun e w' => e = .returned (.bool (hasOneB k)) ∧ w = w' := by
  by_cases h1 : 3 ≤ k
  · go_enter Tryz.func67, Tryz.ntmps67
    go_wp2
    go_ret
    exact ⟨ret_b (by simp [hasOneB, h1]), rfl⟩
  · have h3 : decide (3 ≤ k) = false := decide_eq_false h1
    go_enter Tryz.func67, Tryz.ntmps67
    go_wp2
    go_ret
    exact ⟨ret_b (by simp [hasOneB]; omega), rfl⟩

/-- a program's cells at the head of a block -/
theorem QP.cells {w : World} {pb : Nat} {P : PX} (h : QP w pb 0 P) : ∃ v1 v2 v3 v4 v5, w.cell? ⟨pb, 0, none⟩ = some (.bool P.big) ∧ w.cell? ⟨pb, 1, none⟩ = some (.int .i64 P.ptr) ∧ w.cell? ⟨pb, 2, none⟩ = some v1 ∧ w.cell? ⟨pb, 3, none⟩ = some v2 ∧ w.cell? ⟨pb, 4, none⟩ = some v3 ∧ w.cell? ⟨pb, 5, none⟩ = some v4 ∧ w.cell? ⟨pb, 6, none⟩ = some v5 ∧ IsPr w v1 v2 v3 v4 v5 P := by
  obtain ⟨v1, v2, v3, v4, v5, h0, h1, h2, h3, h4, h5, h6, h7⟩ := h
  exact ⟨v1, v2, v3, v4, v5, h0, by simpa using h1, by simpa using h2, by simpa using h3, by simpa using h4, by simpa using h5, by simpa using h6, h7⟩
theorem QE.cells {w : World} {b o i : Nat} {x : EX} (h : QE w b (o + i * 5) x) : w.cell? ⟨b, o + i * 5, none⟩ = some (.int .i64 x.op) ∧ w.cell? ⟨b, o + i * 5 + 1, none⟩ = some (.int .i64 x.kind) ∧ w.cell? ⟨b, o + i * 5 + 2, none⟩ = some (.int .i64 x.n) ∧ w.cell? ⟨b, o + i * 5 + 3, none⟩ = some (.int .i64 x.a) ∧ w.cell? ⟨b, o + i * 5 + 4, none⟩ = some (.int .i64 x.b) := h
theorem gKind_any (pb : Nat) (P : PX) (i below : Int) (hb : below ≤ P.exs.length) (w : World) (h : QP w pb 0 P) : Calls Tryz.prog 66 #[.pointer (some ⟨pb, 0, none⟩), .int .i64 i, .int .i64 below] w fun e w' => e = .returned (.int .i64 (kindI P i below)) ∧ w = w' := by
  have c := fun w => gPlace_any i below w
  cases hp : plB i below
  · rw [hp] at c
    go_enter Tryz.func66, Tryz.ntmps66
    go_wp2_with (go_at_call 80; refine (c _).mono ?_; rintro e w' ⟨rfl, rfl⟩)
    go_ret
    exact ⟨ret_i (by simp [kindI, hp]), rfl⟩
  · rw [hp] at c
    obtain ⟨v1, v2, v3, v4, v5, h0, h1, h2, h3, h4, h5, h6, h7⟩ := h.cells
    obtain ⟨q, cap, rfl, hl, hcap, hc⟩ := h7.2.2.1
    have hp2 := hp
    simp [plB] at hp2
    obtain ⟨k, rfl⟩ : ∃ k : Nat, i = (k : Int) := ⟨i.toNat, by omega⟩
    obtain ⟨b, o, rfl, hbs, hcell⟩ := hc (by omega)
    have hkl : k < P.exs.length := by omega
    obtain ⟨x, hx⟩ : ∃ x, P.exs[k]? = some x := ⟨_, List.getElem?_eq_getElem hkl⟩
    have c1 := (hcell k x hx).cells.2.1
    have e : kindI P (k : Int) below = x.kind := by simp [kindI, hp, exAt, List.getD_eq_getElem?_getD, hx]
    rw [e]
    have g1 : (k : Int) < (P.exs.length : Int) := by omega
    generalize P.exs.length = n at *
    clear hp hp2 hcell hc h7 h0 h1 h2 h3 h5 h6 h hx e
    go_enter Tryz.func66, Tryz.ntmps66
    go_wp2_with (go_at_call 80; refine (c _).mono ?_; rintro e w' ⟨rfl, rfl⟩)
    go_ret
    exact ⟨rfl, rfl⟩
theorem gVar_any (pb : Nat) (P : PX) (n : Int) (w : World) (h : QP w pb 0 P) : Calls Tryz.prog 82 #[.pointer (some ⟨pb, 0, none⟩), .int .i64 n] w fun e w' => e = .returned (.bool (isVarB P n)) ∧ w = w' := by
  obtain ⟨v1, v2, v3, v4, v5, h0, h1, h2, h3, h4, h5, h6, h7⟩ := h.cells
  obtain ⟨q, cap, rfl, hl, hcap, hc⟩ := h7.1
  unfold isVarB
  generalize P.vars.length = m at *
  clear hc h7 h
  by_cases hn : 1 ≤ n
  · go_enter Tryz.func82, Tryz.ntmps82
    go_wp2
    go_ret
    exact ⟨ret_b (by simp [hn]), rfl⟩
  · have hn2 : decide (1 ≤ n) = false := decide_eq_false hn
    go_enter Tryz.func82, Tryz.ntmps82
    go_wp2
    go_ret
    exact ⟨rfl, rfl⟩
theorem gNew_any (pb : Nat) (P : PX) (n : Int) (hV : P.vars.length ≤ 4) (hN : P.news.length ≤ 2) (w : World) (h : QP w pb 0 P) : Calls Tryz.prog 72 #[.pointer (some ⟨pb, 0, none⟩), .int .i64 n] w fun e w' => e = .returned (.bool (isNewB P n)) ∧ Below w.heap.size w w' := by
  obtain ⟨v1, v2, v3, v4, v5, h0, h1, h2, h3, h4, h5, h6, h7⟩ := h.cells
  obtain ⟨q, cap, rfl, hl, hcap, hc⟩ := h7.1
  obtain ⟨q2, cap2, rfl, hl2, hcap2, hc2⟩ := h7.2.1
  unfold isNewB
  generalize P.vars.length = m at *
  generalize P.news.length = m2 at *
  have e1 : IntKind.i64.wrap ((m : Int) + (m2 : Int)) = (m : Int) + (m2 : Int) := by rw [IntKind.wrap_i64]; omega
  clear hc hc2 h7 h
  by_cases hn : (m : Int) < n
  · go_enter Tryz.func72, Tryz.ntmps72
    go_wp2
    go_quiet (fail)
    go_wp2
    go_ret
    exact ⟨ret_b (by simp [hn]), Joins.below_draws _ _ _⟩
  · have hn2 : decide ((m : Int) < n) = false := decide_eq_false hn
    go_enter Tryz.func72, Tryz.ntmps72
    go_wp2
    go_quiet (fail)
    go_wp2
    go_ret
    exact ⟨ret_b (by simp [hn2]), Joins.below_draws _ _ _⟩
end Go.Proofs.YtncdbjflfhfddaaGreat
