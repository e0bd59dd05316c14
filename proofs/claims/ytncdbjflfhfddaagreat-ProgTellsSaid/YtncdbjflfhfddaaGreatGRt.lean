/- The document on programs: sizes, stmt. -/
import Derived.Test.YtncdbjflfhfddaaGreatGRs
namespace Go.Proofs.YtncdbjflfhfddaaGreat
open Go.ChangeShapes Go.WideShapes Go.ChangeAt Go.RowKit Go.Joins Go.Deep
set_option linter.unusedVariables false
set_option linter.unusedSimpArgs false


set_option maxHeartbeats 1600000 in
theorem rSizes_any (v : Value) (l : List Int) (most : Nat) (hmost : most ≤ 100) (w : World) (h : IsIs w v l) : Calls Tryz.prog 29 #[v, .int .i64 (most : Nat)] w fun e w' => e = .returned (.bool (szB l most)) ∧ w = w' := by
  obtain ⟨q, cap, rfl, hl, hcap, hc⟩ := h
  obtain ⟨n, hn⟩ : ∃ n, n = l.length := ⟨_, rfl⟩
  have es : szB l most = (decide (n ≤ most) && l.all szN) := by rw [hn]; rfl
  rw [es, ← hn]
  rw [← hn] at hl hcap hc
  have HN := Lib.hid hn
  have HC := Lib.hid hc
  have cB := fun x w => Between_any x 1 32 w
  unfold maxLen at hl
  clear hn es hc
  go_enter Tryz.func29, Tryz.ntmps29
  go_wp2
  go_loopw [5] (fun v wr => ∃ i : Nat, i ≤ n ∧ i ≤ most + 1 ∧ v = .int .i64 (i : Nat) ∧ (∀ (j : Nat) (x : Int), j < i → l[j]? = some x → szN x = true) ∧ w = wr) (fun v _ => n - (intOf v).toNat)
  case atStart => exact ⟨0, Nat.zero_le _, Nat.zero_le _, rfl, fun j x hj => absurd hj (Nat.not_lt_zero _), rfl⟩
  case round =>
    obtain ⟨i, hi, him, rfl, hall, rfl⟩ := hrel
    by_cases hlt : i < n
    · have hj3 : (i : Int) < (n : Int) := by omega
      by_cases hmi : i ≤ most
      · have hm3 : (i : Int) ≤ (most : Int) := by omega
        obtain ⟨b, o, rfl, hbs, hcell⟩ := HC.out (by omega)
        obtain ⟨x, hx⟩ : ∃ x, l[i]? = some x := ⟨_, List.getElem?_eq_getElem (by rw [← HN.out]; exact hlt)⟩
        have c1 : w.cell? ⟨b, o + i, none⟩ = some (.int .i64 x) := by have := hcell i x hx; simpa [QI] using this
        have cB1 := fun w => cB x w
        have HA := Lib.hid hall
        have HX := Lib.hid hx
        clear hcell hall hx cB
        cases hu : upTo x 1 32
        · rw [hu] at cB1
          have HS : Hid (l.all szN = false) := Lib.hid (all_bad HX.out hu)
          clear hu
          go_wp2_with (go_at_call 43; refine (cB1 _).mono ?_; rintro e' w' ⟨rfl, rfl⟩)
          go_ret
          exact ⟨ret_b (by rw [HS.out, Bool.and_false]), rfl⟩
        · rw [hu] at cB1
          have HU := Lib.hid hu
          clear hu
          go_wp2_with (go_at_call 43; refine (cB1 _).mono ?_; rintro e' w' ⟨rfl, rfl⟩)
          go_roundw
          case rel =>
            refine ⟨i + 1, by omega, by omega, by go_num, fun j y hj hy => ?_, by first | rfl | trivial⟩
            by_cases hji : j = i
            · subst hji
              rw [HX.out] at hy
              injection hy with hy
              rw [← hy]; exact HU.out
            · exact HA.out j y (by omega) hy
          case measure => simp [intOf]; omega
      · have hm3 : decide ((i : Int) ≤ (most : Int)) = false := decide_eq_false (by omega)
        have hnm : decide (n ≤ most) = false := decide_eq_false (by omega)
        have hnm2 : decide ((n : Int) ≤ (most : Int)) = false := decide_eq_false (by omega)
        clear hall cB
        go_wp2
        go_ret
        exact ⟨ret_b (by rw [hnm]; rfl), rfl⟩
    · obtain rfl : i = n := by omega
      have HS : Hid (l.all szN = true) := Lib.hid (all_get fun j x hx => hall j x (by have := (List.getElem?_eq_some_iff.1 hx).1; rw [← HN.out] at this; exact this) hx)
      clear hall cB
      by_cases hnm : i ≤ most
      · have hn3 : (i : Int) ≤ (most : Int) := by omega
        go_wp2
        go_ret
        exact ⟨ret_b (by rw [HS.out, decide_eq_true hnm]; rfl), rfl⟩
      · have hn3 : decide ((i : Int) ≤ (most : Int)) = false := decide_eq_false (by omega)
        go_wp2
        go_ret
        exact ⟨ret_b (by rw [HS.out, decide_eq_false hnm]; rfl), rfl⟩
def rStmtB (P : PX) (s : SX) : Bool :=
  if s.op = 1 then (ofB P s.to 7 && gS s.kind && ofB P s.e s.kind) && eqSX s ⟨1, s.to, s.kind, s.e, 0, [], []⟩
  else if s.op = 2 then (ofB P s.to 7 && gN s.kind) && eqSX s ⟨2, s.to, s.kind, 0, 0, [], []⟩
  else if s.op = 3 then (ofB P s.to 7 && upTo s.n ((P.vars.length : Int) + 1) ((P.vars.length : Int) + P.news.length)) && eqSX s ⟨3, s.to, 0, 0, s.n, [], []⟩
  else if s.op = 4 then ofB P s.e 7 && eqSX s ⟨4, 0, 0, s.e, 0, [], []⟩
  else if s.op = 5 then ofB P s.e 6 && eqSX s ⟨5, 0, 0, s.e, 0, s.body, s.els⟩
  else if s.op = 6 then ofB P s.e 6 && eqSX s ⟨6, 0, 0, s.e, 0, s.body, []⟩
  else if s.op = 7 then eqSX s ⟨7, 0, 0, 0, 0, [], []⟩
  else false
theorem nil_len (l : List Int) : decide (l = []) = !decide (0 < l.length) := by
  cases l <;> simp
theorem rStmt_eq (P : PX) (s : SX) : rStmtB P s = isStmtB P s := by
  obtain ⟨op, tt, k, e, n, bd, el⟩ := s
  unfold rStmtB isStmtB eqSX
  dsimp only
  have h7 : ∀ e, ofB P e 7 = (kindI P e P.exs.length == 7) := fun e => of_eq P e 7 (by decide)
  have h6 : ∀ e, ofB P e 6 = (kindI P e P.exs.length == 6) := fun e => of_eq P e 6 (by decide)
  simp only [h7, h6, nil_len]
  by_cases o1 : op = 1
  · subst o1
    simp only [if_true]
    cases hk : gS k
    · simp
    · have hk0 : k ≠ 0 := by intro h; subst h; simp [gS, gN] at hk
      rw [of_eq P e k hk0]
      by_cases ha : 0 < el.length <;> by_cases hb : 0 < bd.length <;> simp [ha, hb] <;> ac_rfl
  by_cases o2 : op = 2
  · subst o2
    by_cases ha : 0 < el.length <;> by_cases hb : 0 < bd.length <;> simp [ha, hb] <;> ac_rfl
  by_cases o3 : op = 3
  · subst o3
    have hu : upTo n ((P.vars.length : Int) + 1) ((P.vars.length : Int) + P.news.length) = isNewB P n := by
      rw [Bool.eq_iff_iff]
      simp [upTo, isNewB]
      omega
    rw [hu]
    by_cases ha : 0 < el.length <;> by_cases hb : 0 < bd.length <;> simp [ha, hb] <;> ac_rfl
  by_cases o4 : op = 4
  · subst o4
    by_cases ha : 0 < el.length <;> by_cases hb : 0 < bd.length <;> simp [ha, hb] <;> ac_rfl
  by_cases o5 : op = 5
  · subst o5
    simp <;> ac_rfl
  by_cases o6 : op = 6
  · subst o6
    by_cases ha : 0 < el.length <;> simp [ha] <;> ac_rfl
  by_cases o7 : op = 7
  · subst o7
    by_cases ha : 0 < el.length <;> by_cases hb : 0 < bd.length <;> simp [ha, hb] <;> ac_rfl
  simp [o1, o2, o3, o4, o5, o6, o7]
end Go.Proofs.YtncdbjflfhfddaaGreat
