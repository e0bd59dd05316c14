/- The document's parser: statements, whole. -/
import Derived.Test.YtkhklndmbfbnoaaGreatDoorQStep3
namespace Go.Proofs.YtkhklndmbfbnoaaGreatDoor
open Go.ChangeShapes Go.WideShapes Go.ChangeAt Go.RowKit Go.Joins Go.Deep
set_option linter.unusedVariables false

theorem step_any {c : Ctx} {fd : Value} {W : List (Tx × Nat)} {en rb : Nat} {g : Option Nat} {s : RS} {n Bx : Nat} (hBx : Bx ≤ 900) (ex st : RS → Int × RS) (hF : Fng W n ex) (hexb : ∀ s, Inv W s → s.bad ≠ none → ∃ v, ex s = (v, s)) (HQ : ∀ (c : Ctx) s g w, s.bad = none → s.ar ≤ 20 → Dp n s → PdAt c fd W en w rb g Bx s → Calls Tryz.prog 90 #[.pointer (some ⟨rb, 0, none⟩)] w (RQ c fd W en rb g Bx (ex s) w)) (hS : Fng W n st) (HT : ∀ (c : Ctx) s g w, s.bad = none → s.ar ≤ 20 → Dp n s → PdAt c fd W en w rb g Bx s → Calls Tryz.prog 34 #[.pointer (some ⟨rb, 0, none⟩)] w (RQ c fd W en rb g Bx (st s) w)) (hg : s.bad = none) (hd : Dp n s) (w : World) (h : PdAt c fd W en w rb g Bx s) : Calls Tryz.prog 63 #[.pointer (some ⟨rb, 0, none⟩)] w (RQ c fd W en rb g (Bx + 12) (stI W en ex st s) w) := by
  have up : Calls Tryz.prog 63 #[.pointer (some ⟨rb, 0, none⟩)] w (RQ c fd W en rb g (Bx + 8) (stI W en ex st s) w) → Calls Tryz.prog 63 #[.pointer (some ⟨rb, 0, none⟩)] w (RQ c fd W en rb g (Bx + 12) (stI W en ex st s) w) := fun hc => hc.mono fun e w' ⟨g', v, a, b, x, t⟩ => ⟨g', v, a, b, x.more (by omega) (by omega), t⟩
  apply up
  by_cases h4 : wdR W s = [105, 102]
  · exact step_if hBx ex st hF hexb HQ hS HT hg hd w h h4
  · by_cases h5 : wdR W s = [119, 104, 105, 108, 101]
    · exact step_while hBx ex st hF hexb HQ hS HT hg hd w h h5
    · by_cases h0 : wdR W s = [114, 101, 97, 100]
      · exact step_read hBx ex st hF hexb HQ hg hd w h h0
      · by_cases h1 : wdR W s = [110, 101, 119]
        · exact step_new hBx ex st hF hexb HQ hg hd w h h1
        · by_cases h2 : wdR W s = [102, 114, 101, 101]
          · exact step_free hBx ex st hF hexb HQ hg hd w h h2
          · by_cases h3 : wdR W s = [115, 116, 111, 112]
            · exact step_stop hBx ex st hF hexb HQ hg hd w h h3
            · exact step_set hBx ex st hF hexb HQ hg hd w h h0 h1 h2 h3 h4 h5
theorem stmtQ_any {fd : Value} {W : List (Tx × Nat)} {en rb : Nat} : ∀ n, n ≤ 20 → ∀ (c : Ctx) s g w, s.bad = none → s.ar ≤ 20 → Dp n s → PdAt c fd W en w rb g (40 * n + 20) s → Calls Tryz.prog 34 #[.pointer (some ⟨rb, 0, none⟩)] w (RQ c fd W en rb g (40 * n + 20) (stR W en n s) w) := by
  have hexb : ∀ n s, Inv W s → s.bad ≠ none → ∃ v, exprR W en n s = (v, s) := fun n s hi h => ⟨0, by rw [expr_bad n s hi h, leave_enter_bad hi h]⟩
  intro n
  induction n with
  | zero =>
    intro _ c s g w hg ha hd h
    have := hd hg
    exact stmtQ_deep (n := 0) (exprR W en 0) (fun s => (0, s)) (hexb 0) hg (by omega) w h
  | succ n ih =>
    intro hn c s g w hg ha hd h
    by_cases h20 : s.ar = 20
    · exact stmtQ_deep (n := 0) (exprR W en n) (stR W en n) (hexb n) hg h20 w h
    · have hga : (enterR W en s).bad = none := by unfold enterR; rw [if_neg h20]; exact hg
      obtain ⟨_, _, _, m, hm, hdm⟩ := enter_good hd hga
      obtain rfl : m = n := by omega
      have HQ : ∀ (c : Ctx) s g w, s.bad = none → s.ar ≤ 20 → Dp m s → PdAt c fd W en w rb g (40 * m + 20) s → Calls Tryz.prog 90 #[.pointer (some ⟨rb, 0, none⟩)] w (RQ c fd W en rb g (40 * m + 20) (exprR W en m s) w) := fun c s g w hg ha hd h => (exprQ_any m (by omega) c s g w hg ha hd (h.anyB hg (by omega))).mono fun e w' ⟨g', v, a, b, x, t⟩ => ⟨g', v, a, b, x.more (by omega) (by omega), t⟩
      refine (stmtQ_ok (n := m) (Bx := 40 * m + 20) (exprR W en m) (stR W en m) (expr_ok m) (st_ok m) (fun c s g w hg hd h => step_any (by omega) (exprR W en m) (stR W en m) (expr_ok m) (hexb m) HQ (st_ok m) (ih (by omega)) hg hd w h) hg (by omega) hdm w (h.anyB hg (by omega))).mono fun e w' ⟨g', v, a, b, x, t⟩ => ⟨g', v, a, b, x.more (by omega) (by omega), t⟩
end Go.Proofs.YtkhklndmbfbnoaaGreatDoor
