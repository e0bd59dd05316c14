/- The document's parser: types, whole. -/
import Derived.Test.YtkhklndmbfbnoaaGreatDoorQKind
import Derived.Test.YtkhklndmbfbnoaaGreatDoorQKindU
namespace Go.Proofs.YtkhklndmbfbnoaaGreatDoor
open Go.ChangeShapes Go.WideShapes Go.ChangeAt Go.RowKit Go.Joins Go.Deep
set_option linter.unusedVariables false

theorem kindQ_ok {n Bx : Nat} {c : Ctx} {fd : Value} {W : List (Tx × Nat)} {en rb : Nat} {g : Option Nat} {s : RS} (hBx : Bx ≤ 900) (ty : RS → Int × RS) (hF : Fng W n ty) (htb : ∀ s, Inv W s → s.bad ≠ none → ∃ v, ty s = (v, s)) (HQ : ∀ (c : Ctx) s g w, s.bad = none → s.ar ≤ 21 → Dp n s → PdAt c fd W en w rb g Bx s → Calls Tryz.prog 32 #[.pointer (some ⟨rb, 0, none⟩)] w (RQ c fd W en rb g Bx (ty s) w)) (hg : s.bad = none) (h20 : s.ar < 20) (hd : Dp n (enterR W en s)) (w : World) (h : PdAt c fd W en w rb g Bx s) : Calls Tryz.prog 32 #[.pointer (some ⟨rb, 0, none⟩)] w (RQ c fd W en rb g (Bx + 12) (typeB W en ty s) w) := by
  by_cases hw : wdR W (enterR W en s) = [115, 116, 114, 117, 99, 116]
  · exact kindQ_struct hBx ty hF htb HQ hg h20 hd w h hw
  · by_cases hw2 : wdR W (enterR W en s) = [117, 110, 105, 111, 110]
    · exact kindQ_union hBx ty hF htb HQ hg h20 hd w h hw2
    · exact kindQ_plain hBx ty hF htb HQ hg h20 hd w h hw hw2
set_option maxHeartbeats 1600000 in
theorem kindQ_deep {n Bx : Nat} {c : Ctx} {fd : Value} {W : List (Tx × Nat)} {en rb : Nat} {g : Option Nat} {s : RS} (ty : RS → Int × RS) (hg : s.bad = none) (h20 : s.ar = 20) (w : World) (h : PdAt c fd W en w rb g Bx s) : Calls Tryz.prog 32 #[.pointer (some ⟨rb, 0, none⟩)] w (RQ c fd W en rb g Bx (typeB W en ty s) w) := by
  have hbE : (enterR W en s).bad ≠ none := by unfold enterR; rw [if_pos h20]; exact fail_bad (W := W)
  rw [typeB_bad h.inv hbE]
  have cI := rin_deep w h hg h20
  unfold NQ at cI
  have h1a : 1 ≤ (enterR W en s).ar := by unfold enterR; rw [if_pos h20]; show 1 ≤ s.ar + 1; omega
  have HB := Lib.hid hbE
  clear h hg h20 hbE
  generalize enterR W en s = sa at *
  go_enter Tryz.func32, Tryz.ntmps32
  go_wp2_with fail
  refine cI.mono ?_
  rintro e w1 ⟨rfl, h1, O1⟩
  have hi4 : Inv W (leaveR sa) := h1.inv
  have har : 1 ≤ (sa).ar := by rw [show sa.ar = sa.ar from rfl]; exact h1a
  obtain ⟨k4, nv4, hA4, _⟩ := h1.cells
  have d4 : w1.cell? ⟨rb, 4, none⟩ = some (.int .i64 ((sa).ar : Nat)) := hA4.cell 4 rfl
  have f4 := At.free hA4 4
  have fin := h1.deep (s' := leaveR sa) hi4 (by have := h1.room; show (sa).ar - 1 ≤ 30; omega) rfl rfl (fun _ => rfl)
  rw [show ((leaveR sa).ar : Int) = (((sa).ar : Int) - 1) from by show (((sa).ar - 1 : Nat) : Int) = _; omega] at fin
  have hOf := (Onl.refl rb w1).set 4 (.int .i64 (((sa).ar : Int) - 1))
  have hr4 : ((sa).ar : Int) ≤ 30 := by have := h1.room; omega
  have FIN := Lib.hid (And.intro fin hOf)
  clear cI fin hOf hA4 hi4 h1 har h1a
  generalize sa.ar = ka at *
  go_wp2_with fail
  go_ret
  exact ⟨g, 0, rfl, fun h => absurd h HB.out, FIN.out.1, Trn.of (O1.trans FIN.out.2)⟩
theorem typeQ_any {fd : Value} {W : List (Tx × Nat)} {en rb : Nat} : ∀ n, n ≤ 20 → ∀ (c : Ctx) s g w, s.bad = none → s.ar ≤ 21 → Dp n s → PdAt c fd W en w rb g (40 * n + 20) s → Calls Tryz.prog 32 #[.pointer (some ⟨rb, 0, none⟩)] w (RQ c fd W en rb g (40 * n + 20) (typeR W en n s) w) := by
  intro n
  induction n with
  | zero =>
    intro _ c s g w hg ha hd h
    have := hd hg
    exact kindQ_deep (n := 0) (fun s => (0, s)) hg (by omega) w h
  | succ n ih =>
    intro hn c s g w hg ha hd h
    by_cases h20 : s.ar = 20
    · exact kindQ_deep (n := 0) (typeR W en n) hg h20 w h
    · have hga : (enterR W en s).bad = none := by unfold enterR; rw [if_neg h20]; exact hg
      obtain ⟨_, _, _, m, hm, hdm⟩ := enter_good hd hga
      obtain rfl : m = n := by omega
      have := (hd hg).2
      refine (kindQ_ok (n := m) (Bx := 40 * m + 20) (by omega) (typeR W en m) (type_ok m) (fun s hi hb => type_bad m hi hb) (ih (by omega)) hg (by omega) hdm w (h.anyB hg (by omega))).mono fun e w' ⟨g', v, a, b, x, t⟩ => ⟨g', v, a, b, x.more (by omega) (by omega), t⟩
end Go.Proofs.YtkhklndmbfbnoaaGreatDoor
