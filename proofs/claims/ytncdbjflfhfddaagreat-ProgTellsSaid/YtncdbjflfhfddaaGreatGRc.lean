/- The document on programs: seats. -/
import Derived.Test.YtncdbjflfhfddaaGreatGRb
import Derived.Test.YtncdbjflfhfddaaGreatGT
import Derived.Deep.RegionHeld3
import Derived.Deep.CutRange
namespace Go.Proofs.YtncdbjflfhfddaaGreat
open Go.ChangeShapes Go.WideShapes Go.ChangeAt Go.RowKit Go.Joins Go.Deep
set_option linter.unusedVariables false

section
variable {w : World} {o0 o1 o2 o3 : Obj} {cs : Array Value} {t : TypeId}
theorem at_p0 (h : o0 = .cells cs t) : At ((((w.alloc o0).alloc o1).alloc o2).alloc o3).drew w.heap.size cs t := by
  subst h; exact ((((At.new w cs t).alloc _).alloc _).alloc _).drew
theorem at_p1 (h : o1 = .cells cs t) : At ((((w.alloc o0).alloc o1).alloc o2).alloc o3).drew (w.heap.size + 1) cs t := by
  subst h
  have := At.new (w.alloc o0) cs t
  rw [World.size_alloc] at this
  exact ((this.alloc _).alloc _).drew
theorem at_p2 (h : o2 = .cells cs t) : At ((((w.alloc o0).alloc o1).alloc o2).alloc o3).drew (w.heap.size + 1 + 1) cs t := by
  subst h
  have := At.new ((w.alloc o0).alloc o1) cs t
  rw [World.size_alloc, World.size_alloc] at this
  exact (this.alloc _).drew
theorem at_p3 (h : o3 = .cells cs t) : At ((((w.alloc o0).alloc o1).alloc o2).alloc o3).drew (w.heap.size + 1 + 1 + 1) cs t := by
  subst h
  have := At.new (((w.alloc o0).alloc o1).alloc o2) cs t
  rw [World.size_alloc, World.size_alloc, World.size_alloc] at this
  exact this.drew
theorem below_p4 : Below w.heap.size w ((((w.alloc o0).alloc o1).alloc o2).alloc o3).drew :=
  (((((Below.refl _ _).alloc (Nat.le_refl _) o0).alloc (by rw [World.size_alloc]; omega) o1).alloc (by rw [World.size_alloc, World.size_alloc]; omega) o2).alloc (by rw [World.size_alloc, World.size_alloc, World.size_alloc]; omega) o3).drew
end
theorem keep7a {w : World} {p0 p1 p2 p3 p4 p5 p6 : Addr} {u0 u1 u2 u3 u4 u5 u6 : Value} (h : w.cell? p0 = some u0 ∧ w.cell? p1 = some u1 ∧ w.cell? p2 = some u2 ∧ w.cell? p3 = some u3 ∧ w.cell? p4 = some u4 ∧ w.cell? p5 = some u5 ∧ w.cell? p6 = some u6) (o : Obj) : (w.alloc o).cell? p0 = some u0 ∧ (w.alloc o).cell? p1 = some u1 ∧ (w.alloc o).cell? p2 = some u2 ∧ (w.alloc o).cell? p3 = some u3 ∧ (w.alloc o).cell? p4 = some u4 ∧ (w.alloc o).cell? p5 = some u5 ∧ (w.alloc o).cell? p6 = some u6 :=
  ⟨cell_alloc h.1 o, cell_alloc h.2.1 o, cell_alloc h.2.2.1 o, cell_alloc h.2.2.2.1 o, cell_alloc h.2.2.2.2.1 o, cell_alloc h.2.2.2.2.2.1 o, cell_alloc h.2.2.2.2.2.2 o⟩
def SeatR (w0 : World) (P : PX) (v1 v2 v3 v4 v5 : Value) (v : Value) (wr : World) : Prop :=
  ∃ wb ib lb nb, v = .pointer (some ⟨wb, 0, none⟩) ∧ RAt w0 wr wb ib lb nb P v1 v2 v3 v4 v5 (bo0 P) false ∧ RCx w0 wb ib lb nb P v1 v2 v3 v4 v5
def SeatsP (P : PX) (w : World) (e : Ending) (w' : World) : Prop :=
  ∃ (wb ib : Nat) (rs : RS), e = .returned (.tuple #[.pointer (some ⟨wb, 0, none⟩), .bool (boA P).isSome]) ∧ Below w.heap.size w w' ∧ ((boA P).isSome = true → boA P = some rs) ∧ w'.cell? ⟨wb, 7, none⟩ = some (innV ib P.sts.length) ∧ At w' ib (intA rs.inner) 3 ∧ rs.inner.length = P.sts.length
theorem boA_of (P : PX) : (boA P).isSome = (match boF P 6 P.main 0 false (bo0 P) with | none => false | some st => decide (st.seen = P.sts.length)) := by
  unfold boA
  cases boF P 6 P.main 0 false (bo0 P) with
  | none => rfl
  | some st =>
    by_cases h : st.seen = P.sts.length
    · simp [h]
    · simp [h]
set_option maxRecDepth 100000 in
set_option maxHeartbeats 6400000 in
theorem seats_any (P : PX) (v1 v2 v3 v4 v5 : Value) (hF : formB P = true) (w : World) (h : IsPr w v1 v2 v3 v4 v5 P) : Calls Tryz.prog 32 #[.agg #[.bool P.big, .int .i64 P.ptr, v1, v2, v3, v4, v5]] w (SeatsP P w) := by
  obtain ⟨hs40, hv4, hn2, hnew⟩ := form_sts hF
  obtain ⟨q1, k1, rfl, _⟩ := id h.1
  obtain ⟨q2, k2, rfl, _⟩ := id h.2.1
  obtain ⟨q3, k3, rfl, _⟩ := id h.2.2.1
  obtain ⟨q4, k4, rfl, _⟩ := id h.2.2.2.1
  obtain ⟨q5, k5, rfl, _⟩ := id h.2.2.2.2
  have hb0 := below_box1 w (.cells #[.bool P.big, .int .i64 P.ptr, .slice q1 P.vars.length k1, .slice q2 P.news.length k2, .slice q3 P.exs.length k3, .slice q4 P.sts.length k4, .slice q5 P.main.length k5] 33)
  have hA := At.new w #[.bool P.big, .int .i64 P.ptr, .slice q1 P.vars.length k1, .slice q2 P.news.length k2, .slice q3 P.exs.length k3, .slice q4 P.sts.length k4, .slice q5 P.main.length k5] 33
  obtain ⟨w1, hw1⟩ : ∃ w1, w.alloc (.cells #[.bool P.big, .int .i64 P.ptr, .slice q1 P.vars.length k1, .slice q2 P.news.length k2, .slice q3 P.exs.length k3, .slice q4 P.sts.length k4, .slice q5 P.main.length k5] 33) = w1 := ⟨_, rfl⟩
  rw [hw1] at hb0 hA
  have h1 := h.below hb0
  have a0 : w1.cell? ⟨w.heap.size, 0, none⟩ = some (.bool P.big) := hA.cell 0 rfl
  have a1 : w1.cell? ⟨w.heap.size, 1, none⟩ = some (.int .i64 P.ptr) := hA.cell 1 rfl
  have a2 : w1.cell? ⟨w.heap.size, 2, none⟩ = some (.slice q1 P.vars.length k1) := hA.cell 2 rfl
  have a3 : w1.cell? ⟨w.heap.size, 3, none⟩ = some (.slice q2 P.news.length k2) := hA.cell 3 rfl
  have a4 : w1.cell? ⟨w.heap.size, 4, none⟩ = some (.slice q3 P.exs.length k3) := hA.cell 4 rfl
  have a5 : w1.cell? ⟨w.heap.size, 5, none⟩ = some (.slice q4 P.sts.length k4) := hA.cell 5 rfl
  have a6 : w1.cell? ⟨w.heap.size, 6, none⟩ = some (.slice q5 P.main.length k5) := hA.cell 6 rfl
  have m1 := fun w => mkInt P.sts.length (by omega) w
  have m2 := fun w => mkBool P.sts.length (by omega) w
  have m3 := fun w => mkBool P.news.length (by omega) w
  have HB0 := Lib.hid hb0
  have HH1 := Lib.hid h1
  have HM := Lib.hid (And.intro hs40 (And.intro hv4 (And.intro hn2 hnew)))
  have hlt1 := hA.lt
  have hne1 : ¬ w.heap.size = w1.heap.size := by omega
  have hne2 : ¬ w.heap.size = w1.heap.size + 1 := by omega
  have hne3 : ¬ w.heap.size = w1.heap.size + 1 + 1 := by omega
  clear h h1 hb0 hA hF hnew
  go_enter Tryz.func32, Tryz.ntmps32
  go_upto_region 1 with (fail)
  clear hw1
  go_cut [4] from 5 to 19 (fun v wr => SeatR w1 P (.slice q1 P.vars.length k1) (.slice q2 P.news.length k2) (.slice q3 P.exs.length k3) (.slice q4 P.sts.length k4) (.slice q5 P.main.length k5) v wr)
  case first =>
    have k0 := And.intro a0 (And.intro a1 (And.intro a2 (And.intro a3 (And.intro a4 (And.intro a5 a6)))))
    go_region_held3 (fun w' => w'.cell? ⟨w.heap.size, 0, none⟩ = some (.bool P.big) ∧ w'.cell? ⟨w.heap.size, 1, none⟩ = some (.int .i64 P.ptr) ∧ w'.cell? ⟨w.heap.size, 2, none⟩ = some (.slice q1 P.vars.length k1) ∧ w'.cell? ⟨w.heap.size, 3, none⟩ = some (.slice q2 P.news.length k2) ∧ w'.cell? ⟨w.heap.size, 4, none⟩ = some (.slice q3 P.exs.length k3) ∧ w'.cell? ⟨w.heap.size, 5, none⟩ = some (.slice q4 P.sts.length k4) ∧ w'.cell? ⟨w.heap.size, 6, none⟩ = some (.slice q5 P.main.length k5)) (first | exact k0 | exact keep7a k0 _ | exact keep7a (keep7a k0 _) _ | exact keep7a (keep7a (keep7a k0 _) _) _ | exact keep7a (keep7a (keep7a (keep7a k0 _) _) _) _) (fail)
    all_goals
      go_wp2_with fail
      go_meet
      refine ⟨_, _, _, _, rfl, ⟨at_p3 rfl, ?_, ?_, ?_, below_p4, by simp [bo0], by simp [bo0], by simp [bo0], by simp [bo0], by simp [bo0]; omega⟩, ?_⟩
      · first | exact at_p0 rfl | exact at_p1 rfl | exact at_p2 rfl
      · first | exact at_p0 rfl | exact at_p1 rfl | exact at_p2 rfl
      · first | exact at_p0 rfl | exact at_p1 rfl | exact at_p2 rfl
      · exact ⟨HH1.out, by omega, by omega, by omega, by omega, by omega, by omega, by omega, by omega, by omega, by omega, HM.out.1, HM.out.2.1, HM.out.2.2.1, HM.out.2.2.2⟩
  case rest =>
    obtain ⟨wb, ib, lb, nb, rfl, hA, hx⟩ := hcut
    generalize wc = w2 at *
    have hb12 := hA.below
    have c6 := cell_below a6 hb12
    have c5 := cell_below a5 hb12
    have cB := body_any w1 wb ib lb nb P _ _ _ _ _ hx 6 P.main _ 0 false (bo0 P) w2 (by omega) (by omega) (HH1.out.2.2.2.2) hA
    have hlast : (bo0 P).last = -1 := rfl
    rw [hlast] at cB
    unfold RbP at cB
    have HX := Lib.hid hx
    have hAG := boA_of P
    have HAG := Lib.hid hAG
    clear m1 m2 m3 hlast hA hx hAG hne1 hne2 hne3 hlt1
    go_wp2_with fail
    refine cB.mono ?_
    rintro e w3 ⟨brk, rs, ret, rfl, A3, B3, r3, _⟩
    have hb3 := A3.below
    have d5 := cell_below a5 hb3
    have d9 : w3.cell? ⟨wb, 9, none⟩ = some (.int .i64 (rs.seen : Int)) := A3.cells.cell 9 rfl
    have d11 : w3.cell? ⟨wb, 11, none⟩ = some (.bool brk) := A3.cells.cell 11 rfl
    have z5 := fun p : BelowBy w3 => p.cell d5
    have z9 := fun p : BelowBy w3 => p.cell d9
    have z11 := fun p : BelowBy w3 => p.cell d11
    have FIN : Hid (∀ w4, Below w3.heap.size w3 w4 → SeatsP P w (.returned (.tuple #[.pointer (some ⟨wb, 0, none⟩), .bool (!brk && decide (rs.seen = P.sts.length))])) w4) := Lib.hid fun w4 hb4 => by
      have A4 := A3.bel HX.out hb4
      refine ⟨wb, ib, rs, ?_, HB0.out.trans (A4.below.mono HB0.out.size), ?_, A4.cells.cell 7 rfl, A4.inn, A4.li⟩
      · rw [HAG.out, r3]
        cases brk <;> simp
      · intro h
        rw [HAG.out, r3] at h
        cases brk
        · simp at h
          unfold boA
          rw [r3]
          simp [h]
        · simp at h
    clear cB A3 B3 r3 hb3 c5 c6 a0 a1 a2 a3 a4 a5 a6 hb12
    cases brk
    · by_cases hss : rs.seen = P.sts.length
      · have hsb : ((rs.seen : Int) == (P.sts.length : Int)) = true := by rw [hss]; simp
        have hsd : decide (rs.seen = P.sts.length) = true := decide_eq_true hss
        rw [hsd] at FIN
        clear hss hsd
        go_wp2_with fail
        refine wp_region_quiet_below (by kernel_rfl) (by kernel_rfl) ?_
        repeat (go_big_quiet_step (fail))
        refine wpQuiet_nil ?_
        intro w4 hw'
        have hb4 : Below w3.heap.size w3 w4 := by (obtain ⟨⟨_, h⟩, h2⟩ := hw'; rw [h2]; exact h)
        go_wp2
        go_ret2
        exact FIN.out _ hb4
      · have hsb : ((rs.seen : Int) == (P.sts.length : Int)) = false := by rw [beq_eq_false_iff_ne]; omega
        have hsd : decide (rs.seen = P.sts.length) = false := decide_eq_false hss
        rw [hsd] at FIN
        clear hss hsd
        go_wp2_with fail
        refine wp_region_quiet_below (by kernel_rfl) (by kernel_rfl) ?_
        repeat (go_big_quiet_step (fail))
        refine wpQuiet_nil ?_
        intro w4 hw'
        have hb4 : Below w3.heap.size w3 w4 := by (obtain ⟨⟨_, h⟩, h2⟩ := hw'; rw [h2]; exact h)
        go_wp2
        go_ret2
        exact FIN.out _ hb4
    · go_wp2_with fail
      refine wp_region_quiet_below (by kernel_rfl) (by kernel_rfl) ?_
      repeat (go_big_quiet_step (fail))
      refine wpQuiet_nil ?_
      intro w4 hw'
      have hb4 : Below w3.heap.size w3 w4 := by (obtain ⟨⟨_, h⟩, h2⟩ := hw'; rw [h2]; exact h)
      go_wp2
      go_ret2
      exact FIN.out _ hb4
end Go.Proofs.YtncdbjflfhfddaaGreat
