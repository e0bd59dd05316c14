/- Package prog: sync.Once, one goroutine: the way is gone once. -/
import Derived.Test.YtncdbjflfhfddaaGreatGT
import Derived.Test.YtncdbjflfhfddaaGreatGSz
import Derived.Defers
namespace Go.Proofs.YtncdbjflfhfddaaGreat
open Go.ChangeShapes Go.WideShapes Go.ChangeAt Go.RowKit Go.Joins Go.Deep
set_option linter.unusedVariables false

theorem disable (w : World) : (callFunc 91 #[]).run Tryz.prog w = .ok (.value (.tuple #[])) w := run_call_mark0 Tryz.func91 (by kernel_rfl) (by kernel_rfl) (by kernel_rfl) .disable (by kernel_rfl) w
theorem enable (w : World) : (callFunc 93 #[]).run Tryz.prog w = .ok (.value (.tuple #[])) w := run_call_mark0 Tryz.func93 (by kernel_rfl) (by kernel_rfl) (by kernel_rfl) .enable (by kernel_rfl) w
theorem acquire (a : Addr) (w : World) : (callFunc 94 #[.pointer (some a)]).run Tryz.prog w = .ok (.value (.tuple #[])) w := run_call_marked Tryz.func94 (by kernel_rfl) (by kernel_rfl) (by kernel_rfl) .acquire (by kernel_rfl) a w
theorem releaseMerge (a : Addr) (w : World) : (callFunc 96 #[.pointer (some a)]).run Tryz.prog w = .ok (.value (.tuple #[])) w := run_call_marked Tryz.func96 (by kernel_rfl) (by kernel_rfl) (by kernel_rfl) .releaseMerge (by kernel_rfl) a w

theorem store_deferred (a : Addr) (x : Value) (u : FrameMode) (w : World) (hc : w.cell? a = some x) (hz : w.frozen? a = false) :
    CallsD Tryz.prog 76 #[.pointer (some a), .bool true] u w fun e u' w' => u' = u ∧ (e = .returned (.tuple #[]) ∧ w' = w.drew.setCell a (.int .u32 1)) := by
  have hc' : w.drew.cell? a = some x := by go_simp
  have hz' : w.drew.frozen? a = false := by go_simp
  have hst := run_call_store (P := Tryz.prog) Tryz.func86 (by kernel_rfl) (by kernel_rfl) (by kernel_rfl) (by kernel_rfl) (k := .u32) (y := 1) hc' hz'
  go_enter_d Tryz.func76, Tryz.ntmps76
  go_wp2
  go_region_calls
  all_goals (go_end0; exact ⟨rfl, rfl⟩)

set_option maxRecDepth 100000 in
theorem unlock_deferred (a : Addr) (u : FrameMode) (w : World) (hc : w.cell? a = some (.int .i32 1)) (hz : w.frozen? a = false) :
    CallsD Tryz.prog 75 #[.pointer (some a)] u w fun e u' w' => u' = u ∧ (e = .returned (.tuple #[]) ∧ w' = w.setCell a (.int .i32 0)) := by
  have hd := disable
  have he := enable
  have hr := releaseMerge
  have hadd := run_call_add (P := Tryz.prog) Tryz.func88 (by kernel_rfl) (by kernel_rfl) (by kernel_rfl) .i32 (by kernel_rfl) (y := -1) (s := 0) hc hz (by simp [go_sem]; rfl)
  have hcv := run_convert_to_unsafe (P := Tryz.prog) (src := 125) (dst := 128) Tryz.underlying125 Tryz.underlying128 (by kernel_rfl) hc
  go_enter_d Tryz.func75, Tryz.ntmps75
  go_wp2
  go_end0
  go_wp2
  go_end0
  exact ⟨rfl, rfl⟩

set_option maxRecDepth 100000 in
theorem lock_free (a : Addr) (w : World) (hc : w.cell? a = some (.int .i32 0)) (hz : w.frozen? a = false) :
    Calls Tryz.prog 74 #[.pointer (some a)] w fun e w' => e = .returned (.tuple #[]) ∧ w' = w.setCell a (.int .i32 1) := by
  have hd := disable
  have he := enable
  have ha := acquire
  have hcas := run_call_cas_hit (P := Tryz.prog) Tryz.func92 (by kernel_rfl) (by kernel_rfl) (by kernel_rfl) .i32 (by kernel_rfl) (y := 1) hc hz
  have hc' : (w.setCell a (.int .i32 1)).cell? a = some (.int .i32 1) := World.cell?_setCell_same w a _ hc
  have hcv := run_convert_to_unsafe (P := Tryz.prog) (src := 125) (dst := 128) Tryz.underlying125 Tryz.underlying128 (by kernel_rfl) hc'
  go_enter Tryz.func74, Tryz.ntmps74
  go_wp2
  first | go_end0 | (simp only [Exit.inBlock, Exit.then]; refine bodyPost_ret (results_none rfl _ _ _) rfl ?_) | refine bodyPost_ret (results_none rfl _ _ _) rfl ?_
  go_wp2
  go_end0
  exact ⟨rfl, rfl⟩




section
variable {w0 w w' : World} {pb : Nat} {P : PX} {v1 v2 v3 v4 v5 : Value} {dn st : Int}
theorem PgDone.cell7 (h : PgDone w0 w pb P v1 v2 v3 v4 v5 dn st) : w.cell? ⟨pb, 7, none⟩ = some (.int .u32 dn) ∧ w.frozen? ⟨pb, 7, none⟩ = false ∧ w.cell? ⟨pb, 8, none⟩ = some (.int .i32 st) ∧ w.frozen? ⟨pb, 8, none⟩ = false := by
  obtain ⟨ib, mb, b, G, hx, g, _⟩ := h
  exact ⟨g.cell 7 rfl, At.free g.cells 7, g.cell 8 rfl, At.free g.cells 8⟩
theorem GoAt.turn {ib mb : Nat} {ord : Bool} {G : GS} {dn' st' : Int} (hx : GoCx w0 pb ib mb P v1 v2 v3 v4 v5) (h : GoAt w0 w pb ib mb P v1 v2 v3 v4 v5 dn st ord G) (j : Nat) (x : Value)
    (hc : At (w.setCell ⟨pb, j, none⟩ x) pb (pgC P v1 v2 v3 v4 v5 dn' st' (G.met : Nat) ord (.slice (some ⟨ib, 0, none⟩) P.sts.length P.sts.length) (.slice (some ⟨mb, 0, none⟩) (1 + P.vars.length + P.news.length) (1 + P.vars.length + P.news.length))) 89) : GoAt w0 (w.setCell ⟨pb, j, none⟩ x) pb ib mb P v1 v2 v3 v4 v5 dn' st' ord G :=
  ⟨hc, (Below.heap_setCell w ⟨pb, j, none⟩ _ ib (Nat.ne_of_gt hx.h1)).trans h.inn, (Below.heap_setCell w ⟨pb, j, none⟩ _ mb (Nat.ne_of_gt (Nat.lt_trans hx.h1 hx.h2))).trans h.mad, h.below.setCell (p := ⟨pb, j, none⟩) (Nat.le_refl _) _, h.li, h.lm, h.met⟩
theorem PgDone.setDn (h : PgDone w0 w pb P v1 v2 v3 v4 v5 dn st) (d : Int) : PgDone w0 (w.setCell ⟨pb, 7, none⟩ (.int .u32 d)) pb P v1 v2 v3 v4 v5 d st := by
  obtain ⟨ib, mb, b, G, hx, g, hr⟩ := h
  exact ⟨ib, mb, b, G, hx, g.turn hx 7 _ (At.set g.cells 7 (.int .u32 d) (by simp [pgC])), hr⟩
theorem PgDone.setSt (h : PgDone w0 w pb P v1 v2 v3 v4 v5 dn st) (d : Int) : PgDone w0 (w.setCell ⟨pb, 8, none⟩ (.int .i32 d)) pb P v1 v2 v3 v4 v5 dn d := by
  obtain ⟨ib, mb, b, G, hx, g, hr⟩ := h
  exact ⟨ib, mb, b, G, hx, g.turn hx 8 _ (At.set g.cells 8 (.int .i32 d) (by simp [pgC])), hr⟩
theorem PgDone.drew (h : PgDone w0 w pb P v1 v2 v3 v4 v5 dn st) : PgDone w0 w.drew pb P v1 v2 v3 v4 v5 dn st := by
  obtain ⟨ib, mb, b, G, hx, g, hr⟩ := h
  exact ⟨ib, mb, b, G, hx, ⟨g.cells.drew, g.inn.drew, g.mad.drew, g.below.drew, g.li, g.lm, g.met⟩, hr⟩
theorem PgDone.bel (h : PgDone w0 w pb P v1 v2 v3 v4 v5 dn st) (hb : Below w.heap.size w w') : PgDone w0 w' pb P v1 v2 v3 v4 v5 dn st := by
  obtain ⟨ib, mb, b, G, hx, g, hr⟩ := h
  exact ⟨ib, mb, b, G, hx, g.bel hb, hr⟩
theorem PgNew.bel (h : PgNew w0 w pb P v1 v2 v3 v4 v5 dn st) (hb : Below w.heap.size w w') : PgNew w0 w' pb P v1 v2 v3 v4 v5 dn st :=
  ⟨At.below' hb h.cells, h.below.trans (hb.mono (Nat.le_of_lt h.cells.lt)), h.hpb, h.pr⟩
theorem PgNew.qp (h : PgNew w0 w pb P v1 v2 v3 v4 v5 dn st) : QP w pb 0 P :=
  ⟨v1, v2, v3, v4, v5, h.cells.cell 0 rfl, h.cells.cell 1 rfl, h.cells.cell 2 rfl, h.cells.cell 3 rfl, h.cells.cell 4 rfl, h.cells.cell 5 rfl, h.cells.cell 6 rfl, h.pr.below (by rw [h.hpb]; exact h.below)⟩
end
def OnceG (w0 : World) (pb : Nat) (P : PX) (v1 v2 v3 v4 v5 : Value) (w : World) (e : Ending) (w' : World) : Prop :=
  e = .returned (.tuple #[]) ∧ PgDone w0 w' pb P v1 v2 v3 v4 v5 1 0 ∧ Below pb w w'
set_option maxRecDepth 100000 in
set_option maxHeartbeats 3200000 in
theorem slow_prog (w0 : World) (pb : Nat) (P : PX) (v1 v2 v3 v4 v5 : Value) (hF : formB P = true) (w : World) (h : PgNew w0 w pb P v1 v2 v3 v4 v5 0 0) :
    Calls Tryz.prog 60 #[.pointer (some ⟨pb, 7, none⟩), .func (.func 42) #[.pointer (some ⟨pb, 0, none⟩)] #[]] w (OnceG w0 pb P v1 v2 v3 v4 v5 w) := by
  have k1 : PgNew w0 (w.setCell ⟨pb, 8, none⟩ (.int .i32 1)) pb P v1 v2 v3 v4 v5 0 1 := ⟨At.set h.cells 8 (.int .i32 1) (by simp [pgC]), h.below.setCell (p := ⟨pb, 8, none⟩) (Nat.le_refl _) _, h.hpb, h.pr⟩
  have hK1 : Below pb w (w.setCell ⟨pb, 8, none⟩ (.int .i32 1)) := (Below.refl pb w).setCell (p := ⟨pb, 8, none⟩) (Nat.le_refl _) _
  have hl := run_call_load (P := Tryz.prog) Tryz.func73 (by kernel_rfl) (by kernel_rfl) (by kernel_rfl) .u32 (by kernel_rfl) (w := w.setCell ⟨pb, 8, none⟩ (.int .i32 1)) (a := ⟨pb, 7, none⟩) (x := 0) (k1.cells.cell 7 rfl)
  have hnot : ∀ (x : Bool) (w : World), (Op.unary .not (.bool x)).run Tryz.prog w = .ok (.bool (!x)) w := fun _ _ => rfl
  have c7 : w.cell? ⟨pb, 8, none⟩ = some (.int .i32 0) := h.cells.cell 8 rfl
  have f7 := At.free h.cells 8
  have cM := goThrough_any w0 _ pb P v1 v2 v3 v4 v5 0 1 hF k1
  unfold ThP at cM
  clear h
  go_enter_defers Tryz.func60, Tryz.ntmps60
  go_wp2_with (first | (go_at_call 74; refine (lock_free ⟨pb, 8, none⟩ _ (by go_simp) (by go_simp)).mono ?_; rintro e w' ⟨rfl, rfl⟩) | (go_at_call 59; go_in) | (go_at_call 42; refine cM.mono ?_; rintro e w' ⟨rfl, m1, m2⟩))
  obtain ⟨q7, qf7, q8, qf8⟩ := m1.cell7
  refine leaves_cons (f := 76) (args := #[.pointer (some ⟨pb, 7, none⟩), .bool true]) (by simp) (by simp [go_sem]) ?_
  refine (store_deferred ⟨pb, 7, none⟩ (.int .u32 0) .returning _ q7 qf7).mono ?_
  rintro e u' w'' ⟨rfl, rfl, rfl⟩
  have n1 : PgDone w0 (w'.drew.setCell ⟨pb, 7, none⟩ (.int .u32 1)) pb P v1 v2 v3 v4 v5 1 1 := m1.drew.setDn 1
  have n2 : Below pb w (w'.drew.setCell ⟨pb, 7, none⟩ (.int .u32 1)) := ((hK1.trans m2).drew).setCell (p := ⟨pb, 7, none⟩) (Nat.le_refl _) _
  generalize w'.drew.setCell ⟨pb, 7, none⟩ (.int .u32 1) = w2 at n1 n2 ⊢
  obtain ⟨_, _, r8, rf8⟩ := n1.cell7
  refine leaves_cons (f := 75) (args := #[.pointer (some ⟨pb, 8, none⟩)]) (by simp [settle]) (by simp [go_sem]) ?_
  refine (unlock_deferred ⟨pb, 8, none⟩ _ _ r8 rf8).mono ?_
  rintro e u' w'' ⟨rfl, rfl, rfl⟩
  have o1 : PgDone w0 (w2.setCell ⟨pb, 8, none⟩ (.int .i32 0)) pb P v1 v2 v3 v4 v5 1 0 := n1.setSt 0
  have o2 : Below pb w (w2.setCell ⟨pb, 8, none⟩ (.int .i32 0)) := n2.setCell (p := ⟨pb, 8, none⟩) (Nat.le_refl _) _
  generalize w2.setCell ⟨pb, 8, none⟩ (.int .i32 0) = w3 at o1 o2 ⊢
  have fin : OnceG w0 pb P v1 v2 v3 v4 v5 w (.returned (.tuple #[])) w3 := ⟨rfl, o1, o2⟩
  simpa [Leaves, settle, results, Tryz.results60] using fin
set_option maxRecDepth 100000 in
set_option maxHeartbeats 1600000 in
theorem do_prog (w0 : World) (pb : Nat) (P : PX) (v1 v2 v3 v4 v5 : Value) (hF : formB P = true) (w : World) (h : PgNew w0 w pb P v1 v2 v3 v4 v5 0 0) :
    Calls Tryz.prog 41 #[.pointer (some ⟨pb, 7, none⟩), .func (.func 42) #[.pointer (some ⟨pb, 0, none⟩)] #[]] w (OnceG w0 pb P v1 v2 v3 v4 v5 w) := by
  have hl := run_call_load (P := Tryz.prog) Tryz.func73 (by kernel_rfl) (by kernel_rfl) (by kernel_rfl) .u32 (by kernel_rfl) (w := w) (a := ⟨pb, 7, none⟩) (x := 0) (h.cells.cell 7 rfl)
  have hnot : ∀ (x : Bool) (w : World), (Op.unary .not (.bool x)).run Tryz.prog w = .ok (.bool (!x)) w := fun _ _ => rfl
  have cS := slow_prog w0 pb P v1 v2 v3 v4 v5 hF w h
  unfold OnceG at cS
  clear h
  go_enter Tryz.func41, Tryz.ntmps41
  go_wp2_with (first | (go_at_call 60; refine cS.mono ?_; rintro e w' ⟨rfl, m1, m2⟩) | (go_at_call 59; go_in))
  go_end0
  exact ⟨rfl, m1, m2⟩
set_option maxRecDepth 100000 in
set_option maxHeartbeats 1600000 in
theorem do_progDone (w0 : World) (pb : Nat) (P : PX) (v1 v2 v3 v4 v5 v : Value) (w : World) (h : PgDone w0 w pb P v1 v2 v3 v4 v5 1 0) :
    Calls Tryz.prog 41 #[.pointer (some ⟨pb, 7, none⟩), v] w fun e w' => e = .returned (.tuple #[]) ∧ w = w' := by
  have hl := run_call_load (P := Tryz.prog) Tryz.func73 (by kernel_rfl) (by kernel_rfl) (by kernel_rfl) .u32 (by kernel_rfl) (w := w) (a := ⟨pb, 7, none⟩) (x := 1) h.cell7.1
  have hnot : ∀ (x : Bool) (w : World), (Op.unary .not (.bool x)).run Tryz.prog w = .ok (.bool (!x)) w := fun _ _ => rfl
  clear h
  go_enter Tryz.func41, Tryz.ntmps41
  go_wp2_with ((go_at_call 59; go_in))
  first | go_end0 | (simp only [Exit.inBlock, Exit.then]; refine bodyPost_ret (results_none rfl _ _ _) rfl ?_) | refine bodyPost_ret (results_none rfl _ _ _) rfl ?_
  exact ⟨rfl, rfl⟩
def StandP (w0 : World) (pb : Nat) (P : PX) (v1 v2 v3 v4 v5 : Value) (w : World) (e : Ending) (w' : World) : Prop :=
  e = .returned (.bool (goA P).isSome) ∧ PgDone w0 w' pb P v1 v2 v3 v4 v5 1 0 ∧ Below pb w w'
set_option maxRecDepth 100000 in
set_option maxHeartbeats 1600000 in
theorem stand_any (w0 : World) (pb : Nat) (P : PX) (v1 v2 v3 v4 v5 : Value) (hF : formB P = true) (w : World) (h : PgNew w0 w pb P v1 v2 v3 v4 v5 0 0) :
    Calls Tryz.prog 40 #[.pointer (some ⟨pb, 0, none⟩)] w (StandP w0 pb P v1 v2 v3 v4 v5 w) := by
  have hmf : ∀ (fn : Fn) (first cap : Array Value) (w : World), (Instr.makeFunc fn first cap).run Tryz.prog w = .ok (.func fn first cap) w := fun _ _ _ _ => rfl
  have cD := do_prog w0 pb P v1 v2 v3 v4 v5 hF w h
  unfold OnceG at cD
  clear h
  go_enter Tryz.func40, Tryz.ntmps40
  go_wp2_with fail
  refine cD.mono ?_
  rintro e w2 ⟨rfl, m1, m2⟩
  obtain ⟨ib, mb, b, G, hx, g, hr⟩ := id m1
  have c11 : w2.cell? ⟨pb, 11, none⟩ = some (.bool b) := g.cell 11 rfl
  have fin : StandP w0 pb P v1 v2 v3 v4 v5 w (.returned (.bool b)) w2 := ⟨by rw [hr]; cases b <;> rfl, m1, m2⟩
  have FIN := Lib.hid fin
  clear fin m1 m2 g hx hr cD
  go_wp2_with fail
  go_ret
  exact FIN.out
set_option maxRecDepth 100000 in
set_option maxHeartbeats 1600000 in
theorem depths_any (w0 : World) (pb : Nat) (P : PX) (v1 v2 v3 v4 v5 : Value) (hG : (goA P).isSome = true) (w : World) (h : PgDone w0 w pb P v1 v2 v3 v4 v5 1 0) :
    Calls Tryz.prog 27 #[.pointer (some ⟨pb, 0, none⟩)] w fun e w' => ∃ v, e = .returned v ∧ IsIs w v (innerL P) ∧ (innerL P).length = P.sts.length ∧ w = w' := by
  have hmf : ∀ (fn : Fn) (first cap : Array Value) (w : World), (Instr.makeFunc fn first cap).run Tryz.prog w = .ok (.func fn first cap) w := fun _ _ _ _ => rfl
  have cD := fun v w h => do_progDone w0 pb P v1 v2 v3 v4 v5 v w h
  obtain ⟨ib, mb, b, G, hx, g, hr⟩ := id h
  have hb : b = true := by
    cases b
    · rw [hr] at hG; cases hG
    · rfl
  subst hb
  have hin : innerL P = G.inner := by unfold innerL; rw [hr]; rfl
  have c12 : w.cell? ⟨pb, 12, none⟩ = some (.slice (some ⟨ib, 0, none⟩) P.sts.length P.sts.length) := g.cell 12 rfl
  have FIN : Hid (IsIs w (.slice (some ⟨ib, 0, none⟩) P.sts.length P.sts.length) (innerL P) ∧ (innerL P).length = P.sts.length) := Lib.hid (by
    rw [hin]
    have hs := hx.hs
    refine ⟨⟨some ⟨ib, 0, none⟩, P.sts.length, by rw [g.li], by rw [g.li]; unfold maxLen; omega, by rw [g.li]; exact Nat.le_refl _, fun _ => ⟨ib, 0, rfl, g.inn.lt, fun i x hx => ?_⟩⟩, g.li⟩
    have := g.inn.cell i (intA_get hx)
    show w.cell? ⟨ib, 0 + i * 1, none⟩ = _
    rw [Nat.zero_add, Nat.mul_one]
    exact this)
  have HD := Lib.hid h
  clear hin hr g hx h
  generalize P.sts.length = ns at *
  go_enter Tryz.func27, Tryz.ntmps27
  go_wp2_with (go_at_call 41; refine (cD _ _ HD.out).mono ?_; rintro e w2 ⟨rfl, rfl⟩)
  go_ret
  exact ⟨_, rfl, FIN.out.1, FIN.out.2, rfl⟩
end Go.Proofs.YtncdbjflfhfddaaGreat
