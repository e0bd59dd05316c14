/- sync.Once's first asking, an atomic class that is met first: one goroutine, the numbers of one call of package alu. -/
import Derived.Test.YtbamphfoobmblaaOnce
namespace Go.Proofs.Ytbamphfoobmblaa
open Go.ChangeShapes Go.WideShapes Go.ChangeAt Go.RowKit Go.Joins Go.Deep
set_option linter.unusedVariables false

theorem disable (w : World) : (callFunc 86 #[]).run Try.prog w = .ok (.value (.tuple #[])) w := run_call_mark0 Try.func86 (by kernel_rfl) (by kernel_rfl) (by kernel_rfl) .disable (by kernel_rfl) w
theorem enable (w : World) : (callFunc 87 #[]).run Try.prog w = .ok (.value (.tuple #[])) w := run_call_mark0 Try.func87 (by kernel_rfl) (by kernel_rfl) (by kernel_rfl) .enable (by kernel_rfl) w
theorem acquire (a : Addr) (w : World) : (callFunc 88 #[.pointer (some a)]).run Try.prog w = .ok (.value (.tuple #[])) w := run_call_marked Try.func88 (by kernel_rfl) (by kernel_rfl) (by kernel_rfl) .acquire (by kernel_rfl) a w
theorem releaseMerge (a : Addr) (w : World) : (callFunc 90 #[.pointer (some a)]).run Try.prog w = .ok (.value (.tuple #[])) w := run_call_marked Try.func90 (by kernel_rfl) (by kernel_rfl) (by kernel_rfl) .releaseMerge (by kernel_rfl) a w

theorem store_deferred (a : Addr) (x : Value) (u : FrameMode) (w : World) (hc : w.cell? a = some x) (hz : w.frozen? a = false) :
    CallsD Try.prog 79 #[.pointer (some a), .bool true] u w fun e u' w' => u' = u ∧ (e = .returned (.tuple #[]) ∧ w' = w.drew.setCell a (.int .u32 1)) := by
  have hc' : w.drew.cell? a = some x := by go_simp
  have hz' : w.drew.frozen? a = false := by go_simp
  have hst := run_call_store (P := Try.prog) Try.func83 (by kernel_rfl) (by kernel_rfl) (by kernel_rfl) (by kernel_rfl) (k := .u32) (y := 1) hc' hz'
  go_enter_d Try.func79, Try.ntmps79
  go_wp2
  go_region_calls
  all_goals (go_end0; exact ⟨rfl, rfl⟩)

set_option maxRecDepth 100000 in
theorem unlock_deferred (a : Addr) (u : FrameMode) (w : World) (hc : w.cell? a = some (.int .i32 1)) (hz : w.frozen? a = false) :
    CallsD Try.prog 78 #[.pointer (some a)] u w fun e u' w' => u' = u ∧ (e = .returned (.tuple #[]) ∧ w' = w.setCell a (.int .i32 0)) := by
  have hd := disable
  have he := enable
  have hr := releaseMerge
  have hadd := run_call_add (P := Try.prog) Try.func91 (by kernel_rfl) (by kernel_rfl) (by kernel_rfl) .i32 (by kernel_rfl) (y := -1) (s := 0) hc hz (by simp [go_sem]; rfl)
  have hcv := run_convert_to_unsafe (P := Try.prog) (src := 92) (dst := 94) Try.underlying92 Try.underlying94 (by kernel_rfl) hc
  go_enter_d Try.func78, Try.ntmps78
  go_wp2
  go_end0
  go_wp2
  go_end0
  exact ⟨rfl, rfl⟩

set_option maxRecDepth 100000 in
theorem lock_free (a : Addr) (w : World) (hc : w.cell? a = some (.int .i32 0)) (hz : w.frozen? a = false) :
    Calls Try.prog 77 #[.pointer (some a)] w fun e w' => e = .returned (.tuple #[]) ∧ w' = w.setCell a (.int .i32 1) := by
  have hd := disable
  have he := enable
  have ha := acquire
  have hcas := run_call_cas_hit (P := Try.prog) Try.func85 (by kernel_rfl) (by kernel_rfl) (by kernel_rfl) .i32 (by kernel_rfl) (y := 1) hc hz
  have hc' : (w.setCell a (.int .i32 1)).cell? a = some (.int .i32 1) := World.cell?_setCell_same w a _ hc
  have hcv := run_convert_to_unsafe (P := Try.prog) (src := 92) (dst := 94) Try.underlying92 Try.underlying94 (by kernel_rfl) hc'
  go_enter Try.func77, Try.ntmps77
  go_wp2
  first | go_end0 | (simp only [Exit.inBlock, Exit.then]; refine bodyPost_ret (results_none rfl _ _ _) rfl ?_) | refine bodyPost_ret (results_none rfl _ _ _) rfl ?_
  go_wp2
  go_end0
  exact ⟨rfl, rfl⟩

/-- what a view is, of a kind with a sign or without -/
def viewOf (sg : Bool) (n W : Int) : Int := if sg = true then viewI n W else n

theorem makeViews_any (b : Nat) (W : Int) (sg : Bool) (a c st bad : Int) (hW : isW W) (ha : isN a W) (hc : isN c W) (w : World) (h : NumAt w b W sg a c 0 st 0 0 bad) :
    Calls Try.prog 57 #[.pointer (some ⟨b, 0, none⟩)] w (NumPost b W sg a c 0 st (viewOf sg a W) (viewOf sg c W) bad w) := by
  cases sg
  · exact makeViews_u b W a c st bad w h
  · exact makeViews_s b W a c st bad hW ha hc w h

set_option maxRecDepth 100000 in
set_option maxHeartbeats 1600000 in
theorem slow_any (b : Nat) (W : Int) (sg : Bool) (a c bad : Int) (hW : isW W) (ha : isN a W) (hc : isN c W) (w : World) (h : NumAt w b W sg a c 0 0 0 0 bad) :
    Calls Try.prog 71 #[.pointer (some ⟨b, 4, none⟩), .func (.func 57) #[.pointer (some ⟨b, 0, none⟩)] #[]] w (NumPost b W sg a c 1 0 (viewOf sg a W) (viewOf sg c W) bad w) := by
  have k1 := h.set5 1
  have hl := run_call_load (P := Try.prog) Try.func76 (by kernel_rfl) (by kernel_rfl) (by kernel_rfl) .u32 (by kernel_rfl) (w := w.setCell ⟨b, 5, none⟩ (.int .i32 1)) (a := ⟨b, 4, none⟩) (x := 0) k1.c4
  have hnot : ∀ (x : Bool) (w : World), (Op.unary .not (.bool x)).run Try.prog w = .ok (.bool (!x)) w := fun _ _ => rfl
  have c5 := h.c5
  have f5 := h.free 5
  have cM := makeViews_any b W sg a c 1 bad hW ha hc _ k1
  go_enter_defers Try.func71, Try.ntmps71
  go_wp2_with (first | (go_at_call 77; refine (lock_free ⟨b, 5, none⟩ _ (by go_simp) (by go_simp)).mono ?_; rintro e w' ⟨rfl, rfl⟩) | (go_at_call 70; go_in) | (go_at_call 57; refine cM.mono ?_; rintro e w' ⟨rfl, m1, m2⟩))
  refine leaves_cons (f := 79) (args := #[.pointer (some ⟨b, 4, none⟩), .bool true]) (by simp) (by simp [go_sem]) ?_
  refine (store_deferred ⟨b, 4, none⟩ (.int .u32 0) .returning _ m1.c4 (m1.free 4)).mono ?_
  rintro e u' w'' ⟨rfl, rfl, rfl⟩
  have n1 := m1.draw.set4 1
  have n2 : Below b _ (w'.drew.setCell ⟨b, 4, none⟩ (.int .u32 1)) := (m2.drew).setCell (Nat.le_refl _) _
  generalize w'.drew.setCell ⟨b, 4, none⟩ (.int .u32 1) = w2 at n1 n2 ⊢
  refine leaves_cons (f := 78) (args := #[.pointer (some ⟨b, 5, none⟩)]) (by simp [settle]) (by simp [go_sem]) ?_
  refine (unlock_deferred ⟨b, 5, none⟩ _ _ n1.c5 (n1.free 5)).mono ?_
  rintro e u' w'' ⟨rfl, rfl, rfl⟩
  have o1 := n1.set5 0
  have o2 : Below b w (w2.setCell ⟨b, 5, none⟩ (.int .i32 0)) := ((((Below.refl b w).setCell (Nat.le_refl _) _).trans n2).setCell (Nat.le_refl _) _)
  generalize w2.setCell ⟨b, 5, none⟩ (.int .i32 0) = w3 at o1 o2 ⊢
  have fin : NumPost b W sg a c 1 0 (viewOf sg a W) (viewOf sg c W) bad w (.returned (.tuple #[])) w3 := ⟨rfl, o1, o2⟩
  simpa [Leaves, settle, results, Try.results71] using fin

set_option maxRecDepth 100000 in
set_option maxHeartbeats 1600000 in
theorem do_first (b : Nat) (W : Int) (sg : Bool) (a c bad : Int) (hW : isW W) (ha : isN a W) (hc : isN c W) (w : World) (h : NumAt w b W sg a c 0 0 0 0 bad) :
    Calls Try.prog 56 #[.pointer (some ⟨b, 4, none⟩), .func (.func 57) #[.pointer (some ⟨b, 0, none⟩)] #[]] w (NumPost b W sg a c 1 0 (viewOf sg a W) (viewOf sg c W) bad w) := by
  have hl := run_call_load (P := Try.prog) Try.func76 (by kernel_rfl) (by kernel_rfl) (by kernel_rfl) .u32 (by kernel_rfl) h.c4
  have hnot : ∀ (x : Bool) (w : World), (Op.unary .not (.bool x)).run Try.prog w = .ok (.bool (!x)) w := fun _ _ => rfl
  go_enter Try.func56, Try.ntmps56
  go_wp2_with (first | (go_at_call 71; refine (slow_any b W sg a c bad hW ha hc _ h).mono ?_; rintro e w' ⟨rfl, m1, m2⟩) | (go_at_call 70; go_in))
  go_end0
  exact ⟨rfl, m1, m2⟩

/-- the views, asked once -/
def ViewsPost (b : Nat) (W : Int) (sg : Bool) (a c bad : Int) (w : World) (e : Ending) (w' : World) : Prop :=
  e = .returned (.tuple #[.int .i64 (viewOf sg a W), .int .i64 (viewOf sg c W)]) ∧ NumAt w' b W sg a c 1 0 (viewOf sg a W) (viewOf sg c W) bad ∧ Below b w w'
set_option maxHeartbeats 800000 in
theorem views_any (b : Nat) (W : Int) (sg : Bool) (a c bad : Int) (hW : isW W) (ha : isN a W) (hc : isN c W) (w : World) (h : NumAt w b W sg a c 0 0 0 0 bad) :
    Calls Try.prog 41 #[.pointer (some ⟨b, 0, none⟩)] w (ViewsPost b W sg a c bad w) := by
  have hmf : ∀ (fn : Fn) (first cap : Array Value) (w : World), (Instr.makeFunc fn first cap).run Try.prog w = .ok (.func fn first cap) w := fun _ _ _ _ => rfl
  go_enter Try.func41, Try.ntmps41
  go_wp2_with (go_at_call 56; refine (do_first b W sg a c bad hW ha hc _ h).mono ?_; rintro e w' ⟨rfl, m1, m2⟩)
  have c7 := m1.c7
  have c8 := m1.c8
  go_quiet (fail)
  go_wp2
  go_ret2
  exact ⟨rfl, m1, m2.trans (Joins.below_draws _ _ _)⟩
end Go.Proofs.Ytbamphfoobmblaa
