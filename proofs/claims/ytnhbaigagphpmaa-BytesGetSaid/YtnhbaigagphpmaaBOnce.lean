/- sync.Once's asking, one goroutine: a row of bytes, counted once. -/
import Derived.Test.YtnhbaigagphpmaaBCount
import Derived.Defers
namespace Go.Proofs.Ytnhbaigagphpmaa
open Go.ChangeShapes Go.WideShapes Go.ChangeAt Go.RowKit Go.Joins Go.Deep
set_option linter.unusedVariables false

theorem disable (w : World) : (callFunc 96 #[]).run Try.prog w = .ok (.value (.tuple #[])) w := run_call_mark0 Try.func96 (by kernel_rfl) (by kernel_rfl) (by kernel_rfl) .disable (by kernel_rfl) w
theorem enable (w : World) : (callFunc 98 #[]).run Try.prog w = .ok (.value (.tuple #[])) w := run_call_mark0 Try.func98 (by kernel_rfl) (by kernel_rfl) (by kernel_rfl) .enable (by kernel_rfl) w
theorem acquire (a : Addr) (w : World) : (callFunc 99 #[.pointer (some a)]).run Try.prog w = .ok (.value (.tuple #[])) w := run_call_marked Try.func99 (by kernel_rfl) (by kernel_rfl) (by kernel_rfl) .acquire (by kernel_rfl) a w
theorem releaseMerge (a : Addr) (w : World) : (callFunc 101 #[.pointer (some a)]).run Try.prog w = .ok (.value (.tuple #[])) w := run_call_marked Try.func101 (by kernel_rfl) (by kernel_rfl) (by kernel_rfl) .releaseMerge (by kernel_rfl) a w

theorem store_deferred (a : Addr) (x : Value) (u : FrameMode) (w : World) (hc : w.cell? a = some x) (hz : w.frozen? a = false) :
    CallsD Try.prog 85 #[.pointer (some a), .bool true] u w fun e u' w' => u' = u ∧ (e = .returned (.tuple #[]) ∧ w' = w.drew.setCell a (.int .u32 1)) := by
  have hc' : w.drew.cell? a = some x := by go_simp
  have hz' : w.drew.frozen? a = false := by go_simp
  have hst := run_call_store (P := Try.prog) Try.func92 (by kernel_rfl) (by kernel_rfl) (by kernel_rfl) (by kernel_rfl) (k := .u32) (y := 1) hc' hz'
  go_enter_d Try.func85, Try.ntmps85
  go_wp2
  go_region_calls
  all_goals (go_end0; exact ⟨rfl, rfl⟩)

set_option maxRecDepth 100000 in
theorem unlock_deferred (a : Addr) (u : FrameMode) (w : World) (hc : w.cell? a = some (.int .i32 1)) (hz : w.frozen? a = false) :
    CallsD Try.prog 84 #[.pointer (some a)] u w fun e u' w' => u' = u ∧ (e = .returned (.tuple #[]) ∧ w' = w.setCell a (.int .i32 0)) := by
  have hd := disable
  have he := enable
  have hr := releaseMerge
  have hadd := run_call_add (P := Try.prog) Try.func86 (by kernel_rfl) (by kernel_rfl) (by kernel_rfl) .i32 (by kernel_rfl) (y := -1) (s := 0) hc hz (by simp [go_sem]; rfl)
  have hcv := run_convert_to_unsafe (P := Try.prog) (src := 135) (dst := 138) Try.underlying135 Try.underlying138 (by kernel_rfl) hc
  go_enter_d Try.func84, Try.ntmps84
  go_wp2
  go_end0
  go_wp2
  go_end0
  exact ⟨rfl, rfl⟩

set_option maxRecDepth 100000 in
theorem lock_free (a : Addr) (w : World) (hc : w.cell? a = some (.int .i32 0)) (hz : w.frozen? a = false) :
    Calls Try.prog 83 #[.pointer (some a)] w fun e w' => e = .returned (.tuple #[]) ∧ w' = w.setCell a (.int .i32 1) := by
  have hd := disable
  have he := enable
  have ha := acquire
  have hcas := run_call_cas_hit (P := Try.prog) Try.func97 (by kernel_rfl) (by kernel_rfl) (by kernel_rfl) .i32 (by kernel_rfl) (y := 1) hc hz
  have hc' : (w.setCell a (.int .i32 1)).cell? a = some (.int .i32 1) := World.cell?_setCell_same w a _ hc
  have hcv := run_convert_to_unsafe (P := Try.prog) (src := 135) (dst := 138) Try.underlying135 Try.underlying138 (by kernel_rfl) hc'
  go_enter Try.func83, Try.ntmps83
  go_wp2
  first | go_end0 | (simp only [Exit.inBlock, Exit.then]; refine bodyPost_ret (results_none rfl _ _ _) rfl ?_) | refine bodyPost_ret (results_none rfl _ _ _) rfl ?_
  go_wp2
  go_end0
  exact ⟨rfl, rfl⟩



/-- a row not counted yet; counted -/
def RowNew (w : World) (rb : Nat) (big : Bool) (p : Int) (sl : Value) : Prop := RowN w rb big p sl 0 0 0 0 0 0
def RowDone (w : World) (rb : Nat) (big : Bool) (p : Int) (sl : Value) (xs : List BY) : Prop := CntAt w rb big p sl 1 0 (hdY xs) xs
def RowPost2 (rb : Nat) (big : Bool) (p : Int) (sl : Value) (xs : List BY) (w : World) (e : Ending) (w' : World) : Prop :=
  e = .returned (.tuple #[]) ∧ RowDone w' rb big p sl xs ∧ Below rb w w'

set_option maxRecDepth 100000 in
set_option maxHeartbeats 3200000 in
theorem slow_any (rb : Nat) (big : Bool) (p : Int) (q : Option Addr) (len cap : Nat) (xs : List BY) (w0 w : World) (hx : IsBys w0 q len xs) (hb0 : Below w0.heap.size w0 w) (hrb : w0.heap.size ≤ rb) (h : RowNew w rb big p (.slice q len cap)) :
    Calls Try.prog 75 #[.pointer (some ⟨rb, 3, none⟩), .func (.func 57) #[.pointer (some ⟨rb, 0, none⟩)] #[]] w (RowPost2 rb big p (.slice q len cap) xs w) := by
  have k1 : RowN (w.setCell ⟨rb, 4, none⟩ (.int .i32 1)) rb big p (.slice q len cap) 0 1 0 0 0 0 := At.set h.at 4 (.int .i32 1) (by simp [rowC])
  have hK1 : Below rb w (w.setCell ⟨rb, 4, none⟩ (.int .i32 1)) := (Below.refl rb w).setCell (p := ⟨rb, 4, none⟩) (Nat.le_refl _) _
  have hl := run_call_load (P := Try.prog) Try.func82 (by kernel_rfl) (by kernel_rfl) (by kernel_rfl) .u32 (by kernel_rfl) (w := w.setCell ⟨rb, 4, none⟩ (.int .i32 1)) (a := ⟨rb, 3, none⟩) (x := 0) (k1.at.cell 3 rfl)
  have hnot : ∀ (x : Bool) (w : World), (Op.unary .not (.bool x)).run Try.prog w = .ok (.bool (!x)) w := fun _ _ => rfl
  have c7 : w.cell? ⟨rb, 4, none⟩ = some (.int .i32 0) := h.at.cell 4 rfl
  have f7 := At.free h.at 4
  have cM := countAll_any rb big p q len cap 1 xs w0 _ hx (hb0.trans (hK1.mono hrb)) hrb k1
  go_enter_defers Try.func75, Try.ntmps75
  go_wp2_with (first | (go_at_call 83; refine (lock_free ⟨rb, 4, none⟩ _ (by go_simp) (by go_simp)).mono ?_; rintro e w' ⟨rfl, rfl⟩) | (go_at_call 74; go_in) | (go_at_call 57; refine cM.mono ?_; rintro e w' ⟨rfl, m1, m2⟩))
  refine leaves_cons (f := 85) (args := #[.pointer (some ⟨rb, 3, none⟩), .bool true]) (by simp) (by simp [go_sem]) ?_
  refine (store_deferred ⟨rb, 3, none⟩ (.int .u32 0) .returning _ ((show RowN _ _ _ _ _ _ _ _ _ _ _ from m1).at.cell 3 rfl) (At.free (show RowN _ _ _ _ _ _ _ _ _ _ _ from m1).at 3)).mono ?_
  rintro e u' w'' ⟨rfl, rfl, rfl⟩
  have n1 : CntAt (w'.drew.setCell ⟨rb, 3, none⟩ (.int .u32 1)) rb big p (.slice q len cap) 1 1 (hdY xs) xs := At.set (show RowN _ _ _ _ _ _ _ _ _ _ _ from m1).at.drew 3 (.int .u32 1) (by simp [rowC])
  have n2 : Below rb w (w'.drew.setCell ⟨rb, 3, none⟩ (.int .u32 1)) := ((hK1.trans m2).drew).setCell (p := ⟨rb, 3, none⟩) (Nat.le_refl _) _
  generalize w'.drew.setCell ⟨rb, 3, none⟩ (.int .u32 1) = w2 at n1 n2 ⊢
  refine leaves_cons (f := 84) (args := #[.pointer (some ⟨rb, 4, none⟩)]) (by simp [settle]) (by simp [go_sem]) ?_
  refine (unlock_deferred ⟨rb, 4, none⟩ _ _ ((show RowN _ _ _ _ _ _ _ _ _ _ _ from n1).at.cell 4 rfl) (At.free (show RowN _ _ _ _ _ _ _ _ _ _ _ from n1).at 4)).mono ?_
  rintro e u' w'' ⟨rfl, rfl, rfl⟩
  have o1 : RowDone (w2.setCell ⟨rb, 4, none⟩ (.int .i32 0)) rb big p (.slice q len cap) xs := At.set (show RowN _ _ _ _ _ _ _ _ _ _ _ from n1).at 4 (.int .i32 0) (by simp [rowC])
  have o2 : Below rb w (w2.setCell ⟨rb, 4, none⟩ (.int .i32 0)) := n2.setCell (p := ⟨rb, 4, none⟩) (Nat.le_refl _) _
  generalize w2.setCell ⟨rb, 4, none⟩ (.int .i32 0) = w3 at o1 o2 ⊢
  have fin : RowPost2 rb big p (.slice q len cap) xs w (.returned (.tuple #[])) w3 := ⟨rfl, o1, o2⟩
  simpa [Leaves, settle, results, Try.results75] using fin
set_option maxRecDepth 100000 in
set_option maxHeartbeats 1600000 in
theorem do_first (rb : Nat) (big : Bool) (p : Int) (q : Option Addr) (len cap : Nat) (xs : List BY) (w0 w : World) (hx : IsBys w0 q len xs) (hb0 : Below w0.heap.size w0 w) (hrb : w0.heap.size ≤ rb) (h : RowNew w rb big p (.slice q len cap)) :
    Calls Try.prog 56 #[.pointer (some ⟨rb, 3, none⟩), .func (.func 57) #[.pointer (some ⟨rb, 0, none⟩)] #[]] w (RowPost2 rb big p (.slice q len cap) xs w) := by
  have hl := run_call_load (P := Try.prog) Try.func82 (by kernel_rfl) (by kernel_rfl) (by kernel_rfl) .u32 (by kernel_rfl) (w := w) (a := ⟨rb, 3, none⟩) (x := 0) (h.at.cell 3 rfl)
  have hnot : ∀ (x : Bool) (w : World), (Op.unary .not (.bool x)).run Try.prog w = .ok (.bool (!x)) w := fun _ _ => rfl
  have cS := slow_any rb big p q len cap xs w0 w hx hb0 hrb h
  clear hx hb0 hrb h
  go_enter Try.func56, Try.ntmps56
  go_wp2_with (first | (go_at_call 75; refine cS.mono ?_; rintro e w' ⟨rfl, m1, m2⟩) | (go_at_call 74; go_in))
  go_end0
  exact ⟨rfl, m1, m2⟩
set_option maxRecDepth 100000 in
set_option maxHeartbeats 1600000 in
theorem do_again (rb : Nat) (big : Bool) (p : Int) (sl : Value) (xs : List BY) (v : Value) (w : World) (h : RowDone w rb big p sl xs) :
    Calls Try.prog 56 #[.pointer (some ⟨rb, 3, none⟩), v] w fun e w' => e = .returned (.tuple #[]) ∧ w = w' := by
  have hl := run_call_load (P := Try.prog) Try.func82 (by kernel_rfl) (by kernel_rfl) (by kernel_rfl) .u32 (by kernel_rfl) (w := w) (a := ⟨rb, 3, none⟩) (x := 1) ((show RowN _ _ _ _ _ _ _ _ _ _ _ from h).at.cell 3 rfl)
  have hnot : ∀ (x : Bool) (w : World), (Op.unary .not (.bool x)).run Try.prog w = .ok (.bool (!x)) w := fun _ _ => rfl
  go_enter Try.func56, Try.ntmps56
  go_wp2_with ((go_at_call 74; go_in))
  first | go_end0 | (simp only [Exit.inBlock, Exit.then]; refine bodyPost_ret (results_none rfl _ _ _) rfl ?_) | refine bodyPost_ret (results_none rfl _ _ _) rfl ?_
  exact ⟨rfl, rfl⟩
/-- how many: of what -/
def cntOf (xs : List BY) (j : Nat) : Nat := if j = 0 then cnt isNo xs else if j = 1 then cnt isPa xs else if j = 2 then cnt isZe xs else cntF (hdY xs) 0 xs
theorem cntOf_le (xs : List BY) (j : Nat) : cntOf xs j ≤ xs.length := by
  unfold cntOf; split
  · exact cnt_le _ _
  · split
    · exact cnt_le _ _
    · split
      · exact cnt_le _ _
      · exact cntF_le _ _ _
theorem RowDone.cell {w : World} {rb : Nat} {big : Bool} {p : Int} {sl : Value} {xs : List BY} (h : RowDone w rb big p sl xs) (j : Nat) (hj : j = 0 ∨ j = 1 ∨ j = 2 ∨ j = 3) : w.cell? ⟨rb, 6 + j, none⟩ = some (.int .i32 (cntOf xs j : Nat)) := by
  have h' := (show RowN _ _ _ _ _ _ _ _ _ _ _ from h).at
  rcases hj with rfl | rfl | rfl | rfl
  · exact h'.cell 6 rfl
  · exact h'.cell 7 rfl
  · exact h'.cell 8 rfl
  · exact h'.cell 9 rfl
def HasPost (rb : Nat) (big : Bool) (p : Int) (sl : Value) (xs : List BY) (j : Nat) (w : World) (e : Ending) (w' : World) : Prop :=
  e = .returned (.int .i64 (cntOf xs j : Nat)) ∧ RowDone w' rb big p sl xs ∧ Below rb w w'
set_option maxRecDepth 100000 in
set_option maxHeartbeats 1600000 in
theorem has_first (rb : Nat) (big : Bool) (p : Int) (q : Option Addr) (len cap : Nat) (xs : List BY) (w0 w : World) (hx : IsBys w0 q len xs) (hb0 : Below w0.heap.size w0 w) (hrb : w0.heap.size ≤ rb) (h : RowNew w rb big p (.slice q len cap)) :
    Calls Try.prog 33 #[.pointer (some ⟨rb, 0, none⟩), .int .i64 0] w (HasPost rb big p (.slice q len cap) xs 0 w) := by
  have hmf : ∀ (fn : Fn) (first cap : Array Value) (w : World), (Instr.makeFunc fn first cap).run Try.prog w = .ok (.func fn first cap) w := fun _ _ _ _ => rfl
  have cD := do_first rb big p q len cap xs w0 w hx hb0 hrb h
  have cL := fun c w h => load32 rb 6 c w h
  have hle := cntOf_le xs 0
  have hlx := hx.1
  rw [hx.2.1] at hle
  clear hx hb0 hrb h
  go_enter Try.func33, Try.ntmps33
  go_wp2_with fail
  refine cD.mono ?_
  rintro e w2 ⟨rfl, m1, m2⟩
  have q6 := m1.cell 0 (Or.inl rfl)
  generalize hm : cntOf xs 0 = m at *
  have HM := Lib.hid hm
  clear hm
  go_wp2_with fail
  refine (cL _ _ q6).mono ?_
  rintro e w3 ⟨rfl, rfl⟩
  clear q6
  go_wp2
  go_ret
  exact ⟨by rw [HM.out]; rfl, m1, m2⟩
set_option maxRecDepth 100000 in
set_option maxHeartbeats 1600000 in
theorem has_again (rb : Nat) (big : Bool) (p : Int) (sl : Value) (xs : List BY) (j : Nat) (hj : j = 0 ∨ j = 1 ∨ j = 2 ∨ j = 3) (hlx : xs.length ≤ 1000) (w : World) (h : RowDone w rb big p sl xs) :
    Calls Try.prog 33 #[.pointer (some ⟨rb, 0, none⟩), .int .i64 (j : Nat)] w fun e w' => e = .returned (.int .i64 (cntOf xs j : Nat)) ∧ w = w' := by
  have hmf : ∀ (fn : Fn) (first cap : Array Value) (w : World), (Instr.makeFunc fn first cap).run Try.prog w = .ok (.func fn first cap) w := fun _ _ _ _ => rfl
  have cD := fun v w h => do_again rb big p sl xs v w h
  have cL := fun off c w h => load32 rb off c w h
  have hle := cntOf_le xs j
  have q6 := h.cell j hj
  generalize hm : cntOf xs j = m at *
  have HM := Lib.hid hm
  clear hm
  rcases hj with rfl | rfl | rfl | rfl
  all_goals
    go_enter Try.func33, Try.ntmps33
    go_wp2_with fail
    refine (cD _ _ h).mono ?_
    rintro e w2 ⟨rfl, rfl⟩
    go_wp2_with fail
    refine (cL _ _ _ q6).mono ?_
    rintro e w3 ⟨rfl, rfl⟩
    go_wp2
    go_ret
    exact ⟨rfl, rfl⟩
end Go.Proofs.Ytnhbaigagphpmaa
