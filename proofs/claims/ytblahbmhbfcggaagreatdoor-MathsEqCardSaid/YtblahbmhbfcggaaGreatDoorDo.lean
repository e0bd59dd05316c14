/- The numbers of one call of package alu, in memory: a block; sync.Once's first asking, one goroutine. -/
import Derived.Test.YtblahbmhbfcggaaGreatDoorRefOps
import Derived.Defers
import Derived.Laws.Pointers
import Derived.Laws.LoneSync
import Derived.Laws.NewBlocks
import Derived.RegionTactic
import Derived.RegionCalls
import Derived.Deep.RegionWith
import Derived.ChangeAlike
import Derived.Laws.Rows
namespace Go.Proofs.YtblahbmhbfcggaaGreatDoor.Al
open Go.ChangeShapes Go.WideShapes Go.ChangeAt Go.RowKit Go.Joins Go.Deep
set_option linter.unusedVariables false

def numC (W : Int) (sg : Bool) (a c dn st u v bad : Int) : Array Value :=
  #[.int .i64 W, .bool sg, .int .i64 a, .int .i64 c, .int .u32 dn, .int .i32 st, .int .u32 0, .int .i64 u, .int .i64 v, .int .i32 bad]
def NumAt (w : World) (b : Nat) (W : Int) (sg : Bool) (a c dn st u v bad : Int) : Prop :=
  w.heap[b]? = some (.cells (numC W sg a c dn st u v bad) 125 (0, 0))
section
variable {w : World} {b : Nat} {W : Int} {sg : Bool} {a c dn st u v bad : Int}
theorem NumAt.cell (h : NumAt w b W sg a c dn st u v bad) (j : Nat) {x : Value} (hx : (numC W sg a c dn st u v bad)[j]? = some x) : w.cell? ⟨b, j, none⟩ = some x := by
  unfold NumAt at h
  simp [World.cell?, h, hx]
theorem NumAt.c0 (h : NumAt w b W sg a c dn st u v bad) : w.cell? ⟨b, 0, none⟩ = some (.int .i64 W) := h.cell 0 rfl
theorem NumAt.c1 (h : NumAt w b W sg a c dn st u v bad) : w.cell? ⟨b, 1, none⟩ = some (.bool sg) := h.cell 1 rfl
theorem NumAt.c2 (h : NumAt w b W sg a c dn st u v bad) : w.cell? ⟨b, 2, none⟩ = some (.int .i64 a) := h.cell 2 rfl
theorem NumAt.c3 (h : NumAt w b W sg a c dn st u v bad) : w.cell? ⟨b, 3, none⟩ = some (.int .i64 c) := h.cell 3 rfl
theorem NumAt.c4 (h : NumAt w b W sg a c dn st u v bad) : w.cell? ⟨b, 4, none⟩ = some (.int .u32 dn) := h.cell 4 rfl
theorem NumAt.c5 (h : NumAt w b W sg a c dn st u v bad) : w.cell? ⟨b, 5, none⟩ = some (.int .i32 st) := h.cell 5 rfl
theorem NumAt.c6 (h : NumAt w b W sg a c dn st u v bad) : w.cell? ⟨b, 6, none⟩ = some (.int .u32 0) := h.cell 6 rfl
theorem NumAt.c7 (h : NumAt w b W sg a c dn st u v bad) : w.cell? ⟨b, 7, none⟩ = some (.int .i64 u) := h.cell 7 rfl
theorem NumAt.c8 (h : NumAt w b W sg a c dn st u v bad) : w.cell? ⟨b, 8, none⟩ = some (.int .i64 v) := h.cell 8 rfl
theorem NumAt.c9 (h : NumAt w b W sg a c dn st u v bad) : w.cell? ⟨b, 9, none⟩ = some (.int .i32 bad) := h.cell 9 rfl
theorem NumAt.free (h : NumAt w b W sg a c dn st u v bad) (j : Nat) : w.frozen? ⟨b, j, none⟩ = false := frozen_of_row w b j _ _ h
theorem NumAt.lt (h : NumAt w b W sg a c dn st u v bad) : b < w.heap.size := by
  rcases Nat.lt_or_ge b w.heap.size with h' | h'
  · exact h'
  · unfold NumAt at h; simp [Array.getElem?_eq_none h'] at h
theorem NumAt.draw (h : NumAt w b W sg a c dn st u v bad) : NumAt w.drew b W sg a c dn st u v bad := h
theorem NumAt.set4 (h : NumAt w b W sg a c dn st u v bad) (x : Int) : NumAt (w.setCell ⟨b, 4, none⟩ (.int .u32 x)) b W sg a c x st u v bad := heap_setCell_same w b 4 _ _ _ h
theorem NumAt.set5 (h : NumAt w b W sg a c dn st u v bad) (x : Int) : NumAt (w.setCell ⟨b, 5, none⟩ (.int .i32 x)) b W sg a c dn x u v bad := heap_setCell_same w b 5 _ _ _ h
theorem NumAt.set7 (h : NumAt w b W sg a c dn st u v bad) (x : Int) : NumAt (w.setCell ⟨b, 7, none⟩ (.int .i64 x)) b W sg a c dn st x v bad := heap_setCell_same w b 7 _ _ _ h
theorem NumAt.set8 (h : NumAt w b W sg a c dn st u v bad) (x : Int) : NumAt (w.setCell ⟨b, 8, none⟩ (.int .i64 x)) b W sg a c dn st u x bad := heap_setCell_same w b 8 _ _ _ h
theorem NumAt.set9 (h : NumAt w b W sg a c dn st u v bad) (x : Int) : NumAt (w.setCell ⟨b, 9, none⟩ (.int .i32 x)) b W sg a c dn st u v x := heap_setCell_same w b 9 _ _ _ h
theorem NumAt.kept {w' : World} (h : NumAt w b W sg a c dn st u v bad) (hk : w'.heap[b]? = w.heap[b]?) : NumAt w' b W sg a c dn st u v bad := hk.trans h
end

def NumPost (b : Nat) (W : Int) (sg : Bool) (a c dn st u v bad : Int) (w : World) (e : Ending) (w' : World) : Prop :=
  e = .returned (.tuple #[]) ∧ NumAt w' b W sg a c dn st u v bad ∧ Below b w w'

set_option maxHeartbeats 400000 in
theorem makeViews_u (b : Nat) (W a c st bad : Int) (w : World) (h : NumAt w b W false a c 0 st 0 0 bad) :
    Calls Tryz.prog 155 #[.pointer (some ⟨b, 0, none⟩)] w (NumPost b W false a c 0 st a c bad w) := by
  have h1 := h.c1
  have h2 := h.c2
  have h3 := h.c3
  have h7 := h.c7
  have h8 := h.c8
  have f7 := h.free 7
  have f8 := h.free 8
  go_enter Tryz.func155, Tryz.ntmps155
  go_wp2
  go_region
  have h' := ((h.set7 a).set8 c).draw
  have hb : Below b w ((w.setCell ⟨b, 7, none⟩ (.int .i64 a)).setCell ⟨b, 8, none⟩ (.int .i64 c)).drew := (((Below.refl b w).setCell (Nat.le_refl _) _).setCell (Nat.le_refl _) _).drew
  generalize ((w.setCell ⟨b, 7, none⟩ (.int .i64 a)).setCell ⟨b, 8, none⟩ (.int .i64 c)).drew = w1 at h' hb ⊢
  clear h1 h2 h3 h7 h8 f7 f8 h
  have h1 := h'.c1
  go_wp2
  go_end0
  exact ⟨rfl, h', hb⟩

set_option maxHeartbeats 400000 in
theorem makeViews_s (b : Nat) (W a c st bad : Int) (hW : isW W) (ha : isN a W) (hc : isN c W) (w : World) (h : NumAt w b W true a c 0 st 0 0 bad) :
    Calls Tryz.prog 155 #[.pointer (some ⟨b, 0, none⟩)] w (NumPost b W true a c 0 st (viewI a W) (viewI c W) bad w) := by
  have h1 := h.c1
  have h2 := h.c2
  have h3 := h.c3
  have h7 := h.c7
  have h8 := h.c8
  have f7 := h.free 7
  have f8 := h.free 8
  go_enter Tryz.func155, Tryz.ntmps155
  go_wp2
  go_region
  have h' := ((h.set7 a).set8 c).draw
  have hb : Below b w ((w.setCell ⟨b, 7, none⟩ (.int .i64 a)).setCell ⟨b, 8, none⟩ (.int .i64 c)).drew := (((Below.refl b w).setCell (Nat.le_refl _) _).setCell (Nat.le_refl _) _).drew
  generalize ((w.setCell ⟨b, 7, none⟩ (.int .i64 a)).setCell ⟨b, 8, none⟩ (.int .i64 c)).drew = w1 at h' hb ⊢
  clear h1 h2 h3 h7 h8 f7 f8 h
  have h1 := h'.c1
  have h0 := h'.c0
  have h2 := h'.c2
  have h7 := h'.c7
  have f7 := h'.free 7
  have cV := fun w => View_yes a W hW ha w
  go_wp2
  go_region_with ((go_at_call 156; refine (cV _).mono ?_; rintro e w' ⟨rfl, rfl⟩))
  all_goals
    have h3' := (h'.set7 (viewI a W)).draw
    have hb' : Below b w (w1.setCell ⟨b, 7, none⟩ (.int .i64 (viewI a W))).drew := (hb.setCell (Nat.le_refl _) _).drew
    generalize (w1.setCell ⟨b, 7, none⟩ (.int .i64 (viewI a W))).drew = w2 at h3' hb' ⊢
    clear h1 h0 h2 h7 f7 h' hb cV
    have h0 := h3'.c0
    have h3 := h3'.c3
    have h8 := h3'.c8
    have f8 := h3'.free 8
    have cV := fun w => View_yes c W hW hc w
    go_wp2
    go_region_with (go_at_call 156; refine (cV _).mono ?_; rintro e w' ⟨rfl, rfl⟩)
    all_goals
      go_wp2
      first | go_end0 | (simp only [Exit.inBlock, Exit.then]; refine bodyPost_ret (results_none rfl _ _ _) rfl ?_) | refine bodyPost_ret (results_none rfl _ _ _) rfl ?_
      exact ⟨rfl, (h3'.set8 (viewI c W)).draw, (hb'.setCell (Nat.le_refl _) _).drew⟩
end Go.Proofs.YtblahbmhbfcggaaGreatDoor.Al

/- sync.Once's first asking, an atomic class that is met first: one goroutine, the numbers of one call of package alu. -/
namespace Go.Proofs.YtblahbmhbfcggaaGreatDoor.Al
open Go.ChangeShapes Go.WideShapes Go.ChangeAt Go.RowKit Go.Joins Go.Deep
set_option linter.unusedVariables false

theorem disable (w : World) : (callFunc 205 #[]).run Tryz.prog w = .ok (.value (.tuple #[])) w := run_call_mark0 Tryz.func205 (by kernel_rfl) (by kernel_rfl) (by kernel_rfl) .disable (by kernel_rfl) w
theorem enable (w : World) : (callFunc 206 #[]).run Tryz.prog w = .ok (.value (.tuple #[])) w := run_call_mark0 Tryz.func206 (by kernel_rfl) (by kernel_rfl) (by kernel_rfl) .enable (by kernel_rfl) w
theorem acquire (a : Addr) (w : World) : (callFunc 207 #[.pointer (some a)]).run Tryz.prog w = .ok (.value (.tuple #[])) w := run_call_marked Tryz.func207 (by kernel_rfl) (by kernel_rfl) (by kernel_rfl) .acquire (by kernel_rfl) a w
theorem releaseMerge (a : Addr) (w : World) : (callFunc 209 #[.pointer (some a)]).run Tryz.prog w = .ok (.value (.tuple #[])) w := run_call_marked Tryz.func209 (by kernel_rfl) (by kernel_rfl) (by kernel_rfl) .releaseMerge (by kernel_rfl) a w

theorem store_deferred (a : Addr) (x : Value) (u : FrameMode) (w : World) (hc : w.cell? a = some x) (hz : w.frozen? a = false) :
    CallsD Tryz.prog 169 #[.pointer (some a), .bool true] u w fun e u' w' => u' = u ∧ (e = .returned (.tuple #[]) ∧ w' = w.drew.setCell a (.int .u32 1)) := by
  have hc' : w.drew.cell? a = some x := by go_simp
  have hz' : w.drew.frozen? a = false := by go_simp
  have hst := run_call_store (P := Tryz.prog) Tryz.func193 (by kernel_rfl) (by kernel_rfl) (by kernel_rfl) (by kernel_rfl) (k := .u32) (y := 1) hc' hz'
  go_enter_d Tryz.func169, Tryz.ntmps169
  go_wp2
  go_region_calls
  all_goals (go_end0; exact ⟨rfl, rfl⟩)

set_option maxRecDepth 100000 in
theorem unlock_deferred (a : Addr) (u : FrameMode) (w : World) (hc : w.cell? a = some (.int .i32 1)) (hz : w.frozen? a = false) :
    CallsD Tryz.prog 168 #[.pointer (some a)] u w fun e u' w' => u' = u ∧ (e = .returned (.tuple #[]) ∧ w' = w.setCell a (.int .i32 0)) := by
  have hd := disable
  have he := enable
  have hr := releaseMerge
  have hadd := run_call_add (P := Tryz.prog) Tryz.func210 (by kernel_rfl) (by kernel_rfl) (by kernel_rfl) .i32 (by kernel_rfl) (y := -1) (s := 0) hc hz (by simp [go_sem]; rfl)
  have hcv := run_convert_to_unsafe (P := Tryz.prog) (src := 205) (dst := 207) Tryz.underlying205 Tryz.underlying207 (by kernel_rfl) hc
  go_enter_d Tryz.func168, Tryz.ntmps168
  go_wp2
  go_end0
  go_wp2
  go_end0
  exact ⟨rfl, rfl⟩

set_option maxRecDepth 100000 in
theorem lock_free (a : Addr) (w : World) (hc : w.cell? a = some (.int .i32 0)) (hz : w.frozen? a = false) :
    Calls Tryz.prog 167 #[.pointer (some a)] w fun e w' => e = .returned (.tuple #[]) ∧ w' = w.setCell a (.int .i32 1) := by
  have hd := disable
  have he := enable
  have ha := acquire
  have hcas := run_call_cas_hit (P := Tryz.prog) Tryz.func182 (by kernel_rfl) (by kernel_rfl) (by kernel_rfl) .i32 (by kernel_rfl) (y := 1) hc hz
  have hc' : (w.setCell a (.int .i32 1)).cell? a = some (.int .i32 1) := World.cell?_setCell_same w a _ hc
  have hcv := run_convert_to_unsafe (P := Tryz.prog) (src := 205) (dst := 207) Tryz.underlying205 Tryz.underlying207 (by kernel_rfl) hc'
  go_enter Tryz.func167, Tryz.ntmps167
  go_wp2
  first | go_end0 | (simp only [Exit.inBlock, Exit.then]; refine bodyPost_ret (results_none rfl _ _ _) rfl ?_) | refine bodyPost_ret (results_none rfl _ _ _) rfl ?_
  go_wp2
  go_end0
  exact ⟨rfl, rfl⟩

/-- what a view is, of a kind with a sign or without -/
def viewOf (sg : Bool) (n W : Int) : Int := if sg = true then viewI n W else n

theorem makeViews_any (b : Nat) (W : Int) (sg : Bool) (a c st bad : Int) (hW : isW W) (ha : isN a W) (hc : isN c W) (w : World) (h : NumAt w b W sg a c 0 st 0 0 bad) :
    Calls Tryz.prog 155 #[.pointer (some ⟨b, 0, none⟩)] w (NumPost b W sg a c 0 st (viewOf sg a W) (viewOf sg c W) bad w) := by
  cases sg
  · exact makeViews_u b W a c st bad w h
  · exact makeViews_s b W a c st bad hW ha hc w h

set_option maxRecDepth 100000 in
set_option maxHeartbeats 1600000 in
theorem slow_any (b : Nat) (W : Int) (sg : Bool) (a c bad : Int) (hW : isW W) (ha : isN a W) (hc : isN c W) (w : World) (h : NumAt w b W sg a c 0 0 0 0 bad) :
    Calls Tryz.prog 137 #[.pointer (some ⟨b, 4, none⟩), .func (.func 155) #[.pointer (some ⟨b, 0, none⟩)] #[]] w (NumPost b W sg a c 1 0 (viewOf sg a W) (viewOf sg c W) bad w) := by
  have k1 := h.set5 1
  have hl := run_call_load (P := Tryz.prog) Tryz.func166 (by kernel_rfl) (by kernel_rfl) (by kernel_rfl) .u32 (by kernel_rfl) (w := w.setCell ⟨b, 5, none⟩ (.int .i32 1)) (a := ⟨b, 4, none⟩) (x := 0) k1.c4
  have hnot : ∀ (x : Bool) (w : World), (Op.unary .not (.bool x)).run Tryz.prog w = .ok (.bool (!x)) w := fun _ _ => rfl
  have c5 := h.c5
  have f5 := h.free 5
  have cM := makeViews_any b W sg a c 1 bad hW ha hc _ k1
  go_enter_defers Tryz.func137, Tryz.ntmps137
  go_wp2_with (first | (go_at_call 167; refine (lock_free ⟨b, 5, none⟩ _ (by go_simp) (by go_simp)).mono ?_; rintro e w' ⟨rfl, rfl⟩) | (go_at_call 136; go_in) | (go_at_call 155; refine cM.mono ?_; rintro e w' ⟨rfl, m1, m2⟩))
  refine leaves_cons (f := 169) (args := #[.pointer (some ⟨b, 4, none⟩), .bool true]) (by simp) (by simp [go_sem]) ?_
  refine (store_deferred ⟨b, 4, none⟩ (.int .u32 0) .returning _ m1.c4 (m1.free 4)).mono ?_
  rintro e u' w'' ⟨rfl, rfl, rfl⟩
  have n1 := m1.draw.set4 1
  have n2 : Below b _ (w'.drew.setCell ⟨b, 4, none⟩ (.int .u32 1)) := (m2.drew).setCell (Nat.le_refl _) _
  generalize w'.drew.setCell ⟨b, 4, none⟩ (.int .u32 1) = w2 at n1 n2 ⊢
  refine leaves_cons (f := 168) (args := #[.pointer (some ⟨b, 5, none⟩)]) (by simp [settle]) (by simp [go_sem]) ?_
  refine (unlock_deferred ⟨b, 5, none⟩ _ _ n1.c5 (n1.free 5)).mono ?_
  rintro e u' w'' ⟨rfl, rfl, rfl⟩
  have o1 := n1.set5 0
  have o2 : Below b w (w2.setCell ⟨b, 5, none⟩ (.int .i32 0)) := ((((Below.refl b w).setCell (Nat.le_refl _) _).trans n2).setCell (Nat.le_refl _) _)
  generalize w2.setCell ⟨b, 5, none⟩ (.int .i32 0) = w3 at o1 o2 ⊢
  have fin : NumPost b W sg a c 1 0 (viewOf sg a W) (viewOf sg c W) bad w (.returned (.tuple #[])) w3 := ⟨rfl, o1, o2⟩
  simpa [Leaves, settle, results, Tryz.results137] using fin

set_option maxRecDepth 100000 in
set_option maxHeartbeats 1600000 in
theorem do_first (b : Nat) (W : Int) (sg : Bool) (a c bad : Int) (hW : isW W) (ha : isN a W) (hc : isN c W) (w : World) (h : NumAt w b W sg a c 0 0 0 0 bad) :
    Calls Tryz.prog 99 #[.pointer (some ⟨b, 4, none⟩), .func (.func 155) #[.pointer (some ⟨b, 0, none⟩)] #[]] w (NumPost b W sg a c 1 0 (viewOf sg a W) (viewOf sg c W) bad w) := by
  have hl := run_call_load (P := Tryz.prog) Tryz.func166 (by kernel_rfl) (by kernel_rfl) (by kernel_rfl) .u32 (by kernel_rfl) h.c4
  have hnot : ∀ (x : Bool) (w : World), (Op.unary .not (.bool x)).run Tryz.prog w = .ok (.bool (!x)) w := fun _ _ => rfl
  go_enter Tryz.func99, Tryz.ntmps99
  go_wp2_with (first | (go_at_call 137; refine (slow_any b W sg a c bad hW ha hc _ h).mono ?_; rintro e w' ⟨rfl, m1, m2⟩) | (go_at_call 136; go_in))
  go_end0
  exact ⟨rfl, m1, m2⟩

/-- the views, asked once -/
def ViewsPost (b : Nat) (W : Int) (sg : Bool) (a c bad : Int) (w : World) (e : Ending) (w' : World) : Prop :=
  e = .returned (.tuple #[.int .i64 (viewOf sg a W), .int .i64 (viewOf sg c W)]) ∧ NumAt w' b W sg a c 1 0 (viewOf sg a W) (viewOf sg c W) bad ∧ Below b w w'
set_option maxHeartbeats 800000 in
theorem views_any (b : Nat) (W : Int) (sg : Bool) (a c bad : Int) (hW : isW W) (ha : isN a W) (hc : isN c W) (w : World) (h : NumAt w b W sg a c 0 0 0 0 bad) :
    Calls Tryz.prog 122 #[.pointer (some ⟨b, 0, none⟩)] w (ViewsPost b W sg a c bad w) := by
  have hmf : ∀ (fn : Fn) (first cap : Array Value) (w : World), (Instr.makeFunc fn first cap).run Tryz.prog w = .ok (.func fn first cap) w := fun _ _ _ _ => rfl
  go_enter Tryz.func122, Tryz.ntmps122
  go_wp2_with (go_at_call 99; refine (do_first b W sg a c bad hW ha hc _ h).mono ?_; rintro e w' ⟨rfl, m1, m2⟩)
  have c7 := m1.c7
  have c8 := m1.c8
  go_quiet (fail)
  go_wp2
  go_ret2
  exact ⟨rfl, m1, m2.trans (Joins.below_draws _ _ _)⟩
end Go.Proofs.YtblahbmhbfcggaaGreatDoor.Al
