/- The numbers of one call of package alu, in memory: a block; sync.Once's first asking, one goroutine. -/
import Derived.Test.YtbamphfoobmblaaRefOps
import Derived.Defers
import Derived.Laws.Pointers
import Derived.Laws.LoneSync
import Derived.Laws.NewBlocks
import Derived.RegionTactic
import Derived.RegionCalls
import Derived.Deep.RegionWith
import Derived.ChangeAlike
import Derived.Laws.Rows
namespace Go.Proofs.Ytbamphfoobmblaa
open Go.ChangeShapes Go.WideShapes Go.ChangeAt Go.RowKit Go.Joins Go.Deep
set_option linter.unusedVariables false

def numC (W : Int) (sg : Bool) (a c dn st u v bad : Int) : Array Value :=
  #[.int .i64 W, .bool sg, .int .i64 a, .int .i64 c, .int .u32 dn, .int .i32 st, .int .u32 0, .int .i64 u, .int .i64 v, .int .i32 bad]
def NumAt (w : World) (b : Nat) (W : Int) (sg : Bool) (a c dn st u v bad : Int) : Prop :=
  w.heap[b]? = some (.cells (numC W sg a c dn st u v bad) 75 (0, 0))
section
variable {w : World} {b : Nat} {W : Int} {sg : Bool} {a c dn st u v bad : Int}
theorem NumAt.cell (h : NumAt w b W sg a c dn st u v bad) (j : Nat) {x : Value} (hx : (numC W sg a c dn st u v bad)[j]? = some x) : w.cell? ⟨b, j, none⟩ = some x := by
  unfold NumAt at h
  simp [World.cell?, h, hx]
theorem NumAt.c0 (h : NumAt w b W sg a c dn st u v bad) : w.cell? ⟨b, 0, none⟩ = some (.int .i64 W) := h.cell 0 rfl
theorem NumAt.c1 (h : NumAt w b W sg a c dn st u v bad) : w.cell? ⟨b, 1, none⟩ = some (.bool sg) := h.cell 1 rfl
theorem NumAt.c2 (h : NumAt w b W sg a c dn st u v bad) : w.cell? ⟨b, 2, none⟩ = some (.int .i64 a) := h.cell 2 rfl
theorem NumAt.c3 (h : NumAt w b W sg a c dn st u v bad) : w.cell? ⟨b, 3, none⟩ = some (.int .i64 c) := h.cell 3 rfl
theorem NumAt.c4 (h : NumAt w b W sg a c dn st u v bad) : w.cell? ⟨b, 4, none⟩ = some (.int .u32 dn) := h.cell 4 rfl
theorem NumAt.c5 (h : NumAt w b W sg a c dn st u v bad) : w.cell? ⟨b, 5, none⟩ = some (.int .i32 st) := h.cell 5 rfl
theorem NumAt.c6 (h : NumAt w b W sg a c dn st u v bad) : w.cell? ⟨b, 6, none⟩ = some (.int .u32 0) := h.cell 6 rfl
theorem NumAt.c7 (h : NumAt w b W sg a c dn st u v bad) : w.cell? ⟨b, 7, none⟩ = some (.int .i64 u) := h.cell 7 rfl
theorem NumAt.c8 (h : NumAt w b W sg a c dn st u v bad) : w.cell? ⟨b, 8, none⟩ = some (.int .i64 v) := h.cell 8 rfl
theorem NumAt.c9 (h : NumAt w b W sg a c dn st u v bad) : w.cell? ⟨b, 9, none⟩ = some (.int .i32 bad) := h.cell 9 rfl
theorem NumAt.free (h : NumAt w b W sg a c dn st u v bad) (j : Nat) : w.frozen? ⟨b, j, none⟩ = false := frozen_of_row w b j _ _ h
theorem NumAt.lt (h : NumAt w b W sg a c dn st u v bad) : b < w.heap.size := by
  rcases Nat.lt_or_ge b w.heap.size with h' | h'
  · exact h'
  · unfold NumAt at h; simp [Array.getElem?_eq_none h'] at h
theorem NumAt.draw (h : NumAt w b W sg a c dn st u v bad) : NumAt w.drew b W sg a c dn st u v bad := h
theorem NumAt.set4 (h : NumAt w b W sg a c dn st u v bad) (x : Int) : NumAt (w.setCell ⟨b, 4, none⟩ (.int .u32 x)) b W sg a c x st u v bad := heap_setCell_same w b 4 _ _ _ h
theorem NumAt.set5 (h : NumAt w b W sg a c dn st u v bad) (x : Int) : NumAt (w.setCell ⟨b, 5, none⟩ (.int .i32 x)) b W sg a c dn x u v bad := heap_setCell_same w b 5 _ _ _ h
theorem NumAt.set7 (h : NumAt w b W sg a c dn st u v bad) (x : Int) : NumAt (w.setCell ⟨b, 7, none⟩ (.int .i64 x)) b W sg a c dn st x v bad := heap_setCell_same w b 7 _ _ _ h
theorem NumAt.set8 (h : NumAt w b W sg a c dn st u v bad) (x : Int) : NumAt (w.setCell ⟨b, 8, none⟩ (.int .i64 x)) b W sg a c dn st u x bad := heap_setCell_same w b 8 _ _ _ h
theorem NumAt.set9 (h : NumAt w b W sg a c dn st u v bad) (x : Int) : NumAt (w.setCell ⟨b, 9, none⟩ (.int .i32 x)) b W sg a c dn st u v x := heap_setCell_same w b 9 _ _ _ h
theorem NumAt.kept {w' : World} (h : NumAt w b W sg a c dn st u v bad) (hk : w'.heap[b]? = w.heap[b]?) : NumAt w' b W sg a c dn st u v bad := hk.trans h
end

def NumPost (b : Nat) (W : Int) (sg : Bool) (a c dn st u v bad : Int) (w : World) (e : Ending) (w' : World) : Prop :=
  e = .returned (.tuple #[]) ∧ NumAt w' b W sg a c dn st u v bad ∧ Below b w w'

set_option maxHeartbeats 400000 in
theorem makeViews_u (b : Nat) (W a c st bad : Int) (w : World) (h : NumAt w b W false a c 0 st 0 0 bad) :
    Calls Try.prog 57 #[.pointer (some ⟨b, 0, none⟩)] w (NumPost b W false a c 0 st a c bad w) := by
  have h1 := h.c1
  have h2 := h.c2
  have h3 := h.c3
  have h7 := h.c7
  have h8 := h.c8
  have f7 := h.free 7
  have f8 := h.free 8
  go_enter Try.func57, Try.ntmps57
  go_wp2
  go_region
  have h' := ((h.set7 a).set8 c).draw
  have hb : Below b w ((w.setCell ⟨b, 7, none⟩ (.int .i64 a)).setCell ⟨b, 8, none⟩ (.int .i64 c)).drew := (((Below.refl b w).setCell (Nat.le_refl _) _).setCell (Nat.le_refl _) _).drew
  generalize ((w.setCell ⟨b, 7, none⟩ (.int .i64 a)).setCell ⟨b, 8, none⟩ (.int .i64 c)).drew = w1 at h' hb ⊢
  clear h1 h2 h3 h7 h8 f7 f8 h
  have h1 := h'.c1
  go_wp2
  go_end0
  exact ⟨rfl, h', hb⟩

set_option maxHeartbeats 400000 in
theorem makeViews_s (b : Nat) (W a c st bad : Int) (hW : isW W) (ha : isN a W) (hc : isN c W) (w : World) (h : NumAt w b W true a c 0 st 0 0 bad) :
    Calls Try.prog 57 #[.pointer (some ⟨b, 0, none⟩)] w (NumPost b W true a c 0 st (viewI a W) (viewI c W) bad w) := by
  have h1 := h.c1
  have h2 := h.c2
  have h3 := h.c3
  have h7 := h.c7
  have h8 := h.c8
  have f7 := h.free 7
  have f8 := h.free 8
  go_enter Try.func57, Try.ntmps57
  go_wp2
  go_region
  have h' := ((h.set7 a).set8 c).draw
  have hb : Below b w ((w.setCell ⟨b, 7, none⟩ (.int .i64 a)).setCell ⟨b, 8, none⟩ (.int .i64 c)).drew := (((Below.refl b w).setCell (Nat.le_refl _) _).setCell (Nat.le_refl _) _).drew
  generalize ((w.setCell ⟨b, 7, none⟩ (.int .i64 a)).setCell ⟨b, 8, none⟩ (.int .i64 c)).drew = w1 at h' hb ⊢
  clear h1 h2 h3 h7 h8 f7 f8 h
  have h1 := h'.c1
  have h0 := h'.c0
  have h2 := h'.c2
  have h7 := h'.c7
  have f7 := h'.free 7
  have cV := fun w => View_yes a W hW ha w
  go_wp2
  go_region_with ((go_at_call 72; refine (cV _).mono ?_; rintro e w' ⟨rfl, rfl⟩))
  all_goals
    have h3' := (h'.set7 (viewI a W)).draw
    have hb' : Below b w (w1.setCell ⟨b, 7, none⟩ (.int .i64 (viewI a W))).drew := (hb.setCell (Nat.le_refl _) _).drew
    generalize (w1.setCell ⟨b, 7, none⟩ (.int .i64 (viewI a W))).drew = w2 at h3' hb' ⊢
    clear h1 h0 h2 h7 f7 h' hb cV
    have h0 := h3'.c0
    have h3 := h3'.c3
    have h8 := h3'.c8
    have f8 := h3'.free 8
    have cV := fun w => View_yes c W hW hc w
    go_wp2
    go_region_with (go_at_call 72; refine (cV _).mono ?_; rintro e w' ⟨rfl, rfl⟩)
    all_goals
      go_wp2
      first | go_end0 | (simp only [Exit.inBlock, Exit.then]; refine bodyPost_ret (results_none rfl _ _ _) rfl ?_) | refine bodyPost_ret (results_none rfl _ _ _) rfl ?_
      exact ⟨rfl, (h3'.set8 (viewI c W)).draw, (hb'.setCell (Nat.le_refl _) _).drew⟩
end Go.Proofs.Ytbamphfoobmblaa
