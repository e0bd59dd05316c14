/- Package val: a layout in memory, its members counted in an atomic; sync.Once as far as it is asked here. -/
import Derived.Test.YtpoaieoldccmiaaGreatVRank
import Derived.Test.YtpoaieoldccmiaaGreatVTrim
import Derived.Defers
import Derived.Laws.Pointers
import Derived.Laws.LoneSync
import Derived.Laws.NewBlocks
import Derived.RegionCalls
import Derived.Deep.RegionWith
import Derived.ChangeAlike
namespace Go.Proofs.YtpoaieoldccmiaaGreat
open Go.ChangeShapes Go.WideShapes Go.ChangeAt Go.RowKit Go.Joins Go.Deep
set_option linter.unusedVariables false

def layC (k f b : Int) (sl : Value) (c : Int) : Array Value := #[.int .i64 k, .int .i64 f, .int .i64 b, sl, .int .i64 c]

set_option maxRecDepth 100000 in
theorem load64 (bl : Nat) (k f b : Int) (sl : Value) (c : Int) (w : World) (h : At w bl (layC k f b sl c) 87) :
    Calls Tryz.prog 63 #[.pointer (some ⟨bl, 4, none⟩)] w fun e w' => e = .returned (.int .i64 c) ∧ w = w' := by
  have c4 : w.cell? ⟨bl, 4, none⟩ = some (.int .i64 c) := h.cell 4 rfl
  have hl := run_call_load (P := Tryz.prog) Tryz.func78 (by kernel_rfl) (by kernel_rfl) (by kernel_rfl) .i64 (by kernel_rfl) c4
  go_enter Tryz.func63, Tryz.ntmps63
  go_wp2
  go_ret
  exact ⟨rfl, rfl⟩
set_option maxRecDepth 100000 in
theorem add64 (bl : Nat) (k f b : Int) (sl : Value) (c d : Int) (hcd : -9223372036854775808 ≤ c + d ∧ c + d ≤ 9223372036854775807) (w : World) (h : At w bl (layC k f b sl c) 87) :
    Calls Tryz.prog 52 #[.pointer (some ⟨bl, 4, none⟩), .int .i64 d] w fun e w' => e = .returned (.int .i64 (c + d)) ∧ w' = w.setCell ⟨bl, 4, none⟩ (.int .i64 (c + d)) := by
  have c4 : w.cell? ⟨bl, 4, none⟩ = some (.int .i64 c) := h.cell 4 rfl
  have f4 := h.free 4
  have iw : IntKind.i64.wrap (c + d) = c + d := by rw [IntKind.wrap_i64]; omega
  have hadd := run_call_add (P := Tryz.prog) Tryz.func67 (by kernel_rfl) (by kernel_rfl) (by kernel_rfl) .i64 (by kernel_rfl) (y := d) (s := c + d) c4 f4 (by simp [go_sem, iw])
  go_enter Tryz.func52, Tryz.ntmps52
  go_wp2
  go_ret
  exact ⟨rfl, rfl⟩
set_option maxRecDepth 100000 in
theorem count_any (bl : Nat) (k f b : Int) (sl : Value) (c : Int) (w : World) (h : At w bl (layC k f b sl c) 87) :
    Calls Tryz.prog 42 #[.pointer (some ⟨bl, 0, none⟩)] w fun e w' => e = .returned (.int .i64 c) ∧ w = w' := by
  have cL := fun w h => load64 bl k f b sl c w h
  have c4 : w.cell? ⟨bl, 0, none⟩ = some (.int .i64 k) := h.cell 0 rfl
  go_enter Tryz.func42, Tryz.ntmps42
  go_wp2_with ((go_at_call 63; refine (cL _ h).mono ?_; rintro e w' ⟨rfl, rfl⟩))
  go_ret
  exact ⟨rfl, rfl⟩
end Go.Proofs.YtpoaieoldccmiaaGreat
