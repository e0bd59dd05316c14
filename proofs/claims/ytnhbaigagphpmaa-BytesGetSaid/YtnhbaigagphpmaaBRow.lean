/- Package bytes: a row in memory, counted once. -/
import Derived.Test.YtnhbaigagphpmaaBCopy2
import Derived.Laws.LoneSync
import Derived.Laws.NewBlocks
import Derived.ChangeAlike
namespace Go.Proofs.Ytnhbaigagphpmaa
open Go.ChangeShapes Go.WideShapes Go.ChangeAt Go.RowKit Go.Joins Go.Deep
set_option linter.unusedVariables false

def rowC (big : Bool) (p : Int) (sl : Value) (dn st c0 c1 c2 c3 : Int) : Array Value :=
  #[.bool big, .int .i64 p, sl, .int .u32 dn, .int .i32 st, .int .u32 0, .int .i32 c0, .int .i32 c1, .int .i32 c2, .int .i32 c3]
def RowAt (w : World) (rb : Nat) (big : Bool) (p : Int) (sl : Value) (dn st c0 c1 c2 c3 : Int) : Prop := At w rb (rowC big p sl dn st c0 c1 c2 c3) 87
set_option maxRecDepth 100000 in
theorem add32 (rb off : Nat) (c : Int) (hc : 0 ≤ c ∧ c ≤ 2000) (w : World) (h4 : w.cell? ⟨rb, off, none⟩ = some (.int .i32 c)) (f4 : w.frozen? ⟨rb, off, none⟩ = false) :
    Calls Try.prog 76 #[.pointer (some ⟨rb, off, none⟩), .int .i32 1] w fun e w' => e = .returned (.int .i32 (c + 1)) ∧ w' = w.setCell ⟨rb, off, none⟩ (.int .i32 (c + 1)) := by
  have iw : IntKind.i32.wrap (c + 1) = c + 1 := by simp [IntKind.wrap, IntKind.bits, IntKind.signed]; omega
  have hadd := run_call_add (P := Try.prog) Try.func86 (by kernel_rfl) (by kernel_rfl) (by kernel_rfl) .i32 (by kernel_rfl) (y := 1) (s := c + 1) h4 f4 (by simp [go_sem, iw])
  go_enter Try.func76, Try.ntmps76
  go_wp2
  go_ret
  exact ⟨rfl, rfl⟩
set_option maxRecDepth 100000 in
theorem load32 (rb off : Nat) (c : Int) (w : World) (h4 : w.cell? ⟨rb, off, none⟩ = some (.int .i32 c)) :
    Calls Try.prog 58 #[.pointer (some ⟨rb, off, none⟩)] w fun e w' => e = .returned (.int .i32 c) ∧ w = w' := by
  have hl := run_call_load (P := Try.prog) Try.func77 (by kernel_rfl) (by kernel_rfl) (by kernel_rfl) .i32 (by kernel_rfl) h4
  go_enter Try.func58, Try.ntmps58
  go_wp2
  go_ret
  exact ⟨rfl, rfl⟩
theorem first_any (rb : Nat) (big : Bool) (p : Int) (q : Option Addr) (len cap : Nat) (dn st c0 c1 c2 c3 : Int) (xs : List BY) (w : World) (h : RowAt w rb big p (.slice q len cap) dn st c0 c1 c2 c3) (hx : IsBys w q len xs) (h0 : 0 < len) :
    Calls Try.prog 60 #[.pointer (some ⟨rb, 0, none⟩)] w fun e w' => e = .returned (.agg #[.bool true, .int .i64 0, .int .i64 (hdY xs).b, .int .i64 (hdY xs).o]) ∧ Below w.heap.size w w' := by
  obtain ⟨hl, hlen, hc⟩ := hx
  obtain ⟨b, off, rfl, hbb, hcells⟩ := hc h0
  have hc0 := hcells 0 h0
  rw [show hdY xs = xs.getD 0 default from rfl]
  generalize xs.getD 0 default = x at *
  obtain ⟨s, n, bb, o, i⟩ := x
  obtain ⟨p0, p1, p2, p3, p4⟩ := hc0
  have r2 : w.cell? ⟨rb, 2, none⟩ = some (.slice (some ⟨b, off, none⟩) len cap) := At.cell h 2 rfl
  have r0 : w.cell? ⟨rb, 0, none⟩ = some (.bool big) := At.cell h 0 rfl
  simp only [Nat.zero_mul, Nat.add_zero] at p0 p1 p2 p3 p4
  dsimp only at *
  have a1 : decide (0 < len) = true := by simpa using h0
  have a2 : (0 : Int) < (len : Int) := by omega
  have h0' : (w.alloc (.cells #[.bool false, .int .i64 0, .int .i64 0, .int .i64 0] 33)).cell? ⟨rb, 2, none⟩ = some (.slice (some ⟨b, off, none⟩) len cap) := cell_alloc r2 _
  clear hc hcells hlen h
  go_enter Try.func60, Try.ntmps60
  go_wp2
  exact bodyPost_ret (v := .agg #[.bool true, .int .i64 0, .int .i64 bb, .int .i64 o]) (by simp [results, Try.results60, go_sem]) rfl ⟨rfl, by
    first
      | exact below_box2 _ _ _
      | (refine ((((Below.setCell (below_box2 _ _ _) ?_ _).setCell ?_ _).setCell ?_ _).setCell ?_ _) <;> simp)⟩
end Go.Proofs.Ytnhbaigagphpmaa
