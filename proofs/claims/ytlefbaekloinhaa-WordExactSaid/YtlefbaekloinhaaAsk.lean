/- How the arguments of the laws are read. -/
import Derived.Test.YtlefbaekloinhaaPure
import Derived.Lib.SmallJoins
import Derived.LoopTactic
import Derived.Outline
namespace Go.Proofs.Ytlefbaekloinhaa
open Go.ChangeShapes Go.WideShapes Go.ChangeAt Go.RowKit Go.Joins

/-- A slice of integers that came in: where it has elements, it leads to a row of them. -/
def IsInts (w : World) (p : Option Addr) (len : Nat) (zs : List Int) : Prop :=
  len ≤ maxLen ∧ (zs.length = len ∧ ∀ n ∈ zs, (Lit.int .i64 n).wf = true) ∧ (0 < len → ∃ b off, p = some ⟨b, off, none⟩ ∧ b < w.heap.size ∧ ∀ i, i < len → w.cell? ⟨b, off + i, none⟩ = some (.int .i64 (zs.getD i 0)))

def IsStrs (w : World) (p : Option Addr) (len : Nat) (ss : List ByteArray) : Prop :=
  len ≤ maxLen ∧ ss.length = len ∧ (∀ s ∈ ss, s.size ≤ maxLen) ∧ (0 < len → ∃ b off, p = some ⟨b, off, none⟩ ∧ b < w.heap.size ∧ ∀ i, i < len → w.cell? ⟨b, off + i, none⟩ = some (.string (ss.getD i ByteArray.empty)))

theorem IsInts.below {w w' : World} {p : Option Addr} {len : Nat} {zs : List Int} (h : IsInts w p len zs) (hb : Below w.heap.size w w') : IsInts w' p len zs := by
  obtain ⟨a, c, d⟩ := h
  refine ⟨a, c, fun hl => ?_⟩
  obtain ⟨x, off, rfl, hx, hc⟩ := d hl
  exact ⟨x, off, rfl, by have := hb.size; omega, fun i hi => (hb.cell (p := ⟨x, off + i, none⟩) hx).trans (hc i hi)⟩
theorem IsStrs.below {w w' : World} {p : Option Addr} {len : Nat} {zs : List ByteArray} (h : IsStrs w p len zs) (hb : Below w.heap.size w w') : IsStrs w' p len zs := by
  obtain ⟨a, c, e, d⟩ := h
  refine ⟨a, c, e, fun hl => ?_⟩
  obtain ⟨x, off, rfl, hx, hc⟩ := d hl
  exact ⟨x, off, rfl, by have := hb.size; omega, fun i hi => (hb.cell (p := ⟨x, off + i, none⟩) hx).trans (hc i hi)⟩

def SomeInt (w : World) (e : Ending) (w' : World) : Prop := ∃ n : Int, e = .returned (.int .i64 n) ∧ w = w'
def SomeBool (w : World) (e : Ending) (w' : World) : Prop := ∃ n : Bool, e = .returned (.bool n) ∧ w = w'

set_option maxHeartbeats 400000 in
theorem texts_any (p : Option Addr) (len cap : Nat) (ss : List ByteArray) (w : World) (h : IsStrs w p len ss) : Calls Try.prog 22 #[.slice p len cap] w (SomeInt w) := by
  obtain ⟨hm, hz, hsz, hp⟩ := h
  unfold maxLen at hm
  go_enter Try.func22, Try.ntmps22
  go_wp2
  go_loop [3, 4] (fun n i => ∃ (k : Nat) (m : Int), k ≤ len ∧ i = .int .i64 k ∧ n = .int .i64 m) (fun _ i => len - (intOf i).toNat)
  case atStart => exact ⟨0, _, Nat.zero_le _, rfl, rfl⟩
  case round =>
    obtain ⟨k, m, hk, rfl, rfl⟩ := hrel
    by_cases hlt : k < len
    · obtain ⟨b, off, rfl, hb, hc⟩ := hp (by omega)
      have hcell := hc k hlt
      clear hc hp
      go_wp2
      · go_round
        case rel => exact ⟨k + 1, _, by omega, by go_num, rfl⟩
        case measure => simp [intOf]; omega
      · go_ret
        exact ⟨_, rfl, rfl⟩
    · go_wp2
      go_ret
      exact ⟨_, rfl, rfl⟩

end Go.Proofs.Ytlefbaekloinhaa
