/- ValMakes: its walk. -/
import Derived.Test.YtblahbmhbfcggaaGreatDoorVWake
import Derived.Test.YtblahbmhbfcggaaGreatDoorVQuiet
import Derived.Deep.CutRange
namespace Go.Proofs.YtblahbmhbfcggaaGreatDoor
open Go.ChangeShapes Go.WideShapes Go.ChangeAt Go.RowKit Go.Joins Go.Deep
set_option linter.unusedVariables false

set_option maxRecDepth 100000 in
set_option maxHeartbeats 800000 in
theorem No_yes (k : Int) (hW : isW k) (w : World) :
    Calls Tryz.prog 59 #[.int .i64 k] w (MakePost (valV k true 0 0 0 0) 0 w) := by
  have cN := fun w => isNumber_yes 0 k hW ⟨by omega, by rcases hW with rfl | rfl | rfl <;> decide⟩ w
  have c0 := fun w => none_any k w
  have d0 := At.new w #[.int .i64 0, .bool false, .int .i64 0, .int .i64 0, .int .i64 0, .int .i64 0] 30
  have hb0 : Below w.heap.size w (w.alloc (.cells #[.int .i64 0, .bool false, .int .i64 0, .int .i64 0, .int .i64 0, .int .i64 0] 30)) := (Below.refl _ _).alloc (Nat.le_refl _) _
  clear hW
  go_enter Tryz.func59, Tryz.ntmps59
  go_wp2_with ((go_at_call 88; (with_reducible refine (cN _).mono ?_); rintro e w' ⟨rfl, rfl⟩))
  refine (c0 _).mono ?_
  rintro e w1 ⟨rfl, hb⟩
  have d1 := At.below' hb d0
  have hbE := hb0.trans (hb.mono hb0.size)
  have t0c : w1.cell? ⟨w.heap.size, 0, none⟩ = some (.int .i64 0) := d1.cell 0 rfl
  have t0f : w1.frozen? ⟨w.heap.size, 0, none⟩ = false := At.free d1 0
  have ts0 := At.set d1 0 (.int .i64 k) (by simp)
  have tc1 : (w1.setCell ⟨w.heap.size, 0, none⟩ (.int .i64 k)).cell? ⟨w.heap.size, 1, none⟩ = some (.bool false) := ts0.cell 1 rfl
  have tf1 : (w1.setCell ⟨w.heap.size, 0, none⟩ (.int .i64 k)).frozen? ⟨w.heap.size, 1, none⟩ = false := At.free ts0 1
  have ts1 := At.set ts0 1 (.bool true) (by simp)
  have tc2 : ((w1.setCell ⟨w.heap.size, 0, none⟩ (.int .i64 k)).setCell ⟨w.heap.size, 1, none⟩ (.bool true)).cell? ⟨w.heap.size, 2, none⟩ = some (.int .i64 0) := ts1.cell 2 rfl
  have tf2 : ((w1.setCell ⟨w.heap.size, 0, none⟩ (.int .i64 k)).setCell ⟨w.heap.size, 1, none⟩ (.bool true)).frozen? ⟨w.heap.size, 2, none⟩ = false := At.free ts1 2
  have ts2 := At.set ts1 2 (.int .i64 0) (by simp)
  have tc3 : (((w1.setCell ⟨w.heap.size, 0, none⟩ (.int .i64 k)).setCell ⟨w.heap.size, 1, none⟩ (.bool true)).setCell ⟨w.heap.size, 2, none⟩ (.int .i64 0)).cell? ⟨w.heap.size, 3, none⟩ = some (.int .i64 0) := ts2.cell 3 rfl
  have tf3 : (((w1.setCell ⟨w.heap.size, 0, none⟩ (.int .i64 k)).setCell ⟨w.heap.size, 1, none⟩ (.bool true)).setCell ⟨w.heap.size, 2, none⟩ (.int .i64 0)).frozen? ⟨w.heap.size, 3, none⟩ = false := At.free ts2 3
  have ts3 := At.set ts2 3 (.int .i64 0) (by simp)
  have tc4 : ((((w1.setCell ⟨w.heap.size, 0, none⟩ (.int .i64 k)).setCell ⟨w.heap.size, 1, none⟩ (.bool true)).setCell ⟨w.heap.size, 2, none⟩ (.int .i64 0)).setCell ⟨w.heap.size, 3, none⟩ (.int .i64 0)).cell? ⟨w.heap.size, 4, none⟩ = some (.int .i64 0) := ts3.cell 4 rfl
  have tf4 : ((((w1.setCell ⟨w.heap.size, 0, none⟩ (.int .i64 k)).setCell ⟨w.heap.size, 1, none⟩ (.bool true)).setCell ⟨w.heap.size, 2, none⟩ (.int .i64 0)).setCell ⟨w.heap.size, 3, none⟩ (.int .i64 0)).frozen? ⟨w.heap.size, 4, none⟩ = false := At.free ts3 4
  have ts4 := At.set ts3 4 (.int .i64 0) (by simp)
  have tc5 : (((((w1.setCell ⟨w.heap.size, 0, none⟩ (.int .i64 k)).setCell ⟨w.heap.size, 1, none⟩ (.bool true)).setCell ⟨w.heap.size, 2, none⟩ (.int .i64 0)).setCell ⟨w.heap.size, 3, none⟩ (.int .i64 0)).setCell ⟨w.heap.size, 4, none⟩ (.int .i64 0)).cell? ⟨w.heap.size, 5, none⟩ = some (.int .i64 0) := ts4.cell 5 rfl
  have tf5 : (((((w1.setCell ⟨w.heap.size, 0, none⟩ (.int .i64 k)).setCell ⟨w.heap.size, 1, none⟩ (.bool true)).setCell ⟨w.heap.size, 2, none⟩ (.int .i64 0)).setCell ⟨w.heap.size, 3, none⟩ (.int .i64 0)).setCell ⟨w.heap.size, 4, none⟩ (.int .i64 0)).frozen? ⟨w.heap.size, 5, none⟩ = false := At.free ts4 5
  have ts5 := At.set ts4 5 (.int .i64 0) (by simp)
  have g0 : ((((((w1.setCell ⟨w.heap.size, 0, none⟩ (.int .i64 k)).setCell ⟨w.heap.size, 1, none⟩ (.bool true)).setCell ⟨w.heap.size, 2, none⟩ (.int .i64 0)).setCell ⟨w.heap.size, 3, none⟩ (.int .i64 0)).setCell ⟨w.heap.size, 4, none⟩ (.int .i64 0)).setCell ⟨w.heap.size, 5, none⟩ (.int .i64 0)).cell? ⟨w.heap.size, 0, none⟩ = some (.int .i64 k) := ts5.cell 0 rfl
  have g1 : ((((((w1.setCell ⟨w.heap.size, 0, none⟩ (.int .i64 k)).setCell ⟨w.heap.size, 1, none⟩ (.bool true)).setCell ⟨w.heap.size, 2, none⟩ (.int .i64 0)).setCell ⟨w.heap.size, 3, none⟩ (.int .i64 0)).setCell ⟨w.heap.size, 4, none⟩ (.int .i64 0)).setCell ⟨w.heap.size, 5, none⟩ (.int .i64 0)).cell? ⟨w.heap.size, 1, none⟩ = some (.bool true) := ts5.cell 1 rfl
  have g2 : ((((((w1.setCell ⟨w.heap.size, 0, none⟩ (.int .i64 k)).setCell ⟨w.heap.size, 1, none⟩ (.bool true)).setCell ⟨w.heap.size, 2, none⟩ (.int .i64 0)).setCell ⟨w.heap.size, 3, none⟩ (.int .i64 0)).setCell ⟨w.heap.size, 4, none⟩ (.int .i64 0)).setCell ⟨w.heap.size, 5, none⟩ (.int .i64 0)).cell? ⟨w.heap.size, 2, none⟩ = some (.int .i64 0) := ts5.cell 2 rfl
  have g3 : ((((((w1.setCell ⟨w.heap.size, 0, none⟩ (.int .i64 k)).setCell ⟨w.heap.size, 1, none⟩ (.bool true)).setCell ⟨w.heap.size, 2, none⟩ (.int .i64 0)).setCell ⟨w.heap.size, 3, none⟩ (.int .i64 0)).setCell ⟨w.heap.size, 4, none⟩ (.int .i64 0)).setCell ⟨w.heap.size, 5, none⟩ (.int .i64 0)).cell? ⟨w.heap.size, 3, none⟩ = some (.int .i64 0) := ts5.cell 3 rfl
  have g4 : ((((((w1.setCell ⟨w.heap.size, 0, none⟩ (.int .i64 k)).setCell ⟨w.heap.size, 1, none⟩ (.bool true)).setCell ⟨w.heap.size, 2, none⟩ (.int .i64 0)).setCell ⟨w.heap.size, 3, none⟩ (.int .i64 0)).setCell ⟨w.heap.size, 4, none⟩ (.int .i64 0)).setCell ⟨w.heap.size, 5, none⟩ (.int .i64 0)).cell? ⟨w.heap.size, 4, none⟩ = some (.int .i64 0) := ts5.cell 4 rfl
  have g5 : ((((((w1.setCell ⟨w.heap.size, 0, none⟩ (.int .i64 k)).setCell ⟨w.heap.size, 1, none⟩ (.bool true)).setCell ⟨w.heap.size, 2, none⟩ (.int .i64 0)).setCell ⟨w.heap.size, 3, none⟩ (.int .i64 0)).setCell ⟨w.heap.size, 4, none⟩ (.int .i64 0)).setCell ⟨w.heap.size, 5, none⟩ (.int .i64 0)).cell? ⟨w.heap.size, 5, none⟩ = some (.int .i64 0) := ts5.cell 5 rfl
  have bb0 := hbE.setCell (p := ⟨w.heap.size, 0, none⟩) (Nat.le_refl _) (.int .i64 k)
  have bb1 := bb0.setCell (p := ⟨w.heap.size, 1, none⟩) (Nat.le_refl _) (.bool true)
  have bb2 := bb1.setCell (p := ⟨w.heap.size, 2, none⟩) (Nat.le_refl _) (.int .i64 0)
  have bb3 := bb2.setCell (p := ⟨w.heap.size, 3, none⟩) (Nat.le_refl _) (.int .i64 0)
  have bb4 := bb3.setCell (p := ⟨w.heap.size, 4, none⟩) (Nat.le_refl _) (.int .i64 0)
  have bb5 := bb4.setCell (p := ⟨w.heap.size, 5, none⟩) (Nat.le_refl _) (.int .i64 0)
  clear ts0 ts1 ts2 ts3 ts4 ts5 bb0 bb1 bb2 bb3 bb4 d1 d0 hb0 hb hbE
  go_wp2_with fail
  exact bodyPost_ret (v := .tuple #[valV k true 0 0 0 0, .int .i64 0]) (by simp [results, Tryz.results59, go_sem, g0, g1, g2, g3, g4, g5]) rfl ⟨rfl, bb5⟩
theorem hasAll {T n : Nat} {k : Nat} (ok : ValOk k false 0 T T 0) (hT : T + 1 = 2 ^ k) (hn : n < 2 ^ k) : memB 0 T T 0 n = true := by
  rw [memB_iff ok.setOk hn]
  refine ⟨hn, fun i hi => ?_, ?_⟩
  · by_cases h : i < k
    · have e : T = 2 ^ k - 1 := by omega
      rw [e, Nat.testBit_two_pow_sub_one] at hi
      simp [h] at hi
    · simp only [Nat.zero_testBit]
      exact Nat.testBit_lt_two_pow (Nat.lt_of_lt_of_le hn (Nat.pow_le_pow_right (by decide) (by omega)))
  · rw [if_pos (Nat.zero_le _)]
    omega
theorem all_ok {k T : Nat} (hk : isWn k) (hT : T + 1 = 2 ^ k) : ValOk k false 0 T T 0 := ⟨⟨hk, by omega, Nat.two_pow_pos k, fun i _ => by simp⟩, Nat.two_pow_pos k, by omega⟩
theorem none_ok2 {k : Nat} (hk : isWn k) : ValOk k true 0 0 0 0 := ⟨⟨hk, Nat.two_pow_pos k, Nat.two_pow_pos k, fun i h => by simp at h⟩, Nat.two_pow_pos k, Nat.two_pow_pos k⟩
theorem one_ok {k n : Nat} (hk : isWn k) (hn : n < 2 ^ k) : ValOk k false n n 0 n := ⟨⟨hk, Nat.two_pow_pos k, hn, fun i h => by simp at h⟩, hn, hn⟩
theorem all_num {k : Nat} (hk : isWn k) : ∃ T : Nat, T + 1 = 2 ^ k ∧ wrapI (-1) (k : Int) = (T : Int) ∧ ((T : Int) != wrap64 (wrap64 (2 ^ min k 64) - 1)) = false := by
  rcases hk with rfl | rfl | rfl
  · exact ⟨255, rfl, rfl, by simp [wrap64]⟩
  · exact ⟨65535, rfl, rfl, by simp [wrap64]⟩
  · exact ⟨4294967295, rfl, rfl, by simp [wrap64]⟩
theorem mem1 {k n z : Nat} (hn : n < 2 ^ k) : MemV k false n n 0 n z ↔ z = n := by
  constructor
  · rintro ⟨_, _, _, hr⟩
    rw [if_pos (Nat.le_refl _)] at hr
    omega
  · rintro rfl
    exact ⟨rfl, hn, fun _ _ => rfl, by rw [if_pos (Nat.le_refl _)]; exact ⟨Nat.le_refl _, Nat.le_refl _⟩⟩
theorem only_one {k n : Nat} {x : Int} {is : Bool} (hn : n < 2 ^ k) (h : OnlyRes (MemV k false n n 0 n) x is) : x = (n : Int) ∧ is = true := by
  rcases h with ⟨rfl, m, rfl, hm⟩ | ⟨_, hno⟩
  · have := (hm n).1 ((mem1 hn).2 rfl)
    subst this
    exact ⟨rfl, rfl⟩
  · exact absurd (fun z => mem1 hn) (hno n)
theorem below_boxR (w : World) (o : Obj) : Below w.heap.size w (w.alloc o) := (Below.refl _ _).alloc (Nat.le_refl _) _
def RelMk (m : Nat) (w2 : World) (v : Value) (wr : World) : Prop := ∃ j : Nat, j ≤ m ∧ v = .int .i64 j ∧ Below w2.heap.size w2 wr
end Go.Proofs.YtblahbmhbfcggaaGreatDoor
