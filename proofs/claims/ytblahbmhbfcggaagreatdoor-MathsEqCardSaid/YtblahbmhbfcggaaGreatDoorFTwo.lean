/- Package maths: kinds, operands, a call's work. -/
import Derived.Test.YtblahbmhbfcggaaGreatDoorCalls
import Derived.Test.YtblahbmhbfcggaaGreatDoorVMakes
import Derived.Test.YtblahbmhbfcggaaGreatDoorVBoth
import Derived.Test.YtblahbmhbfcggaaGreatDoorVOne
import Derived.Test.YtblahbmhbfcggaaGreatDoorVJoinV
import Derived.Test.YtblahbmhbfcggaaGreatDoorVMeetV
import Derived.Test.YtblahbmhbfcggaaGreatDoorVQuiet
namespace Go.Proofs.YtblahbmhbfcggaaGreatDoor
open Go.ChangeShapes Go.WideShapes Go.ChangeAt Go.RowKit Go.Joins Go.Deep
set_option linter.unusedVariables false

set_option maxRecDepth 100000 in
set_option maxHeartbeats 1600000 in
theorem numbersOf_yes (k : Int) (hk : 1 ≤ k ∧ k ≤ 6) (w : World) :
    Calls Tryz.prog 57 #[.int .i64 k] w fun e w' => e = .returned (.tuple #[.agg #[.int .i64 k, .int .i64 (Al.widthI k), .bool (Al.signedB k)], .int .i64 0]) ∧ Below w.heap.size w w' := by
  have cW := fun w => Al.Width_yes k hk w
  have cS := fun w => Al.Signed_yes k hk w
  generalize Al.widthI k = W at *
  generalize Al.signedB k = sg at *
  clear hk
  go_enter Tryz.func57, Tryz.ntmps57
  go_wp2_with (first | (go_at_call 78; (with_reducible refine (cW _).mono ?_); rintro e w' ⟨rfl, rfl⟩) | (go_at_call 79; (with_reducible refine (cS _).mono ?_); rintro e w' ⟨rfl, rfl⟩))
  exact bodyPost_ret (v := .tuple #[.agg #[.int .i64 k, .int .i64 W, .bool sg], .int .i64 0]) (by simp [results, Tryz.results57, go_sem]) rfl ⟨rfl, (Below.refl _ _).alloc (Nat.le_refl _) _⟩
/-- an operand in memory -/
def opC (kd W : Int) (sg : Bool) (K : Int) (no : Bool) (l h f b dn st : Int) (sl : Value) : Array Value := #[.int .i64 kd, .int .i64 W, .bool sg, .int .i64 K, .bool no, .int .i64 l, .int .i64 h, .int .i64 f, .int .i64 b, .int .u32 dn, .int .i32 st, .int .u32 0, sl]
def OpNew (w : World) (sb : Nat) (kd : Int) (K : Nat) (no : Bool) (l h f b : Nat) : Prop := At w sb (opC kd K (Al.signedB kd) K no l h f b 0 0 (.slice none 0 0)) 75
def MTake (kd : Int) (K : Nat) (no : Bool) (l h f b : Nat) (w : World) (e : Ending) (w' : World) : Prop :=
  ∃ sb, e = .returned (.tuple #[.pointer (some ⟨sb, 0, none⟩), .int .i64 0]) ∧ OpNew w' sb kd K no l h f b ∧ w.heap.size ≤ sb ∧ Below w.heap.size w w'
set_option maxRecDepth 100000 in
set_option maxHeartbeats 1600000 in
theorem mtake_yes (kd : Int) (hk : 1 ≤ kd ∧ kd ≤ 6) (K : Nat) (hK : Al.widthI kd = K) (no : Bool) (l h f b : Nat) (hm : mayB K no l h f b = true) (w : World) :
    Calls Tryz.prog 31 #[.int .i64 kd, valV K no l h f b] w (MTake kd K no l h f b w) := by
  have d0 := At.new w #[.int .i64 K, .bool no, .int .i64 l, .int .i64 h, .int .i64 f, .int .i64 b] 30
  have hb0 : Below w.heap.size w (w.alloc (.cells #[.int .i64 K, .bool no, .int .i64 l, .int .i64 h, .int .i64 f, .int .i64 b] 30)) := (Below.refl _ _).alloc (Nat.le_refl _) _
  have cN := fun w => numbersOf_yes kd hk w
  rw [hK] at cN
  have cC := fun w => Check_yes K no l h f b hm w
  unfold MTake OpNew
  generalize Al.signedB kd = sg at *
  clear hm hk hK
  go_enter Tryz.func31, Tryz.ntmps31
  go_wp2_with fail
  refine (cN _).mono ?_
  rintro e w1 ⟨rfl, hb1⟩
  replace d0 := At.alloc (At.below' hb1 d0) (.cells #[.int .i64 kd, .int .i64 K, .bool sg] 60)
  replace hb0 := (hb0.trans (hb1.mono hb0.size)).alloc (hb0.trans (hb1.mono hb0.size)).size (.cells #[.int .i64 kd, .int .i64 K, .bool sg] 60)
  have dN := At.new w1 #[.int .i64 kd, .int .i64 K, .bool sg] 60
  obtain ⟨BN, hBN⟩ : ∃ B, B = w1.heap.size := ⟨_, rfl⟩
  rw [← hBN] at dN
  have p0 : (w1.alloc (.cells #[.int .i64 kd, .int .i64 K, .bool sg] 60)).cell? ⟨w.heap.size, 0, none⟩ = some (.int .i64 K) := d0.cell 0 rfl
  have p1 : (w1.alloc (.cells #[.int .i64 kd, .int .i64 K, .bool sg] 60)).cell? ⟨w.heap.size, 1, none⟩ = some (.bool no) := d0.cell 1 rfl
  have p2 : (w1.alloc (.cells #[.int .i64 kd, .int .i64 K, .bool sg] 60)).cell? ⟨w.heap.size, 2, none⟩ = some (.int .i64 l) := d0.cell 2 rfl
  have p3 : (w1.alloc (.cells #[.int .i64 kd, .int .i64 K, .bool sg] 60)).cell? ⟨w.heap.size, 3, none⟩ = some (.int .i64 h) := d0.cell 3 rfl
  have p4 : (w1.alloc (.cells #[.int .i64 kd, .int .i64 K, .bool sg] 60)).cell? ⟨w.heap.size, 4, none⟩ = some (.int .i64 f) := d0.cell 4 rfl
  have p5 : (w1.alloc (.cells #[.int .i64 kd, .int .i64 K, .bool sg] 60)).cell? ⟨w.heap.size, 5, none⟩ = some (.int .i64 b) := d0.cell 5 rfl
  clear hb1 cN
  go_wp2_with fail
  rw [← hBN]
  clear hBN
  generalize w1.alloc (.cells #[.int .i64 kd, .int .i64 K, .bool sg] 60) = w1' at *
  refine (cC _).mono ?_
  rintro e w2 ⟨rfl, hb1⟩
  replace d0 := At.below' hb1 d0
  replace dN := At.below' hb1 dN
  replace hb0 := hb0.trans (hb1.mono hb0.size)
  clear p0 p1 p2 p3 p4 p5
  have p0 : w2.cell? ⟨w.heap.size, 0, none⟩ = some (.int .i64 K) := d0.cell 0 rfl
  have p1 : w2.cell? ⟨w.heap.size, 1, none⟩ = some (.bool no) := d0.cell 1 rfl
  have p2 : w2.cell? ⟨w.heap.size, 2, none⟩ = some (.int .i64 l) := d0.cell 2 rfl
  have p3 : w2.cell? ⟨w.heap.size, 3, none⟩ = some (.int .i64 h) := d0.cell 3 rfl
  have p4 : w2.cell? ⟨w.heap.size, 4, none⟩ = some (.int .i64 f) := d0.cell 4 rfl
  have p5 : w2.cell? ⟨w.heap.size, 5, none⟩ = some (.int .i64 b) := d0.cell 5 rfl
  have n0 : w2.cell? ⟨BN, 0, none⟩ = some (.int .i64 kd) := dN.cell 0 rfl
  have n1 : w2.cell? ⟨BN, 1, none⟩ = some (.int .i64 K) := dN.cell 1 rfl
  have n2 : w2.cell? ⟨BN, 2, none⟩ = some (.bool sg) := dN.cell 2 rfl
  clear hb1 cC d0 dN
  go_wp2_with fail
  go_ret2
  exact ⟨_, rfl, At.new w2 (opC kd K sg K no l h f b 0 0 (.slice none 0 0)) 75, hb0.size, hb0.alloc hb0.size _⟩
/-- a call's work in memory -/
def wkC (kd W : Int) (sg : Bool) (op K : Int) (no : Bool) (l h f b bads : Int) : Array Value := #[.int .i64 kd, .int .i64 W, .bool sg, .int .i64 op, .int .i64 K, .bool no, .int .i64 l, .int .i64 h, .int .i64 f, .int .i64 b, .int .i32 bads]
set_option maxRecDepth 100000 in
set_option maxHeartbeats 1600000 in
theorem start_eq (kd W : Int) (sg : Bool) (w : World) :
    Calls Tryz.prog 32 #[.int .i64 18, .agg #[.int .i64 kd, .int .i64 W, .bool sg]] w fun e w' => ∃ bw, e = .returned (.pointer (some ⟨bw, 0, none⟩)) ∧ At w' bw (wkC kd W sg 18 32 true 0 0 0 0 0) 80 ∧ w.heap.size ≤ bw ∧ Below w.heap.size w w' := by
  have cO := fun w => No_yes 32 (Or.inr (Or.inr rfl)) w
  have dN := At.new w #[.int .i64 kd, .int .i64 W, .bool sg] 60
  have hb0 : Below w.heap.size w (w.alloc (.cells #[.int .i64 kd, .int .i64 W, .bool sg] 60)) := (Below.refl _ _).alloc (Nat.le_refl _) _
  go_enter Tryz.func32, Tryz.ntmps32
  go_wp2_with fail
  refine (cO _).mono ?_
  rintro e w1 ⟨rfl, hb1⟩
  replace dN := At.alloc (At.below' hb1 dN) (.cells #[.int .i64 32, .bool true, .int .i64 0, .int .i64 0, .int .i64 0, .int .i64 0] 30)
  replace hb0 := (hb0.trans (hb1.mono hb0.size)).alloc (hb0.trans (hb1.mono hb0.size)).size (.cells #[.int .i64 32, .bool true, .int .i64 0, .int .i64 0, .int .i64 0, .int .i64 0] 30)
  have dO := At.new w1 #[.int .i64 32, .bool true, .int .i64 0, .int .i64 0, .int .i64 0, .int .i64 0] 30
  obtain ⟨BO, hBO⟩ : ∃ B, B = w1.heap.size := ⟨_, rfl⟩
  rw [← hBO] at dO
  have n0 : (w1.alloc (.cells #[.int .i64 32, .bool true, .int .i64 0, .int .i64 0, .int .i64 0, .int .i64 0] 30)).cell? ⟨w.heap.size, 0, none⟩ = some (.int .i64 kd) := dN.cell 0 rfl
  have n1 : (w1.alloc (.cells #[.int .i64 32, .bool true, .int .i64 0, .int .i64 0, .int .i64 0, .int .i64 0] 30)).cell? ⟨w.heap.size, 1, none⟩ = some (.int .i64 W) := dN.cell 1 rfl
  have n2 : (w1.alloc (.cells #[.int .i64 32, .bool true, .int .i64 0, .int .i64 0, .int .i64 0, .int .i64 0] 30)).cell? ⟨w.heap.size, 2, none⟩ = some (.bool sg) := dN.cell 2 rfl
  have o0 : (w1.alloc (.cells #[.int .i64 32, .bool true, .int .i64 0, .int .i64 0, .int .i64 0, .int .i64 0] 30)).cell? ⟨BO, 0, none⟩ = some (.int .i64 32) := dO.cell 0 rfl
  have o1 : (w1.alloc (.cells #[.int .i64 32, .bool true, .int .i64 0, .int .i64 0, .int .i64 0, .int .i64 0] 30)).cell? ⟨BO, 1, none⟩ = some (.bool true) := dO.cell 1 rfl
  have o2 : (w1.alloc (.cells #[.int .i64 32, .bool true, .int .i64 0, .int .i64 0, .int .i64 0, .int .i64 0] 30)).cell? ⟨BO, 2, none⟩ = some (.int .i64 0) := dO.cell 2 rfl
  have o3 : (w1.alloc (.cells #[.int .i64 32, .bool true, .int .i64 0, .int .i64 0, .int .i64 0, .int .i64 0] 30)).cell? ⟨BO, 3, none⟩ = some (.int .i64 0) := dO.cell 3 rfl
  have o4 : (w1.alloc (.cells #[.int .i64 32, .bool true, .int .i64 0, .int .i64 0, .int .i64 0, .int .i64 0] 30)).cell? ⟨BO, 4, none⟩ = some (.int .i64 0) := dO.cell 4 rfl
  have o5 : (w1.alloc (.cells #[.int .i64 32, .bool true, .int .i64 0, .int .i64 0, .int .i64 0, .int .i64 0] 30)).cell? ⟨BO, 5, none⟩ = some (.int .i64 0) := dO.cell 5 rfl
  clear hb1 cO dN dO
  go_upto_region 8 with (fail)
  rw [← hBO]
  clear hBO
  generalize w1.alloc (.cells #[.int .i64 32, .bool true, .int .i64 0, .int .i64 0, .int .i64 0, .int .i64 0] 30) = w2 at *
  go_wp2_with fail
  go_ret
  exact ⟨_, rfl, At.new w2 (wkC kd W sg 18 32 true 0 0 0 0 0) 80, hb0.size, hb0.alloc hb0.size _⟩
set_option maxRecDepth 100000 in
set_option maxHeartbeats 1600000 in
theorem mempty_any (sb : Nat) (kd : Int) (K : Nat) (no : Bool) (l h f b : Nat) (ok : ValOk K no l h f b) (hm : mayB K no l h f b = true) (w : World) (hA : OpNew w sb kd K no l h f b) :
    Calls Tryz.prog 33 #[.pointer (some ⟨sb, 0, none⟩)] w fun e w' => ∃ is : Bool, (is = true ↔ NoneV K no l h f b) ∧ e = .returned (.bool is) ∧ Below w.heap.size w w' := by
  unfold OpNew opC at hA
  have p0 : w.cell? ⟨sb, 3, none⟩ = some (.int .i64 K) := hA.cell 3 rfl
  have p1 : w.cell? ⟨sb, 4, none⟩ = some (.bool no) := hA.cell 4 rfl
  have p2 : w.cell? ⟨sb, 5, none⟩ = some (.int .i64 l) := hA.cell 5 rfl
  have p3 : w.cell? ⟨sb, 6, none⟩ = some (.int .i64 h) := hA.cell 6 rfl
  have p4 : w.cell? ⟨sb, 7, none⟩ = some (.int .i64 f) := hA.cell 7 rfl
  have p5 : w.cell? ⟨sb, 8, none⟩ = some (.int .i64 b) := hA.cell 8 rfl
  have cE := fun w => Empty_ok K no l h f b ok hm w
  clear hA hm ok
  go_enter Tryz.func33, Tryz.ntmps33
  go_wp2_with fail
  refine (cE _).mono ?_
  rintro e w1 ⟨is, his, rfl, hb1⟩
  have fin : ∃ is' : Bool, (is' = true ↔ NoneV K no l h f b) ∧ Ending.returned (.bool is) = .returned (.bool is') ∧ Below w.heap.size w w1 := ⟨is, his, rfl, hb1⟩
  clear his hb1
  go_wp2_with fail
  go_ret
  exact fin
/-- is n the only member -/
def JustB (M : Nat → Prop) (n : Int) (is : Bool) : Prop := is = true ↔ ∃ m : Nat, n = m ∧ ∀ z, M z ↔ z = m
set_option maxRecDepth 100000 in
set_option maxHeartbeats 1600000 in
theorem mjust_any (sb : Nat) (kd : Int) (K : Nat) (no : Bool) (l h f b : Nat) (ok : ValOk K no l h f b) (hm : mayB K no l h f b = true) (n : Int) (w : World) (hA : OpNew w sb kd K no l h f b) :
    Calls Tryz.prog 77 #[.pointer (some ⟨sb, 0, none⟩), .int .i64 n] w fun e w' => ∃ is : Bool, JustB (MemV K no l h f b) n is ∧ e = .returned (.bool is) ∧ Below w.heap.size w w' := by
  unfold OpNew opC at hA
  have p0 : w.cell? ⟨sb, 3, none⟩ = some (.int .i64 K) := hA.cell 3 rfl
  have p1 : w.cell? ⟨sb, 4, none⟩ = some (.bool no) := hA.cell 4 rfl
  have p2 : w.cell? ⟨sb, 5, none⟩ = some (.int .i64 l) := hA.cell 5 rfl
  have p3 : w.cell? ⟨sb, 6, none⟩ = some (.int .i64 h) := hA.cell 6 rfl
  have p4 : w.cell? ⟨sb, 7, none⟩ = some (.int .i64 f) := hA.cell 7 rfl
  have p5 : w.cell? ⟨sb, 8, none⟩ = some (.int .i64 b) := hA.cell 8 rfl
  have cE := fun w => Single_yes K no l h f b ok hm w
  clear hA hm ok
  go_enter Tryz.func77, Tryz.ntmps77
  go_wp2_with fail
  refine (cE _).mono ?_
  rintro e w1 (⟨m, hM, rfl, hb1⟩ | ⟨hM, rfl, hb1⟩)
  · have fin : ∃ is' : Bool, JustB (MemV K no l h f b) n is' ∧ Ending.returned (.bool ((m : Int) == n)) = .returned (.bool is') ∧ Below w.heap.size w w1 := ⟨_, by
      unfold JustB
      rw [beq_iff_eq]
      constructor
      · intro hh
        exact ⟨m, hh.symm, hM⟩
      · rintro ⟨m', rfl, hM'⟩
        have := (hM' m).1 ((hM m).2 rfl)
        omega, rfl, hb1⟩
    clear hM hb1
    go_wp2_with fail
    go_ret
    exact fin
  · have fin : ∃ is' : Bool, JustB (MemV K no l h f b) n is' ∧ Ending.returned (.bool false) = .returned (.bool is') ∧ Below w.heap.size w w1 := ⟨_, by
      unfold JustB
      constructor
      · intro hh
        cases hh
      · rintro ⟨m', rfl, hM'⟩
        exact absurd hM' (hM m'), rfl, hb1⟩
    clear hM hb1
    go_wp2_with fail
    go_ret
    exact fin
end Go.Proofs.YtblahbmhbfcggaaGreatDoor

/- Package maths: what a call told: one number more; of sets alike. -/
namespace Go.Proofs.YtblahbmhbfcggaaGreatDoor
open Go.ChangeShapes Go.WideShapes Go.ChangeAt Go.RowKit Go.Joins Go.Deep
set_option linter.unusedVariables false

def WkAt (w : World) (bw : Nat) (kd W : Int) (sg : Bool) (tno : Bool) (tl th tf tb : Nat) : Prop := At w bw (wkC kd W sg 18 32 tno tl th tf tb 0) 80
/-- a set of truths in a call's work, and what holds of its members -/
def Tells (w : World) (bw : Nat) (kd W : Int) (sg : Bool) (P : (Nat → Prop) → Prop) : Prop := ∃ tno tl th tf tb, WkAt w bw kd W sg tno tl th tf tb ∧ ValOk 32 tno tl th tf tb ∧ mayB (32 : Nat) tno tl th tf tb = true ∧ P (MemV 32 tno tl th tf tb)
theorem one_is {n z : Nat} (hn : n < 2 ^ 32) : MemV 32 false n n 0 n z ↔ z = n := mem1 hn
set_option maxRecDepth 100000 in
set_option maxHeartbeats 1600000 in
theorem except_0 (n : Nat) (hn : n < 4294967296) (w : World) : Calls Tryz.prog 71 #[.int .i64 n, .int .i64 0] w fun e w' => e = .returned (.agg #[.int .i64 0, .int .i64 n]) ∧ Below w.heap.size w w' := by
  have e1 : bits .andNot .i64 (n : Int) 0 = (n : Int) := by
    have := bits_andNot (x := n) (y := 0) (by omega)
    have e2 : nandn n 0 = n := Nat.eq_of_testBit_eq fun i => by rw [nandn_bit]; simp
    rw [e2] at this
    exact this
  have hb0 : Below w.heap.size w (w.alloc (.cells #[.int .i64 0, .int .i64 n] 110)) := (Below.refl _ _).alloc (Nat.le_refl _) _
  go_enter Tryz.func71, Tryz.ntmps71
  go_wp2_with fail
  exact bodyPost_ret (v := .agg #[.int .i64 0, .int .i64 n]) (by simp [results, Tryz.results71, go_sem]) rfl ⟨rfl, hb0⟩
theorem and_top (n : Nat) (hn : n < 4294967296) : bits .and .i64 (n : Int) 4294967295 = (n : Int) := by
  have h := and_mask (n : Int) 32 (by decide)
  have e : bits .and .i64 (n : Int) 4294967295 = (n : Int) % 4294967296 := h
  rw [e]
  omega
set_option maxRecDepth 100000 in
set_option maxHeartbeats 1600000 in
theorem add_one (bw : Nat) (kd W : Int) (sg : Bool) (tno : Bool) (tl th tf tb : Nat) (okT : ValOk 32 tno tl th tf tb) (hmT : mayB (32 : Nat) tno tl th tf tb = true) (n : Nat) (hn : n < 4294967296) (w : World) (hA : WkAt w bw kd W sg tno tl th tf tb) :
    Calls Tryz.prog 73 #[.pointer (some ⟨bw, 0, none⟩), .int .i64 n, .int .i64 n, .agg #[.int .i64 0, .int .i64 n]] w fun e w' => e = .returned (.tuple #[]) ∧ Tells w' bw kd W sg (fun M => (∀ z, MemV 32 tno tl th tf tb z ∨ z = n → M z) ∧ ((∀ z, ¬ MemV 32 tno tl th tf tb z) → ∀ z, M z ↔ z = n)) ∧ Keeps bw w w' := by
  unfold WkAt wkC at hA
  have ok1 : ValOk 32 false n n 0 n := one_ok (Or.inr (Or.inr rfl)) hn
  have hm1 : mayB (32 : Nat) false (n : Nat) (n : Nat) (0 : Nat) (n : Nat) = true := ok_may ok1 (fun h => by cases h)
  have cA := fun w => All_yes 32 (Or.inr (Or.inr rfl)) w
  rw [show wrapI (-1) 32 = 4294967295 from rfl] at cA
  have cJ := fun w => Join_yes meet_holds merge_holds 32 tno tl th tf tb false n n 0 n okT ok1 hmT hm1 w
  have en := and_top n hn
  have e0 : bits .and .i64 0 4294967295 = 0 := and_top 0 (by omega)
  have hlt := hA.lt
  have dP := At.new w #[.int .i64 0, .int .i64 n] 110
  have hb0 : Below w.heap.size w (w.alloc (.cells #[.int .i64 0, .int .i64 n] 110)) := (Below.refl _ _).alloc (Nat.le_refl _) _
  have hW := At.alloc hA (.cells #[.int .i64 0, .int .i64 n] 110)
  have c4 : (w.alloc (.cells #[.int .i64 0, .int .i64 n] 110)).cell? ⟨bw, 4, none⟩ = some (.int .i64 32) := hW.cell 4 rfl
  clear hmT hm1
  go_enter Tryz.func73, Tryz.ntmps73
  go_wp2_with fail
  refine (cA _).mono ?_
  rintro e w1 ⟨rfl, hb1⟩
  replace dP := At.alloc (At.below' hb1 dP) (.cells #[.int .i64 32, .bool false, .int .i64 0, .int .i64 4294967295, .int .i64 4294967295, .int .i64 0] 30)
  replace hW := At.alloc (At.below' hb1 hW) (.cells #[.int .i64 32, .bool false, .int .i64 0, .int .i64 4294967295, .int .i64 4294967295, .int .i64 0] 30)
  replace hb0 := (hb0.trans (hb1.mono hb0.size)).alloc (hb0.trans (hb1.mono hb0.size)).size (.cells #[.int .i64 32, .bool false, .int .i64 0, .int .i64 4294967295, .int .i64 4294967295, .int .i64 0] 30)
  have dV := At.new w1 #[.int .i64 32, .bool false, .int .i64 0, .int .i64 4294967295, .int .i64 4294967295, .int .i64 0] 30
  obtain ⟨BV, hBV⟩ : ∃ B, B = w1.heap.size := ⟨_, rfl⟩
  obtain ⟨BP, hBP⟩ : ∃ B, B = w.heap.size := ⟨_, rfl⟩
  have hPV : BP < BV := by have := hb1.size; simp at this; omega
  have hwP : bw < BP := by omega
  rw [← hBV] at dV
  rw [← hBP] at dP hb0 ⊢
  have HBP := Lib.hid hBP
  clear hb1 c4 hBP cA
  go_upto_region 2 with (fail)
  rw [← hBV]
  clear hBV
  generalize w1.alloc (.cells #[.int .i64 32, .bool false, .int .i64 0, .int .i64 4294967295, .int .i64 4294967295, .int .i64 0] 30) = w2 at *
  have HB := Lib.hid hb0
  have v3 : w2.cell? ⟨BV, 3, none⟩ = some (.int .i64 4294967295) := dV.cell 3 rfl
  have v2 : w2.cell? ⟨BV, 2, none⟩ = some (.int .i64 0) := dV.cell 2 rfl
  have fv2 := At.free dV 2
  have dV2 : At (w2.setCell ⟨BV, 2, none⟩ (.int .i64 n)) BV #[.int .i64 32, .bool false, .int .i64 n, .int .i64 4294967295, .int .i64 4294967295, .int .i64 0] 30 := At.set dV 2 (.int .i64 n) (by simp)
  have fv3 := At.free dV2 3
  have v3b : (w2.setCell ⟨BV, 2, none⟩ (.int .i64 n)).cell? ⟨BV, 3, none⟩ = some (.int .i64 4294967295) := dV2.cell 3 rfl
  have dV3 : At ((w2.setCell ⟨BV, 2, none⟩ (.int .i64 n)).setCell ⟨BV, 3, none⟩ (.int .i64 n)) BV #[.int .i64 32, .bool false, .int .i64 n, .int .i64 n, .int .i64 4294967295, .int .i64 0] 30 := At.set dV2 3 (.int .i64 n) (by simp)
  have kV : Keeps BV w2 ((w2.setCell ⟨BV, 2, none⟩ (.int .i64 n)).setCell ⟨BV, 3, none⟩ (.int .i64 n)) := ((Keeps.refl BV w2).setCell 2 (.int .i64 n)).setCell 3 (.int .i64 n)
  have dP3 := At.keeps dP kV (by omega)
  have hW3 := At.keeps hW kV (by omega)
  have hb3 : Below BP w ((w2.setCell ⟨BV, 2, none⟩ (.int .i64 n)).setCell ⟨BV, 3, none⟩ (.int .i64 n)) := (hb0.setCell (p := ⟨BV, 2, none⟩) (by show BP ≤ BV; omega) (.int .i64 n)).setCell (p := ⟨BV, 3, none⟩) (by show BP ≤ BV; omega) (.int .i64 n)
  clear dV dV2 dP hW hb0 kV
  go_upto_region 5 with (fail)
  generalize ((w2.setCell ⟨BV, 2, none⟩ (.int .i64 n)).setCell ⟨BV, 3, none⟩ (.int .i64 n)) = w3 at *
  clear v3 v2 fv2 fv3 v3b
  go_cut [] from 38 to 47 (fun wx => At wx BV #[.int .i64 32, .bool false, .int .i64 n, .int .i64 n, .int .i64 0, .int .i64 n] 30 ∧ At wx BP #[.int .i64 0, .int .i64 n] 110 ∧ At wx bw #[.int .i64 kd, .int .i64 W, .bool sg, .int .i64 18, .int .i64 32, .bool tno, .int .i64 tl, .int .i64 th, .int .i64 tf, .int .i64 tb, .int .i32 0] 80 ∧ Below BP w wx)
  case first =>
    have p0 : w3.cell? ⟨BP, 0, none⟩ = some (.int .i64 0) := dP3.cell 0 rfl
    have p1 : w3.cell? ⟨BP, 1, none⟩ = some (.int .i64 n) := dP3.cell 1 rfl
    have d4 : At (w3.setCell ⟨BV, 4, none⟩ (.int .i64 0)) BV #[.int .i64 32, .bool false, .int .i64 n, .int .i64 n, .int .i64 0, .int .i64 0] 30 := At.set dV3 4 (.int .i64 0) (by simp)
    have d5 : At (w3.setCell ⟨BV, 5, none⟩ (.int .i64 n)) BV #[.int .i64 32, .bool false, .int .i64 n, .int .i64 n, .int .i64 4294967295, .int .i64 n] 30 := At.set dV3 5 (.int .i64 n) (by simp)
    have d45 : At ((w3.setCell ⟨BV, 4, none⟩ (.int .i64 0)).setCell ⟨BV, 5, none⟩ (.int .i64 n)) BV #[.int .i64 32, .bool false, .int .i64 n, .int .i64 n, .int .i64 0, .int .i64 n] 30 := At.set d4 5 (.int .i64 n) (by simp)
    have d54 : At ((w3.setCell ⟨BV, 5, none⟩ (.int .i64 n)).setCell ⟨BV, 4, none⟩ (.int .i64 0)) BV #[.int .i64 32, .bool false, .int .i64 n, .int .i64 n, .int .i64 0, .int .i64 n] 30 := At.set d5 4 (.int .i64 0) (by simp)
    have k4 : Keeps BV w3 (w3.setCell ⟨BV, 4, none⟩ (.int .i64 0)) := (Keeps.refl BV w3).setCell 4 (.int .i64 0)
    have k5 : Keeps BV w3 (w3.setCell ⟨BV, 5, none⟩ (.int .i64 n)) := (Keeps.refl BV w3).setCell 5 (.int .i64 n)
    have k45 : Keeps BV w3 ((w3.setCell ⟨BV, 4, none⟩ (.int .i64 0)).setCell ⟨BV, 5, none⟩ (.int .i64 n)) := k4.setCell 5 (.int .i64 n)
    have k54 : Keeps BV w3 ((w3.setCell ⟨BV, 5, none⟩ (.int .i64 n)).setCell ⟨BV, 4, none⟩ (.int .i64 0)) := k5.setCell 4 (.int .i64 0)
    have e4 := At.keeps dP3 k4 (by omega)
    have e5 := At.keeps dP3 k5 (by omega)
    have q0 : (w3.setCell ⟨BV, 5, none⟩ (.int .i64 n)).cell? ⟨BP, 0, none⟩ = some (.int .i64 0) := e5.cell 0 rfl
    have q1 : (w3.setCell ⟨BV, 4, none⟩ (.int .i64 0)).cell? ⟨BP, 1, none⟩ = some (.int .i64 n) := e4.cell 1 rfl
    have v4 : w3.cell? ⟨BV, 4, none⟩ = some (.int .i64 4294967295) := dV3.cell 4 rfl
    have v5 : w3.cell? ⟨BV, 5, none⟩ = some (.int .i64 0) := dV3.cell 5 rfl
    have f4 := At.free dV3 4
    have f5 := At.free dV3 5
    have v45 : (w3.setCell ⟨BV, 5, none⟩ (.int .i64 n)).cell? ⟨BV, 4, none⟩ = some (.int .i64 4294967295) := d5.cell 4 rfl
    have v54 : (w3.setCell ⟨BV, 4, none⟩ (.int .i64 0)).cell? ⟨BV, 5, none⟩ = some (.int .i64 0) := d4.cell 5 rfl
    have f45 := At.free d5 4
    have f54 := At.free d4 5
    have fin45 : At ((w3.setCell ⟨BV, 4, none⟩ (.int .i64 0)).setCell ⟨BV, 5, none⟩ (.int .i64 n)).drew BV #[.int .i64 32, .bool false, .int .i64 n, .int .i64 n, .int .i64 0, .int .i64 n] 30 ∧ At ((w3.setCell ⟨BV, 4, none⟩ (.int .i64 0)).setCell ⟨BV, 5, none⟩ (.int .i64 n)).drew BP #[.int .i64 0, .int .i64 n] 110 ∧ At ((w3.setCell ⟨BV, 4, none⟩ (.int .i64 0)).setCell ⟨BV, 5, none⟩ (.int .i64 n)).drew bw #[.int .i64 kd, .int .i64 W, .bool sg, .int .i64 18, .int .i64 32, .bool tno, .int .i64 tl, .int .i64 th, .int .i64 tf, .int .i64 tb, .int .i32 0] 80 ∧ Below BP w ((w3.setCell ⟨BV, 4, none⟩ (.int .i64 0)).setCell ⟨BV, 5, none⟩ (.int .i64 n)).drew := ⟨d45.drew, (At.keeps dP3 k45 (by omega)).drew, (At.keeps hW3 k45 (by omega)).drew, ((hb3.setCell (p := ⟨BV, 4, none⟩) (by show BP ≤ BV; omega) (.int .i64 0)).setCell (p := ⟨BV, 5, none⟩) (by show BP ≤ BV; omega) (.int .i64 n)).drew⟩
    have fin54 : At ((w3.setCell ⟨BV, 5, none⟩ (.int .i64 n)).setCell ⟨BV, 4, none⟩ (.int .i64 0)).drew BV #[.int .i64 32, .bool false, .int .i64 n, .int .i64 n, .int .i64 0, .int .i64 n] 30 ∧ At ((w3.setCell ⟨BV, 5, none⟩ (.int .i64 n)).setCell ⟨BV, 4, none⟩ (.int .i64 0)).drew BP #[.int .i64 0, .int .i64 n] 110 ∧ At ((w3.setCell ⟨BV, 5, none⟩ (.int .i64 n)).setCell ⟨BV, 4, none⟩ (.int .i64 0)).drew bw #[.int .i64 kd, .int .i64 W, .bool sg, .int .i64 18, .int .i64 32, .bool tno, .int .i64 tl, .int .i64 th, .int .i64 tf, .int .i64 tb, .int .i32 0] 80 ∧ Below BP w ((w3.setCell ⟨BV, 5, none⟩ (.int .i64 n)).setCell ⟨BV, 4, none⟩ (.int .i64 0)).drew := ⟨d54.drew, (At.keeps dP3 k54 (by omega)).drew, (At.keeps hW3 k54 (by omega)).drew, ((hb3.setCell (p := ⟨BV, 5, none⟩) (by show BP ≤ BV; omega) (.int .i64 n)).setCell (p := ⟨BV, 4, none⟩) (by show BP ≤ BV; omega) (.int .i64 0)).drew⟩
    have F1 := Lib.hid fin45
    have F2 := Lib.hid fin54
    clear dV3 dP3 hW3 hb3 d4 d5 d45 d54 k4 k5 k45 k54 e4 e5 fin45 fin54 cJ okT ok1 hA
    go_region
    all_goals
      go_wp2_with fail
      go_meet
      first | exact F1.out | exact F2.out
  case rest =>
  obtain ⟨dV4, dP4, hW4, hb4⟩ := hcut
  generalize wc = w4 at *
  clear dV3 dP3 hW3 hb3 e0 en
  go_upto_region 6 with (fail)
  have v0 : w4.cell? ⟨BV, 0, none⟩ = some (.int .i64 32) := dV4.cell 0 rfl
  have v1 : w4.cell? ⟨BV, 1, none⟩ = some (.bool false) := dV4.cell 1 rfl
  have v2 : w4.cell? ⟨BV, 2, none⟩ = some (.int .i64 n) := dV4.cell 2 rfl
  have v3 : w4.cell? ⟨BV, 3, none⟩ = some (.int .i64 n) := dV4.cell 3 rfl
  have v4 : w4.cell? ⟨BV, 4, none⟩ = some (.int .i64 0) := dV4.cell 4 rfl
  have v5 : w4.cell? ⟨BV, 5, none⟩ = some (.int .i64 n) := dV4.cell 5 rfl
  have o0 : w4.cell? ⟨bw, 4, none⟩ = some (.int .i64 32) := hW4.cell 4 rfl
  have o1 : w4.cell? ⟨bw, 5, none⟩ = some (.bool tno) := hW4.cell 5 rfl
  have o2 : w4.cell? ⟨bw, 6, none⟩ = some (.int .i64 tl) := hW4.cell 6 rfl
  have o3 : w4.cell? ⟨bw, 7, none⟩ = some (.int .i64 th) := hW4.cell 7 rfl
  have o4 : w4.cell? ⟨bw, 8, none⟩ = some (.int .i64 tf) := hW4.cell 8 rfl
  have o5 : w4.cell? ⟨bw, 9, none⟩ = some (.int .i64 tb) := hW4.cell 9 rfl
  have HW := Lib.hid hW4
  have hs4 := hb4.size
  clear dV4 dP4 hW4 hA
  go_region_with
    ((go_at_call 116; refine (cJ _).mono ?_; rintro e w5 ⟨xno, xl, xh, xf, xb, rfl, okX, hmX, xall, xone, hb5⟩
      have dW5 := At.below' hb5 HW.out.drew
      have tc0 : w5.cell? ⟨bw, 4, none⟩ = some (.int .i64 32) := dW5.cell 4 rfl
      have tf0 : w5.frozen? ⟨bw, 4, none⟩ = false := At.free dW5 4
      have ts0 : At (w5.setCell ⟨bw, 4, none⟩ (.int .i64 32)) bw #[.int .i64 kd, .int .i64 W, .bool sg, .int .i64 18, .int .i64 32, .bool tno, .int .i64 tl, .int .i64 th, .int .i64 tf, .int .i64 tb, .int .i32 0] 80 := At.set dW5 4 (.int .i64 32) (by simp)
      have tc1 : (w5.setCell ⟨bw, 4, none⟩ (.int .i64 32)).cell? ⟨bw, 5, none⟩ = some (.bool tno) := ts0.cell 5 rfl
      have tf1 : (w5.setCell ⟨bw, 4, none⟩ (.int .i64 32)).frozen? ⟨bw, 5, none⟩ = false := At.free ts0 5
      have ts1 : At ((w5.setCell ⟨bw, 4, none⟩ (.int .i64 32)).setCell ⟨bw, 5, none⟩ (.bool xno)) bw #[.int .i64 kd, .int .i64 W, .bool sg, .int .i64 18, .int .i64 32, .bool xno, .int .i64 tl, .int .i64 th, .int .i64 tf, .int .i64 tb, .int .i32 0] 80 := At.set ts0 5 (.bool xno) (by simp)
      have tc2 : ((w5.setCell ⟨bw, 4, none⟩ (.int .i64 32)).setCell ⟨bw, 5, none⟩ (.bool xno)).cell? ⟨bw, 6, none⟩ = some (.int .i64 tl) := ts1.cell 6 rfl
      have tf2 : ((w5.setCell ⟨bw, 4, none⟩ (.int .i64 32)).setCell ⟨bw, 5, none⟩ (.bool xno)).frozen? ⟨bw, 6, none⟩ = false := At.free ts1 6
      have ts2 : At (((w5.setCell ⟨bw, 4, none⟩ (.int .i64 32)).setCell ⟨bw, 5, none⟩ (.bool xno)).setCell ⟨bw, 6, none⟩ (.int .i64 xl)) bw #[.int .i64 kd, .int .i64 W, .bool sg, .int .i64 18, .int .i64 32, .bool xno, .int .i64 xl, .int .i64 th, .int .i64 tf, .int .i64 tb, .int .i32 0] 80 := At.set ts1 6 (.int .i64 xl) (by simp)
      have tc3 : (((w5.setCell ⟨bw, 4, none⟩ (.int .i64 32)).setCell ⟨bw, 5, none⟩ (.bool xno)).setCell ⟨bw, 6, none⟩ (.int .i64 xl)).cell? ⟨bw, 7, none⟩ = some (.int .i64 th) := ts2.cell 7 rfl
      have tf3 : (((w5.setCell ⟨bw, 4, none⟩ (.int .i64 32)).setCell ⟨bw, 5, none⟩ (.bool xno)).setCell ⟨bw, 6, none⟩ (.int .i64 xl)).frozen? ⟨bw, 7, none⟩ = false := At.free ts2 7
      have ts3 : At ((((w5.setCell ⟨bw, 4, none⟩ (.int .i64 32)).setCell ⟨bw, 5, none⟩ (.bool xno)).setCell ⟨bw, 6, none⟩ (.int .i64 xl)).setCell ⟨bw, 7, none⟩ (.int .i64 xh)) bw #[.int .i64 kd, .int .i64 W, .bool sg, .int .i64 18, .int .i64 32, .bool xno, .int .i64 xl, .int .i64 xh, .int .i64 tf, .int .i64 tb, .int .i32 0] 80 := At.set ts2 7 (.int .i64 xh) (by simp)
      have tc4 : ((((w5.setCell ⟨bw, 4, none⟩ (.int .i64 32)).setCell ⟨bw, 5, none⟩ (.bool xno)).setCell ⟨bw, 6, none⟩ (.int .i64 xl)).setCell ⟨bw, 7, none⟩ (.int .i64 xh)).cell? ⟨bw, 8, none⟩ = some (.int .i64 tf) := ts3.cell 8 rfl
      have tf4 : ((((w5.setCell ⟨bw, 4, none⟩ (.int .i64 32)).setCell ⟨bw, 5, none⟩ (.bool xno)).setCell ⟨bw, 6, none⟩ (.int .i64 xl)).setCell ⟨bw, 7, none⟩ (.int .i64 xh)).frozen? ⟨bw, 8, none⟩ = false := At.free ts3 8
      have ts4 : At (((((w5.setCell ⟨bw, 4, none⟩ (.int .i64 32)).setCell ⟨bw, 5, none⟩ (.bool xno)).setCell ⟨bw, 6, none⟩ (.int .i64 xl)).setCell ⟨bw, 7, none⟩ (.int .i64 xh)).setCell ⟨bw, 8, none⟩ (.int .i64 xf)) bw #[.int .i64 kd, .int .i64 W, .bool sg, .int .i64 18, .int .i64 32, .bool xno, .int .i64 xl, .int .i64 xh, .int .i64 xf, .int .i64 tb, .int .i32 0] 80 := At.set ts3 8 (.int .i64 xf) (by simp)
      have tc5 : (((((w5.setCell ⟨bw, 4, none⟩ (.int .i64 32)).setCell ⟨bw, 5, none⟩ (.bool xno)).setCell ⟨bw, 6, none⟩ (.int .i64 xl)).setCell ⟨bw, 7, none⟩ (.int .i64 xh)).setCell ⟨bw, 8, none⟩ (.int .i64 xf)).cell? ⟨bw, 9, none⟩ = some (.int .i64 tb) := ts4.cell 9 rfl
      have tf5 : (((((w5.setCell ⟨bw, 4, none⟩ (.int .i64 32)).setCell ⟨bw, 5, none⟩ (.bool xno)).setCell ⟨bw, 6, none⟩ (.int .i64 xl)).setCell ⟨bw, 7, none⟩ (.int .i64 xh)).setCell ⟨bw, 8, none⟩ (.int .i64 xf)).frozen? ⟨bw, 9, none⟩ = false := At.free ts4 9
      have ts5 : At ((((((w5.setCell ⟨bw, 4, none⟩ (.int .i64 32)).setCell ⟨bw, 5, none⟩ (.bool xno)).setCell ⟨bw, 6, none⟩ (.int .i64 xl)).setCell ⟨bw, 7, none⟩ (.int .i64 xh)).setCell ⟨bw, 8, none⟩ (.int .i64 xf)).setCell ⟨bw, 9, none⟩ (.int .i64 xb)) bw #[.int .i64 kd, .int .i64 W, .bool sg, .int .i64 18, .int .i64 32, .bool xno, .int .i64 xl, .int .i64 xh, .int .i64 xf, .int .i64 xb, .int .i32 0] 80 := At.set ts4 9 (.int .i64 xb) (by simp)
      have XA := Lib.hid xall
      have XO := Lib.hid xone
      have DW := Lib.hid ts5
      have HB5 := Lib.hid hb5
      clear xall xone dW5 ts5 hb5 ts0 ts1 ts2 ts3 ts4))
  all_goals
    have hn2 : n < 2 ^ 32 := hn
    have hbe : Below w.heap.size w w4 := by
      rw [← HBP.out]
      exact hb4
    have fin : Tells ((((((w5.setCell ⟨bw, 4, none⟩ (.int .i64 32)).setCell ⟨bw, 5, none⟩ (.bool xno)).setCell ⟨bw, 6, none⟩ (.int .i64 xl)).setCell ⟨bw, 7, none⟩ (.int .i64 xh)).setCell ⟨bw, 8, none⟩ (.int .i64 xf)).setCell ⟨bw, 9, none⟩ (.int .i64 xb)) bw kd W sg (fun M => (∀ z, MemV 32 tno tl th tf tb z ∨ z = n → M z) ∧ ((∀ z, ¬ MemV 32 tno tl th tf tb z) → ∀ z, M z ↔ z = n)) := ⟨xno, xl, xh, xf, xb, DW.out, okX, hmX, fun z hz => XA.out z (hz.elim Or.inl (fun h => Or.inr ((mem1 hn2).2 h))), fun hne z => XO.out n (Or.inl fun z hz => absurd hz (hne z)) (fun z => ⟨fun h => h.elim (fun h => absurd h (hne z)) (mem1 hn2).1, fun h => Or.inr ((mem1 hn2).2 h)⟩) z⟩
    have hKK : Keeps bw w ((((((w5.setCell ⟨bw, 4, none⟩ (.int .i64 32)).setCell ⟨bw, 5, none⟩ (.bool xno)).setCell ⟨bw, 6, none⟩ (.int .i64 xl)).setCell ⟨bw, 7, none⟩ (.int .i64 xh)).setCell ⟨bw, 8, none⟩ (.int .i64 xf)).setCell ⟨bw, 9, none⟩ (.int .i64 xb)) := ((Keeps.of_below hbe).drew.trans (Keeps.of_below HB5.out)).trans ((((((((Keeps.refl bw w5).setCell 4 (.int .i64 32)).setCell 5 (.bool xno)).setCell 6 (.int .i64 xl)).setCell 7 (.int .i64 xh)).setCell 8 (.int .i64 xf)).setCell 9 (.int .i64 xb)))
    clear tc0 tc1 tc2 tc3 tc4 tc5 tf0 tf1 tf2 tf3 tf4 tf5 DW HB5 XA XO HW hbe hb4 v0 v1 v2 v3 v4 v5 o0 o1 o2 o3 o4 o5 cJ
    go_wp2_with fail
    go_end0
    exact ⟨rfl, fin, hKK⟩
end Go.Proofs.YtblahbmhbfcggaaGreatDoor

/- Package maths: Two, asked whether two sets' members are alike. -/
namespace Go.Proofs.YtblahbmhbfcggaaGreatDoor
open Go.ChangeShapes Go.WideShapes Go.ChangeAt Go.RowKit Go.Joins Go.Deep
set_option linter.unusedVariables false

/-- what is told of two sets, asked whether their members are alike -/
def EqTold (A B T : Nat → Prop) : Prop := ((∃ z, A z ∧ B z) → T 1) ∧ (¬ (∃ m, (∀ z, A z ↔ z = m) ∧ ∀ z, B z ↔ z = m) → T 0) ∧ ((∃ m, (∀ z, A z ↔ z = m) ∧ ∀ z, B z ↔ z = m) → ∀ z, T z ↔ z = 1) ∧ ((∀ z, ¬ (A z ∧ B z)) → ∀ z, T z ↔ z = 0)
def TruthTold (y n : Bool) (M : Nat → Prop) : Prop := (y = true → M 1) ∧ (n = true → M 0) ∧ (y = true → n = false → ∀ z, M z ↔ z = 1) ∧ (y = false → n = true → ∀ z, M z ↔ z = 0) ∧ (y = false → n = false → ∀ z, ¬ M z)
theorem no_32 : ValOk 32 true 0 0 0 0 := none_ok2 (Or.inr (Or.inr rfl))
theorem no_32m : mayB (32 : Nat) true (0 : Nat) (0 : Nat) (0 : Nat) (0 : Nat) = true := ok_may no_32 (fun _ => ⟨rfl, rfl, rfl, rfl⟩)
set_option maxRecDepth 100000 in
set_option maxHeartbeats 1600000 in
theorem truth_any (bw : Nat) (kd W : Int) (sg : Bool) (y n : Bool) (w : World) (hA : WkAt w bw kd W sg true 0 0 0 0) :
    Calls Tryz.prog 75 #[.pointer (some ⟨bw, 0, none⟩), .bool y, .bool n] w fun e w' => e = .returned (.tuple #[]) ∧ Tells w' bw kd W sg (TruthTold y n) ∧ Keeps bw w w' := by
  have cE1 := fun w => except_0 1 (by omega) w
  have cE0 := fun w => except_0 0 (by omega) w
  have hne : ∀ z, ¬ MemV 32 true 0 0 0 0 z := fun z hz => by cases hz.1
  cases y <;> cases n
  · go_enter Tryz.func75, Tryz.ntmps75
    go_wp2_with fail
    go_end0
    exact ⟨rfl, ⟨true, 0, 0, 0, 0, hA, no_32, no_32m, by simp [TruthTold, hne]⟩, Keeps.refl _ _⟩
  · go_enter Tryz.func75, Tryz.ntmps75
    go_wp2_with fail
    refine (cE0 _).mono ?_
    rintro e w1 ⟨rfl, hb1⟩
    have cA := add_one bw kd W sg true 0 0 0 0 no_32 no_32m 0 (by omega) w1 (At.below' hb1 hA)
    go_wp2_with fail
    refine cA.mono ?_
    rintro e w2 ⟨rfl, ⟨xno, xl, xh, xf, xb, hX, okX, hmX, p1, p2⟩, hK⟩
    have fin : Tells w2 bw kd W sg (TruthTold false true) := ⟨xno, xl, xh, xf, xb, hX, okX, hmX, ⟨(fun h => by cases h), fun _ => p1 0 (Or.inr rfl), (fun h => by cases h), fun _ _ => p2 hne, (fun _ h => by cases h)⟩⟩
    have hKK := (Keeps.of_below hb1).trans hK
    clear hX okX hmX p1 p2 hK hb1
    go_wp2_with fail
    go_end0
    exact ⟨rfl, fin, hKK⟩
  · go_enter Tryz.func75, Tryz.ntmps75
    go_wp2_with fail
    refine (cE1 _).mono ?_
    rintro e w1 ⟨rfl, hb1⟩
    have cA := add_one bw kd W sg true 0 0 0 0 no_32 no_32m 1 (by omega) w1 (At.below' hb1 hA)
    go_wp2_with fail
    refine cA.mono ?_
    rintro e w2 ⟨rfl, ⟨xno, xl, xh, xf, xb, hX, okX, hmX, p1, p2⟩, hK⟩
    have fin : Tells w2 bw kd W sg (TruthTold true false) := ⟨xno, xl, xh, xf, xb, hX, okX, hmX, ⟨fun _ => p1 1 (Or.inr rfl), (fun h => by cases h), fun _ _ => p2 hne, (fun h => by cases h), (fun h => by cases h)⟩⟩
    have hKK := (Keeps.of_below hb1).trans hK
    clear hX okX hmX p1 p2 hK hb1
    go_wp2_with fail
    go_end0
    exact ⟨rfl, fin, hKK⟩
  · go_enter Tryz.func75, Tryz.ntmps75
    go_wp2_with fail
    refine (cE1 _).mono ?_
    rintro e w1 ⟨rfl, hb1⟩
    have cA := add_one bw kd W sg true 0 0 0 0 no_32 no_32m 1 (by omega) w1 (At.below' hb1 hA)
    go_wp2_with fail
    refine cA.mono ?_
    rintro e w2 ⟨rfl, ⟨xno, xl, xh, xf, xb, hX, okX, hmX, p1, p2⟩, hK⟩
    have q1 := p1 1 (Or.inr rfl)
    have hKK := (Keeps.of_below hb1).trans hK
    clear p1 p2 hK hb1
    go_wp2_with fail
    refine (cE0 _).mono ?_
    rintro e w3 ⟨rfl, hb3⟩
    have cB := add_one bw kd W sg xno xl xh xf xb okX hmX 0 (by omega) w3 (At.below' hb3 hX)
    have hKL := hKK.trans (Keeps.of_below hb3)
    clear hKK hb3 hX okX hmX
    go_wp2_with fail
    refine cB.mono ?_
    rintro e w4 ⟨rfl, ⟨yno, yl, yh, yf, yb, hY, okY, hmY, r1, r2⟩, hK⟩
    have fin : Tells w4 bw kd W sg (TruthTold true true) := ⟨yno, yl, yh, yf, yb, hY, okY, hmY, ⟨fun _ => r1 1 (Or.inl q1), fun _ => r1 0 (Or.inr rfl), (fun _ h => by cases h), (fun h => by cases h), (fun h => by cases h)⟩⟩
    have hKM := hKL.trans hK
    clear hY okY hmY r1 r2 hK q1 hKL
    go_wp2_with fail
    go_end0
    exact ⟨rfl, fin, hKM⟩
theorem eq_told {A B C T : Nat → Prop} {is1 js nn : Bool} {n1 : Int} (hN : nn = true ↔ ∀ z, ¬ C z) (c1 : ∀ z, A z → B z → C z) (c3 : (∀ z, ¬ (A z ∧ B z)) → ∀ z, ¬ C z) (h1 : (is1 = true ∧ ∃ m : Nat, n1 = m ∧ ∀ z, A z ↔ z = m) ∨ (is1 = false ∧ ∀ m : Nat, ¬ ∀ z, A z ↔ z = m)) (hj : JustB B n1 js) (hne : ∃ z, A z) (hne2 : ∃ z, B z) (hT : TruthTold (!nn) (!is1 || !js) T) : EqTold A B T := by
  obtain ⟨t1, t2, t3, t4, _⟩ := hT
  have hy : (∃ z, A z ∧ B z) ↔ nn = false := by
    constructor
    · rintro ⟨z, h1, h2⟩
      cases nn
      · rfl
      · exact absurd (c1 z h1 h2) (hN.1 rfl z)
    · intro hf
      refine Classical.byContradiction fun hno => ?_
      have := hN.2 (c3 fun z hz => hno ⟨z, hz⟩)
      rw [hf] at this
      cases this
  have hs : (∃ m, (∀ z, A z ↔ z = m) ∧ ∀ z, B z ↔ z = m) ↔ (is1 = true ∧ js = true) := by
    rcases h1 with ⟨rfl, m, rfl, hA⟩ | ⟨rfl, hA⟩
    · constructor
      · rintro ⟨m', hA', hB'⟩
        have : m = m' := (hA' m).1 ((hA m).2 rfl)
        subst this
        exact ⟨rfl, hj.2 ⟨m, rfl, hB'⟩⟩
      · rintro ⟨_, hjs⟩
        obtain ⟨m', e, hB'⟩ := hj.1 hjs
        have : m = m' := by omega
        subst this
        exact ⟨m, hA, hB'⟩
    · constructor
      · rintro ⟨m', hA', _⟩
        exact absurd hA' (hA m')
      · rintro ⟨h, _⟩
        cases h
  refine ⟨fun h => t1 (by rw [hy.1 h]; rfl), fun h => t2 ?_, fun h => ?_, fun h => ?_⟩
  · have : ¬ (is1 = true ∧ js = true) := fun g => h (hs.2 g)
    cases is1 <;> cases js <;> simp_all
  · obtain ⟨rfl, rfl⟩ := hs.1 h
    obtain ⟨m, hA, hB⟩ := h
    have : nn = false := hy.1 ⟨m, (hA m).2 rfl, (hB m).2 rfl⟩
    subst this
    exact t3 rfl rfl
  · have hn : nn = true := by
      cases nn
      · obtain ⟨z, hz⟩ := hy.2 rfl
        exact absurd hz (h z)
      · rfl
    subst hn
    refine t4 rfl ?_
    have : ¬ (is1 = true ∧ js = true) := by
      intro g
      obtain ⟨m, hA, hB⟩ := hs.2 g
      exact h m ⟨(hA m).2 rfl, (hB m).2 rfl⟩
    cases is1 <;> cases js <;> simp_all
end Go.Proofs.YtblahbmhbfcggaaGreatDoor
