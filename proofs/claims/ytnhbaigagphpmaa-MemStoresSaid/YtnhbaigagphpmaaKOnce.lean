/- Package mem: a call looks at the memory's form once: sync.Once, one goroutine. -/
import Derived.Test.YtnhbaigagphpmaaKCount
namespace Go.Proofs.Ytnhbaigagphpmaa
open Go.ChangeShapes Go.WideShapes Go.ChangeAt Go.RowKit Go.Joins Go.Deep
set_option linter.unusedVariables false

/-- what one call is of, not looked at yet; looked at -/
def MemNew (w : World) (rb : Nat) (sl : Value) : Prop := MemAt w rb sl 0 0 0
def MemDone (w : World) (rb : Nat) (sl : Value) (m : List BK) : Prop := MemAt w rb sl 1 0 (oddF 0 m)
def MemPost2 (rb : Nat) (sl : Value) (m : List BK) (w : World) (e : Ending) (w' : World) : Prop :=
  e = .returned (.tuple #[]) ∧ MemDone w' rb sl m ∧ Only rb w w'

set_option maxRecDepth 100000 in
set_option maxHeartbeats 3200000 in
theorem slowM_any (rb : Nat) (q : Option Addr) (len cap : Nat) (m : List BK) (w0 w : World) (hx : IsMem w0 q len m) (hb0 : Below w0.heap.size w0 w) (hrb : w0.heap.size ≤ rb) (h : MemNew w rb (.slice q len cap)) :
    Calls Try.prog 75 #[.pointer (some ⟨rb, 1, none⟩), .func (.func 80) #[.pointer (some ⟨rb, 0, none⟩)] #[]] w (MemPost2 rb (.slice q len cap) m w) := by
  have k1 : MemAt (w.setCell ⟨rb, 2, none⟩ (.int .i32 1)) rb (.slice q len cap) 0 1 0 := At.set h.at 2 (.int .i32 1) (by simp [memC])
  have hK1 : Only rb w (w.setCell ⟨rb, 2, none⟩ (.int .i32 1)) := (Only.refl rb w).set 2 _
  have hl := run_call_load (P := Try.prog) Try.func82 (by kernel_rfl) (by kernel_rfl) (by kernel_rfl) .u32 (by kernel_rfl) (w := w.setCell ⟨rb, 2, none⟩ (.int .i32 1)) (a := ⟨rb, 1, none⟩) (x := 0) (k1.at.cell 1 rfl)
  have hnot : ∀ (x : Bool) (w : World), (Op.unary .not (.bool x)).run Try.prog w = .ok (.bool (!x)) w := fun _ _ => rfl
  have c7 : w.cell? ⟨rb, 2, none⟩ = some (.int .i32 0) := h.at.cell 2 rfl
  have f7 := At.free h.at 2
  have cM := countStrange_any rb q len cap 1 m w0 _ hx (hb0.trans (hK1.1.mono hrb)) hrb k1
  go_enter_defers Try.func75, Try.ntmps75
  go_wp2_with (first | (go_at_call 83; refine (lock_free ⟨rb, 2, none⟩ _ (by go_simp) (by go_simp)).mono ?_; rintro e w' ⟨rfl, rfl⟩) | (go_at_call 74; go_in) | (go_at_call 80; refine cM.mono ?_; rintro e w' ⟨rfl, m1, m2⟩))
  refine leaves_cons (f := 85) (args := #[.pointer (some ⟨rb, 1, none⟩), .bool true]) (by simp) (by simp [go_sem]) ?_
  refine (store_deferred ⟨rb, 1, none⟩ (.int .u32 0) .returning _ ((show MemAt _ _ _ _ _ _ from m1).at.cell 1 rfl) (At.free (show MemAt _ _ _ _ _ _ from m1).at 1)).mono ?_
  rintro e u' w'' ⟨rfl, rfl, rfl⟩
  have n1 : MemAt (w'.drew.setCell ⟨rb, 1, none⟩ (.int .u32 1)) rb (.slice q len cap) 1 1 (oddF 0 m) := At.set (show MemAt _ _ _ _ _ _ from m1).at.drew 1 (.int .u32 1) (by simp [memC])
  have n2 : Only rb w (w'.drew.setCell ⟨rb, 1, none⟩ (.int .u32 1)) := ((hK1.trans m2).drew).set 1 _
  generalize w'.drew.setCell ⟨rb, 1, none⟩ (.int .u32 1) = w2 at n1 n2 ⊢
  refine leaves_cons (f := 84) (args := #[.pointer (some ⟨rb, 2, none⟩)]) (by simp [settle]) (by simp [go_sem]) ?_
  refine (unlock_deferred ⟨rb, 2, none⟩ _ _ ((show MemAt _ _ _ _ _ _ from n1).at.cell 2 rfl) (At.free (show MemAt _ _ _ _ _ _ from n1).at 2)).mono ?_
  rintro e u' w'' ⟨rfl, rfl, rfl⟩
  have o1 : MemDone (w2.setCell ⟨rb, 2, none⟩ (.int .i32 0)) rb (.slice q len cap) m := At.set (show MemAt _ _ _ _ _ _ from n1).at 2 (.int .i32 0) (by simp [memC])
  have o2 : Only rb w (w2.setCell ⟨rb, 2, none⟩ (.int .i32 0)) := n2.set 2 _
  generalize w2.setCell ⟨rb, 2, none⟩ (.int .i32 0) = w3 at o1 o2 ⊢
  have fin : MemPost2 rb (.slice q len cap) m w (.returned (.tuple #[])) w3 := ⟨rfl, o1, o2⟩
  simpa [Leaves, settle, results, Try.results75] using fin
set_option maxRecDepth 100000 in
set_option maxHeartbeats 1600000 in
theorem doM_first (rb : Nat) (q : Option Addr) (len cap : Nat) (m : List BK) (w0 w : World) (hx : IsMem w0 q len m) (hb0 : Below w0.heap.size w0 w) (hrb : w0.heap.size ≤ rb) (h : MemNew w rb (.slice q len cap)) :
    Calls Try.prog 56 #[.pointer (some ⟨rb, 1, none⟩), .func (.func 80) #[.pointer (some ⟨rb, 0, none⟩)] #[]] w (MemPost2 rb (.slice q len cap) m w) := by
  have hl := run_call_load (P := Try.prog) Try.func82 (by kernel_rfl) (by kernel_rfl) (by kernel_rfl) .u32 (by kernel_rfl) (w := w) (a := ⟨rb, 1, none⟩) (x := 0) (h.at.cell 1 rfl)
  have hnot : ∀ (x : Bool) (w : World), (Op.unary .not (.bool x)).run Try.prog w = .ok (.bool (!x)) w := fun _ _ => rfl
  have cS := slowM_any rb q len cap m w0 w hx hb0 hrb h
  clear hx hb0 hrb h
  go_enter Try.func56, Try.ntmps56
  go_wp2_with (first | (go_at_call 75; refine cS.mono ?_; rintro e w' ⟨rfl, m1, m2⟩) | (go_at_call 74; go_in))
  go_end0
  exact ⟨rfl, m1, m2⟩
set_option maxRecDepth 100000 in
set_option maxHeartbeats 1600000 in
theorem doM_again (rb : Nat) (sl : Value) (m : List BK) (v : Value) (w : World) (h : MemDone w rb sl m) :
    Calls Try.prog 56 #[.pointer (some ⟨rb, 1, none⟩), v] w fun e w' => e = .returned (.tuple #[]) ∧ w = w' := by
  have hl := run_call_load (P := Try.prog) Try.func82 (by kernel_rfl) (by kernel_rfl) (by kernel_rfl) .u32 (by kernel_rfl) (w := w) (a := ⟨rb, 1, none⟩) (x := 1) ((show MemAt _ _ _ _ _ _ from h).at.cell 1 rfl)
  have hnot : ∀ (x : Bool) (w : World), (Op.unary .not (.bool x)).run Try.prog w = .ok (.bool (!x)) w := fun _ _ => rfl
  go_enter Try.func56, Try.ntmps56
  go_wp2_with ((go_at_call 74; go_in))
  first | go_end0 | (simp only [Exit.inBlock, Exit.then]; refine bodyPost_ret (results_none rfl _ _ _) rfl ?_) | refine bodyPost_ret (results_none rfl _ _ _) rfl ?_
  exact ⟨rfl, rfl⟩

theorem mem_load (rb : Nat) (sl : Value) (dn st : Int) (c : Nat) (w : World) (h : MemAt w rb sl dn st c) :
    Calls Try.prog 58 #[.pointer (some ⟨rb, 4, none⟩)] w fun e w' => e = .returned (.int .i32 (c : Nat)) ∧ w = w' := load32 rb 4 (c : Nat) w (h.at.cell 4 rfl)
def MayB (rb : Nat) (sl : Value) (m : List BK) (b : Bool) (w : World) (e : Ending) (w' : World) : Prop :=
  e = .returned (.bool b) ∧ (b = true → MemDone w' rb sl m) ∧ Only rb w w'
def MayPost (rb : Nat) (sl : Value) (m : List BK) (w : World) (e : Ending) (w' : World) : Prop := MayB rb sl m (mayM m) w e w'
set_option maxRecDepth 100000 in
set_option maxHeartbeats 1600000 in
theorem mayBe_first (rb : Nat) (q : Option Addr) (len cap : Nat) (m : List BK) (w0 w : World) (hx : IsMem w0 q len m) (hb0 : Below w0.heap.size w0 w) (hrb : w0.heap.size ≤ rb) (h : MemNew w rb (.slice q len cap)) :
    Calls Try.prog 65 #[.pointer (some ⟨rb, 0, none⟩)] w (MayPost rb (.slice q len cap) m w) := by
  have hmf : ∀ (fn : Fn) (first cap : Array Value) (w : World), (Instr.makeFunc fn first cap).run Try.prog w = .ok (.func fn first cap) w := fun _ _ _ _ => rfl
  have c0 : w.cell? ⟨rb, 0, none⟩ = some (.slice q len cap) := h.at.cell 0 rfl
  have hlen := hx.2.1
  have hl := hx.1
  have cD := doM_first rb q len cap m w0 w hx hb0 hrb h
  have cL := fun c w h => mem_load rb (.slice q len cap) 1 0 c w h
  clear hx hb0 hrb h
  by_cases h1 : 1 ≤ len ∧ len ≤ 33
  · obtain ⟨h1, h2⟩ := h1
    have hM : mayM m = (oddF 0 m == 0) := by simp [mayM, hlen, h1, h2]
    have hle := oddF_le m 0
    show Calls _ _ _ _ (MayB rb (.slice q len cap) m (mayM m) w)
    rw [hM]
    have d1 : ¬ (len : Int) < 1 := by omega
    have d2 : ¬ (33 : Int) < (len : Int) := by omega
    have HL := Lib.hid hlen
    have HM := Lib.hid hM
    clear hlen hM
    go_enter Try.func65, Try.ntmps65
    go_wp2_with fail
    refine cD.mono ?_
    rintro e w2 ⟨rfl, m1, m2⟩
    have m3 : MemAt w2 rb (.slice q len cap) 1 0 (oddF 0 m) := m1
    generalize oddF 0 m = c at *
    go_wp2_with fail
    refine (cL _ _ m3).mono ?_
    rintro e w3 ⟨rfl, rfl⟩
    go_wp2
    go_ret
    have hcc : ((c : Int) == 0) = (c == 0) := by rw [Bool.eq_iff_iff, beq_iff_eq, beq_iff_eq]; omega
    exact ⟨ret_b hcc, fun _ => m1, m2⟩
  · have hM : mayM m = false := by
      simp only [mayM, hlen, Bool.and_eq_false_iff, decide_eq_false_iff_not]
      by_cases h2 : 1 ≤ len
      · exact Or.inl (Or.inr fun h3 => h1 ⟨h2, h3⟩)
      · exact Or.inl (Or.inl h2)
    show Calls _ _ _ _ (MayB rb (.slice q len cap) m (mayM m) w)
    rw [hM]
    have hcase : len < 1 ∨ (¬ len < 1 ∧ 33 < len) := by omega
    clear hM h1 hlen cD
    rcases hcase with h1 | ⟨h1, h2⟩
    · have d1 : (len : Int) < 1 := by omega
      go_enter Try.func65, Try.ntmps65
      go_wp2
      go_ret
      exact ⟨rfl, (fun h => by cases h), Only.refl _ _⟩
    · have d1 : ¬ (len : Int) < 1 := by omega
      have d2 : (33 : Int) < (len : Int) := by omega
      go_enter Try.func65, Try.ntmps65
      go_wp2
      go_ret
      exact ⟨rfl, (fun h => by cases h), Only.refl _ _⟩
set_option maxRecDepth 100000 in
set_option maxHeartbeats 1600000 in
theorem mayBe_again (rb : Nat) (q : Option Addr) (len cap : Nat) (m : List BK) (hl : m.length = len) (hm : mayM m = true) (w : World) (h : MemDone w rb (.slice q len cap) m) :
    Calls Try.prog 65 #[.pointer (some ⟨rb, 0, none⟩)] w fun e w' => e = .returned (.bool true) ∧ w = w' := by
  have hmf : ∀ (fn : Fn) (first cap : Array Value) (w : World), (Instr.makeFunc fn first cap).run Try.prog w = .ok (.func fn first cap) w := fun _ _ _ _ => rfl
  have c0 : w.cell? ⟨rb, 0, none⟩ = some (.slice q len cap) := (show MemAt _ _ _ _ _ _ from h).at.cell 0 rfl
  have cD := fun v => doM_again rb (.slice q len cap) m v w h
  have hlen := mayM_len hm
  have d1 : ¬ (len : Int) < 1 := by omega
  have d2 : ¬ (33 : Int) < (len : Int) := by omega
  have e0 : oddF 0 m = 0 := by
    unfold mayM at hm
    simp only [Bool.and_eq_true, beq_iff_eq] at hm
    exact hm.2
  have h3 : MemAt w rb (.slice q len cap) 1 0 0 := by have := h; unfold MemDone at this; rw [e0] at this; exact this
  have cL := mem_load rb (.slice q len cap) 1 0 0 w h3
  clear h h3 e0 hlen hm hl
  go_enter Try.func65, Try.ntmps65
  go_wp2_with fail
  refine (cD _).mono ?_
  rintro e w2 ⟨rfl, rfl⟩
  go_wp2_with fail
  refine cL.mono ?_
  rintro e w3 ⟨rfl, rfl⟩
  go_wp2
  go_ret
  exact ⟨rfl, rfl⟩
end Go.Proofs.Ytnhbaigagphpmaa
