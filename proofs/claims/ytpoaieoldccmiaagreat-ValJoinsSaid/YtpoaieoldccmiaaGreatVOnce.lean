/- sync.Once's asking, one goroutine: a set that a call was handed, laid out once. -/
import Derived.Test.YtpoaieoldccmiaaGreatVSet
namespace Go.Proofs.YtpoaieoldccmiaaGreat
open Go.ChangeShapes Go.WideShapes Go.ChangeAt Go.RowKit Go.Joins Go.Deep
set_option linter.unusedVariables false

theorem disable (w : World) : (callFunc 98 #[]).run Tryz.prog w = .ok (.value (.tuple #[])) w := run_call_mark0 Tryz.func98 (by kernel_rfl) (by kernel_rfl) (by kernel_rfl) .disable (by kernel_rfl) w
theorem enable (w : World) : (callFunc 100 #[]).run Tryz.prog w = .ok (.value (.tuple #[])) w := run_call_mark0 Tryz.func100 (by kernel_rfl) (by kernel_rfl) (by kernel_rfl) .enable (by kernel_rfl) w
theorem acquire (a : Addr) (w : World) : (callFunc 101 #[.pointer (some a)]).run Tryz.prog w = .ok (.value (.tuple #[])) w := run_call_marked Tryz.func101 (by kernel_rfl) (by kernel_rfl) (by kernel_rfl) .acquire (by kernel_rfl) a w
theorem releaseMerge (a : Addr) (w : World) : (callFunc 103 #[.pointer (some a)]).run Tryz.prog w = .ok (.value (.tuple #[])) w := run_call_marked Tryz.func103 (by kernel_rfl) (by kernel_rfl) (by kernel_rfl) .releaseMerge (by kernel_rfl) a w

theorem store_deferred (a : Addr) (x : Value) (u : FrameMode) (w : World) (hc : w.cell? a = some x) (hz : w.frozen? a = false) :
    CallsD Tryz.prog 75 #[.pointer (some a), .bool true] u w fun e u' w' => u' = u ∧ (e = .returned (.tuple #[]) ∧ w' = w.drew.setCell a (.int .u32 1)) := by
  have hc' : w.drew.cell? a = some x := by go_simp
  have hz' : w.drew.frozen? a = false := by go_simp
  have hst := run_call_store (P := Tryz.prog) Tryz.func91 (by kernel_rfl) (by kernel_rfl) (by kernel_rfl) (by kernel_rfl) (k := .u32) (y := 1) hc' hz'
  go_enter_d Tryz.func75, Tryz.ntmps75
  go_wp2
  go_region_calls
  all_goals (go_end0; exact ⟨rfl, rfl⟩)

set_option maxRecDepth 100000 in
theorem unlock_deferred (a : Addr) (u : FrameMode) (w : World) (hc : w.cell? a = some (.int .i32 1)) (hz : w.frozen? a = false) :
    CallsD Tryz.prog 74 #[.pointer (some a)] u w fun e u' w' => u' = u ∧ (e = .returned (.tuple #[]) ∧ w' = w.setCell a (.int .i32 0)) := by
  have hd := disable
  have he := enable
  have hr := releaseMerge
  have hadd := run_call_add (P := Tryz.prog) Tryz.func104 (by kernel_rfl) (by kernel_rfl) (by kernel_rfl) .i32 (by kernel_rfl) (y := -1) (s := 0) hc hz (by simp [go_sem]; rfl)
  have hcv := run_convert_to_unsafe (P := Tryz.prog) (src := 140) (dst := 144) Tryz.underlying140 Tryz.underlying144 (by kernel_rfl) hc
  go_enter_d Tryz.func74, Tryz.ntmps74
  go_wp2
  go_end0
  go_wp2
  go_end0
  exact ⟨rfl, rfl⟩

set_option maxRecDepth 100000 in
theorem lock_free (a : Addr) (w : World) (hc : w.cell? a = some (.int .i32 0)) (hz : w.frozen? a = false) :
    Calls Tryz.prog 73 #[.pointer (some a)] w fun e w' => e = .returned (.tuple #[]) ∧ w' = w.setCell a (.int .i32 1) := by
  have hd := disable
  have he := enable
  have ha := acquire
  have hcas := run_call_cas_hit (P := Tryz.prog) Tryz.func99 (by kernel_rfl) (by kernel_rfl) (by kernel_rfl) .i32 (by kernel_rfl) (y := 1) hc hz
  have hc' : (w.setCell a (.int .i32 1)).cell? a = some (.int .i32 1) := World.cell?_setCell_same w a _ hc
  have hcv := run_convert_to_unsafe (P := Tryz.prog) (src := 140) (dst := 144) Tryz.underlying140 Tryz.underlying144 (by kernel_rfl) hc'
  go_enter Tryz.func73, Tryz.ntmps73
  go_wp2
  first | go_end0 | (simp only [Exit.inBlock, Exit.then]; refine bodyPost_ret (results_none rfl _ _ _) rfl ?_) | refine bodyPost_ret (results_none rfl _ _ _) rfl ?_
  go_wp2
  go_end0
  exact ⟨rfl, rfl⟩


/-- a set that may be, or none -/
structure ValOk (k : Nat) (no : Bool) (l h f b : Nat) : Prop where
  pat : PatOk k f b
  hl : l < 2 ^ k
  hh : h < 2 ^ k
/-- a set in memory, laid out or not yet -/
def SetNew (w : World) (sb k : Nat) (no : Bool) (l h f b : Nat) : Prop := At w sb (setC k no l h f b 0 0 none) 64
def SetLaid (w : World) (sb lo bl k : Nat) (no : Bool) (l h f b : Nat) : Prop := At w sb (setC k no l h f b 1 0 (some ⟨bl, 0, none⟩)) 64 ∧ LaidSet w lo bl k no l h f b ∧ sb < lo
def DoPost (sb lo k : Nat) (no : Bool) (l h f b : Nat) (w : World) (e : Ending) (w' : World) : Prop :=
  ∃ bl, e = .returned (.tuple #[]) ∧ SetLaid w' sb lo bl k no l h f b ∧ Keeps sb w w'
theorem LaidSet.keeps {w w' : World} {lo bl sb k : Nat} {no : Bool} {l h f b : Nat} (hL : LaidSet w lo bl k no l h f b) (hk : Keeps sb w w') (hs : sb < lo) : LaidSet w' lo bl k no l h f b := by
  obtain ⟨L, h1, h2⟩ := hL
  exact ⟨L, h1, h2.keepsOther hk hs⟩

set_option maxRecDepth 100000 in
set_option maxHeartbeats 3200000 in
theorem slow_any (sb k : Nat) (no : Bool) (l h f b : Nat) (ok : ValOk k no l h f b) (w : World) (hA : SetNew w sb k no l h f b) :
    Calls Tryz.prog 60 #[.pointer (some ⟨sb, 6, none⟩), .func (.func 39) #[.pointer (some ⟨sb, 0, none⟩)] #[]] w (DoPost sb w.heap.size k no l h f b w) := by
  have hlt := At.lt hA
  have k1 : At (w.setCell ⟨sb, 7, none⟩ (.int .i32 1)) sb (setC k no l h f b 0 1 none) 64 := At.set hA 7 (.int .i32 1) (by simp [setC])
  have hK1 : Keeps sb w (w.setCell ⟨sb, 7, none⟩ (.int .i32 1)) := (Keeps.refl sb w).setCell 7 _
  have hl := run_call_load (P := Tryz.prog) Tryz.func72 (by kernel_rfl) (by kernel_rfl) (by kernel_rfl) .u32 (by kernel_rfl) (w := w.setCell ⟨sb, 7, none⟩ (.int .i32 1)) (a := ⟨sb, 6, none⟩) (x := 0) (k1.cell 6 rfl)
  have hnot : ∀ (x : Bool) (w : World), (Op.unary .not (.bool x)).run Tryz.prog w = .ok (.bool (!x)) w := fun _ _ => rfl
  have c7 : w.cell? ⟨sb, 7, none⟩ = some (.int .i32 0) := At.cell hA 7 rfl
  have f7 := At.free hA 7
  have cM := setlay_any sb k no l h f b 0 1 ok.pat ok.hl ok.hh _ k1
  go_enter_defers Tryz.func60, Tryz.ntmps60
  go_wp2_with (first | (go_at_call 73; refine (lock_free ⟨sb, 7, none⟩ _ (by go_simp) (by go_simp)).mono ?_; rintro e w' ⟨rfl, rfl⟩) | (go_at_call 59; go_in) | (go_at_call 39; refine cM.mono ?_; rintro e w' ⟨bl, rfl, m1, mL, m2⟩))
  refine leaves_cons (f := 75) (args := #[.pointer (some ⟨sb, 6, none⟩), .bool true]) (by simp) (by simp [go_sem]) ?_
  refine (store_deferred ⟨sb, 6, none⟩ (.int .u32 0) .returning _ (m1.cell 6 rfl) (m1.free 6)).mono ?_
  rintro e u' w'' ⟨rfl, rfl, rfl⟩
  have n1 : At (w'.drew.setCell ⟨sb, 6, none⟩ (.int .u32 1)) sb (setC k no l h f b 1 1 (some ⟨bl, 0, none⟩)) 64 := m1.drew.set 6 (.int .u32 1) (by simp [setC])
  have n2 : Keeps sb w (w'.drew.setCell ⟨sb, 6, none⟩ (.int .u32 1)) := ((hK1.trans m2).drew).setCell 6 _
  have n3 : Keeps sb w' (w'.drew.setCell ⟨sb, 6, none⟩ (.int .u32 1)) := (Keeps.refl sb w').drew.setCell 6 _
  generalize w'.drew.setCell ⟨sb, 6, none⟩ (.int .u32 1) = w2 at n1 n2 n3 ⊢
  refine leaves_cons (f := 74) (args := #[.pointer (some ⟨sb, 7, none⟩)]) (by simp [settle]) (by simp [go_sem]) ?_
  refine (unlock_deferred ⟨sb, 7, none⟩ _ _ (n1.cell 7 rfl) (n1.free 7)).mono ?_
  rintro e u' w'' ⟨rfl, rfl, rfl⟩
  have o1 : At (w2.setCell ⟨sb, 7, none⟩ (.int .i32 0)) sb (setC k no l h f b 1 0 (some ⟨bl, 0, none⟩)) 64 := n1.set 7 (.int .i32 0) (by simp [setC])
  have o2 : Keeps sb w (w2.setCell ⟨sb, 7, none⟩ (.int .i32 0)) := n2.setCell 7 _
  have o3 : Keeps sb w' (w2.setCell ⟨sb, 7, none⟩ (.int .i32 0)) := n3.setCell 7 _
  generalize w2.setCell ⟨sb, 7, none⟩ (.int .i32 0) = w3 at o1 o2 o3 ⊢
  have hsz : (w.setCell ⟨sb, 7, none⟩ (.int .i32 1)).heap.size = w.heap.size := setCell_size _ _ _
  rw [hsz] at mL
  have fin : DoPost sb w.heap.size k no l h f b w (.returned (.tuple #[])) w3 := ⟨bl, rfl, ⟨o1, mL.keeps o3 hlt, hlt⟩, o2⟩
  simpa [Leaves, settle, results, Tryz.results60] using fin

set_option maxRecDepth 100000 in
set_option maxHeartbeats 1600000 in
theorem do_first (sb k : Nat) (no : Bool) (l h f b : Nat) (ok : ValOk k no l h f b) (w : World) (hA : SetNew w sb k no l h f b) :
    Calls Tryz.prog 38 #[.pointer (some ⟨sb, 6, none⟩), .func (.func 39) #[.pointer (some ⟨sb, 0, none⟩)] #[]] w (DoPost sb w.heap.size k no l h f b w) := by
  have hl := run_call_load (P := Tryz.prog) Tryz.func72 (by kernel_rfl) (by kernel_rfl) (by kernel_rfl) .u32 (by kernel_rfl) (w := w) (a := ⟨sb, 6, none⟩) (x := 0) (At.cell hA 6 rfl)
  have hnot : ∀ (x : Bool) (w : World), (Op.unary .not (.bool x)).run Tryz.prog w = .ok (.bool (!x)) w := fun _ _ => rfl
  go_enter Tryz.func38, Tryz.ntmps38
  go_wp2_with (first | (go_at_call 60; refine (slow_any sb k no l h f b ok _ hA).mono ?_; rintro e w' ⟨bl, rfl, m1, m2⟩) | (go_at_call 59; go_in))
  go_end0
  exact ⟨bl, rfl, m1, m2⟩
set_option maxRecDepth 100000 in
set_option maxHeartbeats 1600000 in
theorem do_again (sb lo bl k : Nat) (no : Bool) (l h f b : Nat) (v : Value) (w : World) (hA : SetLaid w sb lo bl k no l h f b) :
    Calls Tryz.prog 38 #[.pointer (some ⟨sb, 6, none⟩), v] w fun e w' => e = .returned (.tuple #[]) ∧ w = w' := by
  have hl := run_call_load (P := Tryz.prog) Tryz.func72 (by kernel_rfl) (by kernel_rfl) (by kernel_rfl) .u32 (by kernel_rfl) (w := w) (a := ⟨sb, 6, none⟩) (x := 1) (At.cell hA.1 6 rfl)
  have hnot : ∀ (x : Bool) (w : World), (Op.unary .not (.bool x)).run Tryz.prog w = .ok (.bool (!x)) w := fun _ _ => rfl
  go_enter Tryz.func38, Tryz.ntmps38
  go_wp2_with ((go_at_call 59; go_in))
  first | go_end0 | (simp only [Exit.inBlock, Exit.then]; refine bodyPost_ret (results_none rfl _ _ _) rfl ?_) | refine bodyPost_ret (results_none rfl _ _ _) rfl ?_
  exact ⟨rfl, rfl⟩

/-- the layout, asked for -/
def LayoutPost (sb lo k : Nat) (no : Bool) (l h f b : Nat) (w : World) (e : Ending) (w' : World) : Prop :=
  ∃ bl, e = .returned (.pointer (some ⟨bl, 0, none⟩)) ∧ SetLaid w' sb lo bl k no l h f b ∧ Keeps sb w w'
set_option maxRecDepth 100000 in
set_option maxHeartbeats 800000 in
theorem layout_first (sb k : Nat) (no : Bool) (l h f b : Nat) (ok : ValOk k no l h f b) (w : World) (hA : SetNew w sb k no l h f b) :
    Calls Tryz.prog 20 #[.pointer (some ⟨sb, 0, none⟩)] w (LayoutPost sb w.heap.size k no l h f b w) := by
  have hmf : ∀ (fn : Fn) (first cap : Array Value) (w : World), (Instr.makeFunc fn first cap).run Tryz.prog w = .ok (.func fn first cap) w := fun _ _ _ _ => rfl
  go_enter Tryz.func20, Tryz.ntmps20
  go_wp2_with (go_at_call 38; refine (do_first sb k no l h f b ok _ hA).mono ?_; rintro e w' ⟨bl, rfl, m1, m2⟩; have c9 : w'.cell? ⟨sb, 9, none⟩ = some (.pointer (some ⟨bl, 0, none⟩)) := m1.1.cell 9 rfl)
  go_ret
  exact ⟨bl, rfl, m1, m2⟩
set_option maxRecDepth 100000 in
set_option maxHeartbeats 800000 in
theorem layout_again (sb lo bl k : Nat) (no : Bool) (l h f b : Nat) (w : World) (hA : SetLaid w sb lo bl k no l h f b) :
    Calls Tryz.prog 20 #[.pointer (some ⟨sb, 0, none⟩)] w fun e w' => e = .returned (.pointer (some ⟨bl, 0, none⟩)) ∧ w = w' := by
  have hmf : ∀ (fn : Fn) (first cap : Array Value) (w : World), (Instr.makeFunc fn first cap).run Tryz.prog w = .ok (.func fn first cap) w := fun _ _ _ _ => rfl
  have c9 : w.cell? ⟨sb, 9, none⟩ = some (.pointer (some ⟨bl, 0, none⟩)) := hA.1.cell 9 rfl
  go_enter Tryz.func20, Tryz.ntmps20
  go_wp2_with (go_at_call 38; refine (do_again sb lo bl k no l h f b _ _ hA).mono ?_; rintro e w' ⟨rfl, rfl⟩)
  go_ret
  exact ⟨rfl, rfl⟩
end Go.Proofs.YtpoaieoldccmiaaGreat
