/- Package val: a set that a call was handed: its spans, laid out once. -/
import Derived.Test.YtblahbmhbfcggaaGreatDoorVLay
namespace Go.Proofs.YtblahbmhbfcggaaGreatDoor
open Go.ChangeShapes Go.WideShapes Go.ChangeAt Go.RowKit Go.Joins Go.Deep
set_option linter.unusedVariables false

theorem keep9_below {w w' : World} {p0 p1 p2 p3 p4 p5 p6 p7 p8 : Addr} {v0 v1 v2 v3 v4 v5 v6 v7 v8 : Value} (h : w.cell? p0 = some v0 ∧ w.cell? p1 = some v1 ∧ w.cell? p2 = some v2 ∧ w.cell? p3 = some v3 ∧ w.cell? p4 = some v4 ∧ w.cell? p5 = some v5 ∧ w.cell? p6 = some v6 ∧ w.cell? p7 = some v7 ∧ w.cell? p8 = some v8) (hb : Below w.heap.size w w') : w'.cell? p0 = some v0 ∧ w'.cell? p1 = some v1 ∧ w'.cell? p2 = some v2 ∧ w'.cell? p3 = some v3 ∧ w'.cell? p4 = some v4 ∧ w'.cell? p5 = some v5 ∧ w'.cell? p6 = some v6 ∧ w'.cell? p7 = some v7 ∧ w'.cell? p8 = some v8 := ⟨cell_below (h.1) hb, cell_below (h.2.1) hb, cell_below (h.2.2.1) hb, cell_below (h.2.2.2.1) hb, cell_below (h.2.2.2.2.1) hb, cell_below (h.2.2.2.2.2.1) hb, cell_below (h.2.2.2.2.2.2.1) hb, cell_below (h.2.2.2.2.2.2.2.1) hb, cell_below (h.2.2.2.2.2.2.2.2) hb⟩
theorem keep9_alloc {w : World} {p0 p1 p2 p3 p4 p5 p6 p7 p8 : Addr} {v0 v1 v2 v3 v4 v5 v6 v7 v8 : Value} (h : w.cell? p0 = some v0 ∧ w.cell? p1 = some v1 ∧ w.cell? p2 = some v2 ∧ w.cell? p3 = some v3 ∧ w.cell? p4 = some v4 ∧ w.cell? p5 = some v5 ∧ w.cell? p6 = some v6 ∧ w.cell? p7 = some v7 ∧ w.cell? p8 = some v8) (o : Obj) : (w.alloc o).cell? p0 = some v0 ∧ (w.alloc o).cell? p1 = some v1 ∧ (w.alloc o).cell? p2 = some v2 ∧ (w.alloc o).cell? p3 = some v3 ∧ (w.alloc o).cell? p4 = some v4 ∧ (w.alloc o).cell? p5 = some v5 ∧ (w.alloc o).cell? p6 = some v6 ∧ (w.alloc o).cell? p7 = some v7 ∧ (w.alloc o).cell? p8 = some v8 := ⟨cell_alloc (h.1) o, cell_alloc (h.2.1) o, cell_alloc (h.2.2.1) o, cell_alloc (h.2.2.2.1) o, cell_alloc (h.2.2.2.2.1) o, cell_alloc (h.2.2.2.2.2.1) o, cell_alloc (h.2.2.2.2.2.2.1) o, cell_alloc (h.2.2.2.2.2.2.2.1) o, cell_alloc (h.2.2.2.2.2.2.2.2) o⟩

def spansOf (k : Nat) (no : Bool) (l h : Nat) : Spans := if no = true then [] else if l ≤ h then [(l, h)] else [(0, h), (l, 2 ^ k - 1)]
def SpansPost (S : Spans) (w : World) (e : Ending) (w' : World) : Prop := ∃ sv, SrcV w' sv S ∧ e = .returned sv ∧ Below w.heap.size w w'
set_option maxRecDepth 100000 in
theorem spans_no (k l h f b : Int) (w : World) :
    Calls Tryz.prog 159 #[valV k true l h f b] w (SpansPost [] w) := by
  go_enter Tryz.func159, Tryz.ntmps159
  go_wp2
  go_ret
  exact ⟨_, ⟨none, 0, rfl, Or.inl rfl⟩, rfl, (Below.refl _ _).alloc (Nat.le_refl _) _⟩
theorem src_one {w : World} {g c l h : Nat} (hA : At w g #[.int .i64 l, .int .i64 h] 166) : SrcV w (.slice (some ⟨g, 0, none⟩) 1 c) [(l, h)] :=
  ⟨_, c, rfl, Or.inr ⟨g, rfl, fun i hi => by
    obtain rfl : i = 0 := by simp at hi; omega
    exact ⟨hA.cell 0 rfl, hA.cell 1 rfl⟩⟩⟩
theorem src_two {w : World} {g c l h l2 h2 : Nat} (hA : At w g #[.int .i64 l, .int .i64 h, .int .i64 l2, .int .i64 h2] 166) : SrcV w (.slice (some ⟨g, 0, none⟩) 2 c) [(l, h), (l2, h2)] :=
  ⟨_, c, rfl, Or.inr ⟨g, rfl, fun i hi => by
    obtain rfl | rfl : i = 0 ∨ i = 1 := by simp at hi; omega
    · exact ⟨hA.cell 0 rfl, hA.cell 1 rfl⟩
    · exact ⟨hA.cell 2 rfl, hA.cell 3 rfl⟩⟩⟩
set_option maxRecDepth 100000 in
theorem spans_plain (k l h f b : Nat) (hl : l ≤ h) (w : World) :
    Calls Tryz.prog 159 #[valV k false l h f b] w (SpansPost [(l, h)] w) := by
  have t0 : decide (l ≤ h) = true := by simpa using hl
  have dN := At.new (w.alloc (.cells #[.int .i64 k, .bool false, .int .i64 l, .int .i64 h, .int .i64 f, .int .i64 b] 30)) #[.int .i64 l, .int .i64 h] 166
  simp only [World.size_alloc] at dN
  go_enter Tryz.func159, Tryz.ntmps159
  go_wp2
  go_ret
  exact ⟨_, src_one dN, rfl, ((Below.refl _ _).alloc (Nat.le_refl _) _).alloc (by simp) _⟩
set_option maxRecDepth 100000 in
set_option maxHeartbeats 800000 in
theorem spans_over (k l h f b : Nat) (hl : ¬ l ≤ h) (hk : k ≤ 32) (w : World) :
    Calls Tryz.prog 159 #[valV k false l h f b] w (SpansPost [(0, h), (l, 2 ^ k - 1)] w) := by
  have t0 : decide (l ≤ h) = false := by simpa using hl
  have e1 := one_pred k (by omega)
  have e0 := one_shl k (by omega)
  obtain ⟨tp, htp⟩ : ∃ tp, tp = 2 ^ k - 1 := ⟨_, rfl⟩
  have e3 : wrap64 (wrap64 (2 ^ k) - 1) = (tp : Nat) := by rw [e0, htp]; simpa using e1
  have e2 : IntKind.i64.wrap (IntKind.i64.wrap (2 ^ k) - 1) = (tp : Nat) := by simpa only [wrap64, IntKind.wrap_i64] using e3
  rw [← htp]
  clear htp e1 e0
  have dN := (At.new (w.alloc (.cells #[.int .i64 k, .bool false, .int .i64 l, .int .i64 h, .int .i64 f, .int .i64 b] 30)) #[.int .i64 0, .int .i64 h, .int .i64 l, .int .i64 tp] 166).drew
  simp only [World.size_alloc] at dN
  go_enter Tryz.func159, Tryz.ntmps159
  go_wp2
  go_region
  all_goals
    go_wp2_with fail
    go_ret
    exact ⟨_, src_two (l := 0) dN, rfl, (((Below.refl _ _).alloc (Nat.le_refl _) _).alloc (by simp) _).drew⟩
theorem spans_any (k l h f b : Nat) (no : Bool) (hk : k ≤ 32) (w : World) :
    Calls Tryz.prog 159 #[valV k no l h f b] w (SpansPost (spansOf k no l h) w) := by
  unfold spansOf
  cases no
  · by_cases hl : l ≤ h
    · simp only [Bool.false_eq_true, if_false, hl, if_true]; exact spans_plain k l h f b hl w
    · simp only [Bool.false_eq_true, if_false, hl]; exact spans_over k l h f b hl hk w
  · simp only [if_true]; exact spans_no k l h f b w

/-- a set that a call was handed, as it lies in memory -/
def setC (k : Int) (no : Bool) (l h f b dn st : Int) (p : Option Addr) : Array Value := #[.int .i64 k, .bool no, .int .i64 l, .int .i64 h, .int .i64 f, .int .i64 b, .int .u32 dn, .int .i32 st, .int .u32 0, .pointer p]
/-- what a set's layout is -/
def LaidSet (w : World) (lo bl k : Nat) (no : Bool) (l h f b : Nat) : Prop := ∃ L, Laid k f b (spansOf k no l h) L ∧ LayAt w lo bl k (narF f L) (narB f b L) L (sumR f L)
theorem spansOf_lt {k l h : Nat} {no : Bool} (hl : l < 2 ^ k) (hh : h < 2 ^ k) : ∀ s ∈ spansOf k no l h, s.1 < 2 ^ k ∧ s.2 < 2 ^ k := by
  intro s hs
  have h1 : 1 ≤ 2 ^ k := Nat.one_le_two_pow
  unfold spansOf at hs
  split at hs
  · simp at hs
  · split at hs
    · simp at hs; subst hs; exact ⟨hl, hh⟩
    · simp at hs
      rcases hs with rfl | rfl
      · exact ⟨by omega, hh⟩
      · exact ⟨hl, by omega⟩
theorem spansOf_len {k l h : Nat} {no : Bool} : (spansOf k no l h).length ≤ 100 := by
  unfold spansOf
  split
  · simp
  · split <;> simp
theorem keeps_step {bl : Nat} {a w1 w2 c : World} (hb : Below w2.heap.size w2 c) (h : Keeps bl a w1) (h1 : w2.os = w1.os) (h2 : w2.tape = w1.tape) (h3 : w2.output = w1.output) (h4 : w2.heap = w1.heap) : Keeps bl a c :=
  ⟨(hb.os.trans h1).trans h.os, (hb.tape.trans h2).trans h.tape, (hb.output.trans h3).trans h.output, by have := hb.size; have := h.size; rw [h4] at *; omega, fun i hi hn => by rw [hb.block i (by have := h.size; rw [h4]; omega), h4]; exact h.block i hi hn⟩
def SLayPost (sb k : Nat) (no : Bool) (l h f b : Nat) (dn st : Int) (w : World) (e : Ending) (w' : World) : Prop :=
  ∃ bl, e = .returned (.tuple #[]) ∧ At w' sb (setC k no l h f b dn st (some ⟨bl, 0, none⟩)) 150 ∧ LaidSet w' w.heap.size bl k no l h f b ∧ Keeps sb w w'

theorem keepS {w : World} {B sb : Nat} {k : Int} {no : Bool} {l h f b dn st : Int} {p : Option Addr} {x : Value} {T : TypeId} (hh : w.cell? ⟨B, 0, none⟩ = some (.int .i64 k) ∧ w.cell? ⟨B, 1, none⟩ = some (.int .i64 f) ∧ w.cell? ⟨B, 2, none⟩ = some (.int .i64 b) ∧ w.cell? ⟨sb, 0, none⟩ = some (.int .i64 k) ∧ w.cell? ⟨sb, 1, none⟩ = some (.bool no) ∧ w.cell? ⟨sb, 2, none⟩ = some (.int .i64 l) ∧ w.cell? ⟨sb, 3, none⟩ = some (.int .i64 h) ∧ w.cell? ⟨sb, 4, none⟩ = some (.int .i64 f) ∧ w.cell? ⟨sb, 5, none⟩ = some (.int .i64 b)) (hne : B ≠ sb) (hA : At w sb (setC k no l h f b dn st p) T) : (w.setCell ⟨sb, 9, none⟩ x).cell? ⟨B, 0, none⟩ = some (.int .i64 k) ∧ (w.setCell ⟨sb, 9, none⟩ x).cell? ⟨B, 1, none⟩ = some (.int .i64 f) ∧ (w.setCell ⟨sb, 9, none⟩ x).cell? ⟨B, 2, none⟩ = some (.int .i64 b) ∧ (w.setCell ⟨sb, 9, none⟩ x).cell? ⟨sb, 0, none⟩ = some (.int .i64 k) ∧ (w.setCell ⟨sb, 9, none⟩ x).cell? ⟨sb, 1, none⟩ = some (.bool no) ∧ (w.setCell ⟨sb, 9, none⟩ x).cell? ⟨sb, 2, none⟩ = some (.int .i64 l) ∧ (w.setCell ⟨sb, 9, none⟩ x).cell? ⟨sb, 3, none⟩ = some (.int .i64 h) ∧ (w.setCell ⟨sb, 9, none⟩ x).cell? ⟨sb, 4, none⟩ = some (.int .i64 f) ∧ (w.setCell ⟨sb, 9, none⟩ x).cell? ⟨sb, 5, none⟩ = some (.int .i64 b) :=
  ⟨cell_set hh.1 hne, cell_set hh.2.1 hne, cell_set hh.2.2.1 hne, (hA.set 9 x (by simp [setC])).cell 0 rfl, (hA.set 9 x (by simp [setC])).cell 1 rfl, (hA.set 9 x (by simp [setC])).cell 2 rfl, (hA.set 9 x (by simp [setC])).cell 3 rfl, (hA.set 9 x (by simp [setC])).cell 4 rfl, (hA.set 9 x (by simp [setC])).cell 5 rfl⟩

set_option maxRecDepth 100000 in
set_option maxHeartbeats 3200000 in
theorem setlay_any (sb k : Nat) (no : Bool) (l h f b : Nat) (dn st : Int) (ok : PatOk k f b) (hl : l < 2 ^ k) (hh : h < 2 ^ k) (w : World) (hA : At w sb (setC k no l h f b dn st none) 150) :
    Calls Tryz.prog 126 #[.pointer (some ⟨sb, 0, none⟩)] w (SLayPost sb k no l h f b dn st w) := by
  have c0 : w.cell? ⟨sb, 0, none⟩ = some (.int .i64 k) := hA.cell 0 rfl
  have c4 : w.cell? ⟨sb, 4, none⟩ = some (.int .i64 f) := hA.cell 4 rfl
  have c5 : w.cell? ⟨sb, 5, none⟩ = some (.int .i64 b) := hA.cell 5 rfl
  have hp := ok.hk.pow
  have hk3 := ok.hk.le
  have hlt := hA.lt
  go_enter Tryz.func126, Tryz.ntmps126
  go_wp2
  go_region
  have hA1 := (hA.alloc (.cells #[.int .i64 k, .int .i64 f, .int .i64 b] 152)).drew
  have dB := (At.new w #[.int .i64 k, .int .i64 f, .int .i64 b] 152).drew
  have hK1 : Keeps sb w (w.alloc (.cells #[.int .i64 k, .int .i64 f, .int .i64 b] 152)).drew := (Keeps.of_below ((Below.refl _ _).alloc (Nat.le_refl _) _)).drew
  have hs1 : w.heap.size + 1 ≤ (w.alloc (.cells #[.int .i64 k, .int .i64 f, .int .i64 b] 152)).drew.heap.size := by simp
  clear c0 c4 c5 hA
  go_wp2_with fail
  generalize (w.alloc (.cells #[.int .i64 k, .int .i64 f, .int .i64 b] 152)).drew = w1 at *
  obtain ⟨B, hB⟩ : ∃ B, B = w.heap.size := ⟨_, rfl⟩
  rw [← hB] at dB hs1 hlt ⊢
  have hBw := Lib.hid hB
  clear hB
  have hBs : B ≠ sb := by omega
  have hS9 : w1.cell? ⟨B, 0, none⟩ = some (.int .i64 k) ∧ w1.cell? ⟨B, 1, none⟩ = some (.int .i64 f) ∧ w1.cell? ⟨B, 2, none⟩ = some (.int .i64 b) ∧ w1.cell? ⟨sb, 0, none⟩ = some (.int .i64 k) ∧ w1.cell? ⟨sb, 1, none⟩ = some (.bool no) ∧ w1.cell? ⟨sb, 2, none⟩ = some (.int .i64 l) ∧ w1.cell? ⟨sb, 3, none⟩ = some (.int .i64 h) ∧ w1.cell? ⟨sb, 4, none⟩ = some (.int .i64 f) ∧ w1.cell? ⟨sb, 5, none⟩ = some (.int .i64 b) := ⟨dB.cell 0 rfl, dB.cell 1 rfl, dB.cell 2 rfl, hA1.cell 0 rfl, hA1.cell 1 rfl, hA1.cell 2 rfl, hA1.cell 3 rfl, hA1.cell 4 rfl, hA1.cell 5 rfl⟩
  have cS := fun w => spans_any k l h f b no hk3 w
  have hSp : ∀ s ∈ spansOf k no l h, s.1 < 2 ^ k ∧ s.2 < 2 ^ k := spansOf_lt hl hh
  have hSl : (spansOf k no l h).length ≤ 100 := spansOf_len
  clear dB
  go_region_held3 (fun w' => w'.cell? ⟨B, 0, none⟩ = some (.int .i64 k) ∧ w'.cell? ⟨B, 1, none⟩ = some (.int .i64 f) ∧ w'.cell? ⟨B, 2, none⟩ = some (.int .i64 b) ∧ w'.cell? ⟨sb, 0, none⟩ = some (.int .i64 k) ∧ w'.cell? ⟨sb, 1, none⟩ = some (.bool no) ∧ w'.cell? ⟨sb, 2, none⟩ = some (.int .i64 l) ∧ w'.cell? ⟨sb, 3, none⟩ = some (.int .i64 h) ∧ w'.cell? ⟨sb, 4, none⟩ = some (.int .i64 f) ∧ w'.cell? ⟨sb, 5, none⟩ = some (.int .i64 b))
    (first
      | exact hS9
      | exact keep9_below (by assumption) hbs
      | exact keep9_below (by assumption) hbl
      | exact keepS (by assumption) hBs hA1)
    (first
      | (go_at_call 159; (with_reducible refine (cS _).mono ?_); rintro e ws ⟨sv, hsrc, rfl, hbs⟩; replace hA1 := At.below' hbs hA1; replace hK1 := keeps_step hbs hK1 rfl rfl rfl rfl)
      | (go_at_call 158; refine (lay_any k f b _ _ ok hSp hSl _ hsrc).mono ?_; rintro e wl ⟨L, bl, hlaid, rfl, hlay, hbb, hbl⟩; replace hA1 := At.below' hbl hA1; replace hK1 := keeps_step hbl hK1 rfl rfl rfl rfl; have c9 : wl.cell? ⟨sb, 9, none⟩ = some (.pointer none) := hA1.cell 9 rfl; have f9 := hA1.free 9))
  have hA2 := hA1.set 9 (.pointer (some ⟨bl, 0, none⟩)) (by simp [setC])
  have hK2 := hK1.setCell 9 (.pointer (some ⟨bl, 0, none⟩))
  have hsz : w.heap.size ≤ ws.heap.size := by have h1 := hbs.size; have h2 := hBw.out; simp only [World.size_drew] at h1; omega
  have hsl : sb < w.heap.size := by have h2 := hBw.out; omega
  have hlay2 := (hlay.lower hsz).keepsOther ((Keeps.refl sb wl).setCell 9 (.pointer (some ⟨bl, 0, none⟩))) hsl
  clear hS9 cS
  go_end0
  exact ⟨bl, rfl, hA2, ⟨L, hlaid, hlay2⟩, hK2⟩
end Go.Proofs.YtblahbmhbfcggaaGreatDoor

/- sync.Once's asking, one goroutine: a set that a call was handed, laid out once. -/
namespace Go.Proofs.YtblahbmhbfcggaaGreatDoor
open Go.ChangeShapes Go.WideShapes Go.ChangeAt Go.RowKit Go.Joins Go.Deep
set_option linter.unusedVariables false

theorem disable (w : World) : (callFunc 205 #[]).run Tryz.prog w = .ok (.value (.tuple #[])) w := run_call_mark0 Tryz.func205 (by kernel_rfl) (by kernel_rfl) (by kernel_rfl) .disable (by kernel_rfl) w
theorem enable (w : World) : (callFunc 206 #[]).run Tryz.prog w = .ok (.value (.tuple #[])) w := run_call_mark0 Tryz.func206 (by kernel_rfl) (by kernel_rfl) (by kernel_rfl) .enable (by kernel_rfl) w
theorem acquire (a : Addr) (w : World) : (callFunc 207 #[.pointer (some a)]).run Tryz.prog w = .ok (.value (.tuple #[])) w := run_call_marked Tryz.func207 (by kernel_rfl) (by kernel_rfl) (by kernel_rfl) .acquire (by kernel_rfl) a w
theorem releaseMerge (a : Addr) (w : World) : (callFunc 209 #[.pointer (some a)]).run Tryz.prog w = .ok (.value (.tuple #[])) w := run_call_marked Tryz.func209 (by kernel_rfl) (by kernel_rfl) (by kernel_rfl) .releaseMerge (by kernel_rfl) a w

theorem store_deferred (a : Addr) (x : Value) (u : FrameMode) (w : World) (hc : w.cell? a = some x) (hz : w.frozen? a = false) :
    CallsD Tryz.prog 169 #[.pointer (some a), .bool true] u w fun e u' w' => u' = u ∧ (e = .returned (.tuple #[]) ∧ w' = w.drew.setCell a (.int .u32 1)) := by
  have hc' : w.drew.cell? a = some x := by go_simp
  have hz' : w.drew.frozen? a = false := by go_simp
  have hst := run_call_store (P := Tryz.prog) Tryz.func193 (by kernel_rfl) (by kernel_rfl) (by kernel_rfl) (by kernel_rfl) (k := .u32) (y := 1) hc' hz'
  go_enter_d Tryz.func169, Tryz.ntmps169
  go_wp2
  go_region_calls
  all_goals (go_end0; exact ⟨rfl, rfl⟩)

set_option maxRecDepth 100000 in
theorem unlock_deferred (a : Addr) (u : FrameMode) (w : World) (hc : w.cell? a = some (.int .i32 1)) (hz : w.frozen? a = false) :
    CallsD Tryz.prog 168 #[.pointer (some a)] u w fun e u' w' => u' = u ∧ (e = .returned (.tuple #[]) ∧ w' = w.setCell a (.int .i32 0)) := by
  have hd := disable
  have he := enable
  have hr := releaseMerge
  have hadd := run_call_add (P := Tryz.prog) Tryz.func210 (by kernel_rfl) (by kernel_rfl) (by kernel_rfl) .i32 (by kernel_rfl) (y := -1) (s := 0) hc hz (by simp [go_sem]; rfl)
  have hcv := run_convert_to_unsafe (P := Tryz.prog) (src := 205) (dst := 207) Tryz.underlying205 Tryz.underlying207 (by kernel_rfl) hc
  go_enter_d Tryz.func168, Tryz.ntmps168
  go_wp2
  go_end0
  go_wp2
  go_end0
  exact ⟨rfl, rfl⟩

set_option maxRecDepth 100000 in
theorem lock_free (a : Addr) (w : World) (hc : w.cell? a = some (.int .i32 0)) (hz : w.frozen? a = false) :
    Calls Tryz.prog 167 #[.pointer (some a)] w fun e w' => e = .returned (.tuple #[]) ∧ w' = w.setCell a (.int .i32 1) := by
  have hd := disable
  have he := enable
  have ha := acquire
  have hcas := run_call_cas_hit (P := Tryz.prog) Tryz.func182 (by kernel_rfl) (by kernel_rfl) (by kernel_rfl) .i32 (by kernel_rfl) (y := 1) hc hz
  have hc' : (w.setCell a (.int .i32 1)).cell? a = some (.int .i32 1) := World.cell?_setCell_same w a _ hc
  have hcv := run_convert_to_unsafe (P := Tryz.prog) (src := 205) (dst := 207) Tryz.underlying205 Tryz.underlying207 (by kernel_rfl) hc'
  go_enter Tryz.func167, Tryz.ntmps167
  go_wp2
  first | go_end0 | (simp only [Exit.inBlock, Exit.then]; refine bodyPost_ret (results_none rfl _ _ _) rfl ?_) | refine bodyPost_ret (results_none rfl _ _ _) rfl ?_
  go_wp2
  go_end0
  exact ⟨rfl, rfl⟩


/-- a set that may be, or none -/
structure ValOk (k : Nat) (no : Bool) (l h f b : Nat) : Prop where
  pat : PatOk k f b
  hl : l < 2 ^ k
  hh : h < 2 ^ k
/-- a set in memory, laid out or not yet -/
def SetNew (w : World) (sb k : Nat) (no : Bool) (l h f b : Nat) : Prop := At w sb (setC k no l h f b 0 0 none) 150
def SetLaid (w : World) (sb lo bl k : Nat) (no : Bool) (l h f b : Nat) : Prop := At w sb (setC k no l h f b 1 0 (some ⟨bl, 0, none⟩)) 150 ∧ LaidSet w lo bl k no l h f b ∧ sb < lo
def DoPost (sb lo k : Nat) (no : Bool) (l h f b : Nat) (w : World) (e : Ending) (w' : World) : Prop :=
  ∃ bl, e = .returned (.tuple #[]) ∧ SetLaid w' sb lo bl k no l h f b ∧ Keeps sb w w'
theorem LaidSet.keeps {w w' : World} {lo bl sb k : Nat} {no : Bool} {l h f b : Nat} (hL : LaidSet w lo bl k no l h f b) (hk : Keeps sb w w') (hs : sb < lo) : LaidSet w' lo bl k no l h f b := by
  obtain ⟨L, h1, h2⟩ := hL
  exact ⟨L, h1, h2.keepsOther hk hs⟩

set_option maxRecDepth 100000 in
set_option maxHeartbeats 3200000 in
theorem slow_any (sb k : Nat) (no : Bool) (l h f b : Nat) (ok : ValOk k no l h f b) (w : World) (hA : SetNew w sb k no l h f b) :
    Calls Tryz.prog 137 #[.pointer (some ⟨sb, 6, none⟩), .func (.func 126) #[.pointer (some ⟨sb, 0, none⟩)] #[]] w (DoPost sb w.heap.size k no l h f b w) := by
  have hlt := At.lt hA
  have k1 : At (w.setCell ⟨sb, 7, none⟩ (.int .i32 1)) sb (setC k no l h f b 0 1 none) 150 := At.set hA 7 (.int .i32 1) (by simp [setC])
  have hK1 : Keeps sb w (w.setCell ⟨sb, 7, none⟩ (.int .i32 1)) := (Keeps.refl sb w).setCell 7 _
  have hl := run_call_load (P := Tryz.prog) Tryz.func166 (by kernel_rfl) (by kernel_rfl) (by kernel_rfl) .u32 (by kernel_rfl) (w := w.setCell ⟨sb, 7, none⟩ (.int .i32 1)) (a := ⟨sb, 6, none⟩) (x := 0) (k1.cell 6 rfl)
  have hnot : ∀ (x : Bool) (w : World), (Op.unary .not (.bool x)).run Tryz.prog w = .ok (.bool (!x)) w := fun _ _ => rfl
  have c7 : w.cell? ⟨sb, 7, none⟩ = some (.int .i32 0) := At.cell hA 7 rfl
  have f7 := At.free hA 7
  have cM := setlay_any sb k no l h f b 0 1 ok.pat ok.hl ok.hh _ k1
  go_enter_defers Tryz.func137, Tryz.ntmps137
  go_wp2_with (first | (go_at_call 167; refine (lock_free ⟨sb, 7, none⟩ _ (by go_simp) (by go_simp)).mono ?_; rintro e w' ⟨rfl, rfl⟩) | (go_at_call 136; go_in) | (go_at_call 126; refine cM.mono ?_; rintro e w' ⟨bl, rfl, m1, mL, m2⟩))
  refine leaves_cons (f := 169) (args := #[.pointer (some ⟨sb, 6, none⟩), .bool true]) (by simp) (by simp [go_sem]) ?_
  refine (store_deferred ⟨sb, 6, none⟩ (.int .u32 0) .returning _ (m1.cell 6 rfl) (m1.free 6)).mono ?_
  rintro e u' w'' ⟨rfl, rfl, rfl⟩
  have n1 : At (w'.drew.setCell ⟨sb, 6, none⟩ (.int .u32 1)) sb (setC k no l h f b 1 1 (some ⟨bl, 0, none⟩)) 150 := m1.drew.set 6 (.int .u32 1) (by simp [setC])
  have n2 : Keeps sb w (w'.drew.setCell ⟨sb, 6, none⟩ (.int .u32 1)) := ((hK1.trans m2).drew).setCell 6 _
  have n3 : Keeps sb w' (w'.drew.setCell ⟨sb, 6, none⟩ (.int .u32 1)) := (Keeps.refl sb w').drew.setCell 6 _
  generalize w'.drew.setCell ⟨sb, 6, none⟩ (.int .u32 1) = w2 at n1 n2 n3 ⊢
  refine leaves_cons (f := 168) (args := #[.pointer (some ⟨sb, 7, none⟩)]) (by simp [settle]) (by simp [go_sem]) ?_
  refine (unlock_deferred ⟨sb, 7, none⟩ _ _ (n1.cell 7 rfl) (n1.free 7)).mono ?_
  rintro e u' w'' ⟨rfl, rfl, rfl⟩
  have o1 : At (w2.setCell ⟨sb, 7, none⟩ (.int .i32 0)) sb (setC k no l h f b 1 0 (some ⟨bl, 0, none⟩)) 150 := n1.set 7 (.int .i32 0) (by simp [setC])
  have o2 : Keeps sb w (w2.setCell ⟨sb, 7, none⟩ (.int .i32 0)) := n2.setCell 7 _
  have o3 : Keeps sb w' (w2.setCell ⟨sb, 7, none⟩ (.int .i32 0)) := n3.setCell 7 _
  generalize w2.setCell ⟨sb, 7, none⟩ (.int .i32 0) = w3 at o1 o2 o3 ⊢
  have hsz : (w.setCell ⟨sb, 7, none⟩ (.int .i32 1)).heap.size = w.heap.size := setCell_size _ _ _
  rw [hsz] at mL
  have fin : DoPost sb w.heap.size k no l h f b w (.returned (.tuple #[])) w3 := ⟨bl, rfl, ⟨o1, mL.keeps o3 hlt, hlt⟩, o2⟩
  simpa [Leaves, settle, results, Tryz.results137] using fin

set_option maxRecDepth 100000 in
set_option maxHeartbeats 1600000 in
theorem do_first (sb k : Nat) (no : Bool) (l h f b : Nat) (ok : ValOk k no l h f b) (w : World) (hA : SetNew w sb k no l h f b) :
    Calls Tryz.prog 99 #[.pointer (some ⟨sb, 6, none⟩), .func (.func 126) #[.pointer (some ⟨sb, 0, none⟩)] #[]] w (DoPost sb w.heap.size k no l h f b w) := by
  have hl := run_call_load (P := Tryz.prog) Tryz.func166 (by kernel_rfl) (by kernel_rfl) (by kernel_rfl) .u32 (by kernel_rfl) (w := w) (a := ⟨sb, 6, none⟩) (x := 0) (At.cell hA 6 rfl)
  have hnot : ∀ (x : Bool) (w : World), (Op.unary .not (.bool x)).run Tryz.prog w = .ok (.bool (!x)) w := fun _ _ => rfl
  go_enter Tryz.func99, Tryz.ntmps99
  go_wp2_with (first | (go_at_call 137; refine (slow_any sb k no l h f b ok _ hA).mono ?_; rintro e w' ⟨bl, rfl, m1, m2⟩) | (go_at_call 136; go_in))
  go_end0
  exact ⟨bl, rfl, m1, m2⟩
set_option maxRecDepth 100000 in
set_option maxHeartbeats 1600000 in
theorem do_again (sb lo bl k : Nat) (no : Bool) (l h f b : Nat) (v : Value) (w : World) (hA : SetLaid w sb lo bl k no l h f b) :
    Calls Tryz.prog 99 #[.pointer (some ⟨sb, 6, none⟩), v] w fun e w' => e = .returned (.tuple #[]) ∧ w = w' := by
  have hl := run_call_load (P := Tryz.prog) Tryz.func166 (by kernel_rfl) (by kernel_rfl) (by kernel_rfl) .u32 (by kernel_rfl) (w := w) (a := ⟨sb, 6, none⟩) (x := 1) (At.cell hA.1 6 rfl)
  have hnot : ∀ (x : Bool) (w : World), (Op.unary .not (.bool x)).run Tryz.prog w = .ok (.bool (!x)) w := fun _ _ => rfl
  go_enter Tryz.func99, Tryz.ntmps99
  go_wp2_with ((go_at_call 136; go_in))
  first | go_end0 | (simp only [Exit.inBlock, Exit.then]; refine bodyPost_ret (results_none rfl _ _ _) rfl ?_) | refine bodyPost_ret (results_none rfl _ _ _) rfl ?_
  exact ⟨rfl, rfl⟩

/-- the layout, asked for -/
def LayoutPost (sb lo k : Nat) (no : Bool) (l h f b : Nat) (w : World) (e : Ending) (w' : World) : Prop :=
  ∃ bl, e = .returned (.pointer (some ⟨bl, 0, none⟩)) ∧ SetLaid w' sb lo bl k no l h f b ∧ Keeps sb w w'
set_option maxRecDepth 100000 in
set_option maxHeartbeats 800000 in
theorem layout_first (sb k : Nat) (no : Bool) (l h f b : Nat) (ok : ValOk k no l h f b) (w : World) (hA : SetNew w sb k no l h f b) :
    Calls Tryz.prog 90 #[.pointer (some ⟨sb, 0, none⟩)] w (LayoutPost sb w.heap.size k no l h f b w) := by
  have hmf : ∀ (fn : Fn) (first cap : Array Value) (w : World), (Instr.makeFunc fn first cap).run Tryz.prog w = .ok (.func fn first cap) w := fun _ _ _ _ => rfl
  go_enter Tryz.func90, Tryz.ntmps90
  go_wp2_with (go_at_call 99; refine (do_first sb k no l h f b ok _ hA).mono ?_; rintro e w' ⟨bl, rfl, m1, m2⟩; have c9 : w'.cell? ⟨sb, 9, none⟩ = some (.pointer (some ⟨bl, 0, none⟩)) := m1.1.cell 9 rfl)
  go_ret
  exact ⟨bl, rfl, m1, m2⟩
set_option maxRecDepth 100000 in
set_option maxHeartbeats 800000 in
theorem layout_again (sb lo bl k : Nat) (no : Bool) (l h f b : Nat) (w : World) (hA : SetLaid w sb lo bl k no l h f b) :
    Calls Tryz.prog 90 #[.pointer (some ⟨sb, 0, none⟩)] w fun e w' => e = .returned (.pointer (some ⟨bl, 0, none⟩)) ∧ w = w' := by
  have hmf : ∀ (fn : Fn) (first cap : Array Value) (w : World), (Instr.makeFunc fn first cap).run Tryz.prog w = .ok (.func fn first cap) w := fun _ _ _ _ => rfl
  have c9 : w.cell? ⟨sb, 9, none⟩ = some (.pointer (some ⟨bl, 0, none⟩)) := hA.1.cell 9 rfl
  go_enter Tryz.func90, Tryz.ntmps90
  go_wp2_with (go_at_call 99; refine (do_again sb lo bl k no l h f b _ _ hA).mono ?_; rintro e w' ⟨rfl, rfl⟩)
  go_ret
  exact ⟨rfl, rfl⟩
end Go.Proofs.YtblahbmhbfcggaaGreatDoor
