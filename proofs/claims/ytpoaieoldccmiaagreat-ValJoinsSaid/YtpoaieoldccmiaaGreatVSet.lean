/- Package val: a set that a call was handed: its spans, laid out once. -/
import Derived.Test.YtpoaieoldccmiaaGreatVLay
namespace Go.Proofs.YtpoaieoldccmiaaGreat
open Go.ChangeShapes Go.WideShapes Go.ChangeAt Go.RowKit Go.Joins Go.Deep
set_option linter.unusedVariables false

theorem keep9_below {w w' : World} {p0 p1 p2 p3 p4 p5 p6 p7 p8 : Addr} {v0 v1 v2 v3 v4 v5 v6 v7 v8 : Value} (h : w.cell? p0 = some v0 ∧ w.cell? p1 = some v1 ∧ w.cell? p2 = some v2 ∧ w.cell? p3 = some v3 ∧ w.cell? p4 = some v4 ∧ w.cell? p5 = some v5 ∧ w.cell? p6 = some v6 ∧ w.cell? p7 = some v7 ∧ w.cell? p8 = some v8) (hb : Below w.heap.size w w') : w'.cell? p0 = some v0 ∧ w'.cell? p1 = some v1 ∧ w'.cell? p2 = some v2 ∧ w'.cell? p3 = some v3 ∧ w'.cell? p4 = some v4 ∧ w'.cell? p5 = some v5 ∧ w'.cell? p6 = some v6 ∧ w'.cell? p7 = some v7 ∧ w'.cell? p8 = some v8 := ⟨cell_below (h.1) hb, cell_below (h.2.1) hb, cell_below (h.2.2.1) hb, cell_below (h.2.2.2.1) hb, cell_below (h.2.2.2.2.1) hb, cell_below (h.2.2.2.2.2.1) hb, cell_below (h.2.2.2.2.2.2.1) hb, cell_below (h.2.2.2.2.2.2.2.1) hb, cell_below (h.2.2.2.2.2.2.2.2) hb⟩
theorem keep9_alloc {w : World} {p0 p1 p2 p3 p4 p5 p6 p7 p8 : Addr} {v0 v1 v2 v3 v4 v5 v6 v7 v8 : Value} (h : w.cell? p0 = some v0 ∧ w.cell? p1 = some v1 ∧ w.cell? p2 = some v2 ∧ w.cell? p3 = some v3 ∧ w.cell? p4 = some v4 ∧ w.cell? p5 = some v5 ∧ w.cell? p6 = some v6 ∧ w.cell? p7 = some v7 ∧ w.cell? p8 = some v8) (o : Obj) : (w.alloc o).cell? p0 = some v0 ∧ (w.alloc o).cell? p1 = some v1 ∧ (w.alloc o).cell? p2 = some v2 ∧ (w.alloc o).cell? p3 = some v3 ∧ (w.alloc o).cell? p4 = some v4 ∧ (w.alloc o).cell? p5 = some v5 ∧ (w.alloc o).cell? p6 = some v6 ∧ (w.alloc o).cell? p7 = some v7 ∧ (w.alloc o).cell? p8 = some v8 := ⟨cell_alloc (h.1) o, cell_alloc (h.2.1) o, cell_alloc (h.2.2.1) o, cell_alloc (h.2.2.2.1) o, cell_alloc (h.2.2.2.2.1) o, cell_alloc (h.2.2.2.2.2.1) o, cell_alloc (h.2.2.2.2.2.2.1) o, cell_alloc (h.2.2.2.2.2.2.2.1) o, cell_alloc (h.2.2.2.2.2.2.2.2) o⟩

def spansOf (k : Nat) (no : Bool) (l h : Nat) : Spans := if no = true then [] else if l ≤ h then [(l, h)] else [(0, h), (l, 2 ^ k - 1)]
def SpansPost (S : Spans) (w : World) (e : Ending) (w' : World) : Prop := ∃ sv, SrcV w' sv S ∧ e = .returned sv ∧ Below w.heap.size w w'
set_option maxRecDepth 100000 in
theorem spans_no (k l h f b : Int) (w : World) :
    Calls Tryz.prog 61 #[valV k true l h f b] w (SpansPost [] w) := by
  go_enter Tryz.func61, Tryz.ntmps61
  go_wp2
  go_ret
  exact ⟨_, ⟨none, 0, rfl, Or.inl rfl⟩, rfl, (Below.refl _ _).alloc (Nat.le_refl _) _⟩
theorem src_one {w : World} {g c l h : Nat} (hA : At w g #[.int .i64 l, .int .i64 h] 93) : SrcV w (.slice (some ⟨g, 0, none⟩) 1 c) [(l, h)] :=
  ⟨_, c, rfl, Or.inr ⟨g, rfl, fun i hi => by
    obtain rfl : i = 0 := by simp at hi; omega
    exact ⟨hA.cell 0 rfl, hA.cell 1 rfl⟩⟩⟩
theorem src_two {w : World} {g c l h l2 h2 : Nat} (hA : At w g #[.int .i64 l, .int .i64 h, .int .i64 l2, .int .i64 h2] 93) : SrcV w (.slice (some ⟨g, 0, none⟩) 2 c) [(l, h), (l2, h2)] :=
  ⟨_, c, rfl, Or.inr ⟨g, rfl, fun i hi => by
    obtain rfl | rfl : i = 0 ∨ i = 1 := by simp at hi; omega
    · exact ⟨hA.cell 0 rfl, hA.cell 1 rfl⟩
    · exact ⟨hA.cell 2 rfl, hA.cell 3 rfl⟩⟩⟩
set_option maxRecDepth 100000 in
theorem spans_plain (k l h f b : Nat) (hl : l ≤ h) (w : World) :
    Calls Tryz.prog 61 #[valV k false l h f b] w (SpansPost [(l, h)] w) := by
  have t0 : decide (l ≤ h) = true := by simpa using hl
  have dN := At.new (w.alloc (.cells #[.int .i64 k, .bool false, .int .i64 l, .int .i64 h, .int .i64 f, .int .i64 b] 28)) #[.int .i64 l, .int .i64 h] 93
  simp only [World.size_alloc] at dN
  go_enter Tryz.func61, Tryz.ntmps61
  go_wp2
  go_ret
  exact ⟨_, src_one dN, rfl, ((Below.refl _ _).alloc (Nat.le_refl _) _).alloc (by simp) _⟩
set_option maxRecDepth 100000 in
set_option maxHeartbeats 800000 in
theorem spans_over (k l h f b : Nat) (hl : ¬ l ≤ h) (hk : k ≤ 32) (w : World) :
    Calls Tryz.prog 61 #[valV k false l h f b] w (SpansPost [(0, h), (l, 2 ^ k - 1)] w) := by
  have t0 : decide (l ≤ h) = false := by simpa using hl
  have e1 := one_pred k (by omega)
  have e0 := one_shl k (by omega)
  obtain ⟨tp, htp⟩ : ∃ tp, tp = 2 ^ k - 1 := ⟨_, rfl⟩
  have e3 : wrap64 (wrap64 (2 ^ k) - 1) = (tp : Nat) := by rw [e0, htp]; simpa using e1
  have e2 : IntKind.i64.wrap (IntKind.i64.wrap (2 ^ k) - 1) = (tp : Nat) := by simpa only [wrap64, IntKind.wrap_i64] using e3
  rw [← htp]
  clear htp e1 e0
  have dN := (At.new (w.alloc (.cells #[.int .i64 k, .bool false, .int .i64 l, .int .i64 h, .int .i64 f, .int .i64 b] 28)) #[.int .i64 0, .int .i64 h, .int .i64 l, .int .i64 tp] 93).drew
  simp only [World.size_alloc] at dN
  go_enter Tryz.func61, Tryz.ntmps61
  go_wp2
  go_region
  all_goals
    go_wp2_with fail
    go_ret
    exact ⟨_, src_two (l := 0) dN, rfl, (((Below.refl _ _).alloc (Nat.le_refl _) _).alloc (by simp) _).drew⟩
theorem spans_any (k l h f b : Nat) (no : Bool) (hk : k ≤ 32) (w : World) :
    Calls Tryz.prog 61 #[valV k no l h f b] w (SpansPost (spansOf k no l h) w) := by
  unfold spansOf
  cases no
  · by_cases hl : l ≤ h
    · simp only [Bool.false_eq_true, if_false, hl, if_true]; exact spans_plain k l h f b hl w
    · simp only [Bool.false_eq_true, if_false, hl]; exact spans_over k l h f b hl hk w
  · simp only [if_true]; exact spans_no k l h f b w

/-- a set that a call was handed, as it lies in memory -/
def setC (k : Int) (no : Bool) (l h f b dn st : Int) (p : Option Addr) : Array Value := #[.int .i64 k, .bool no, .int .i64 l, .int .i64 h, .int .i64 f, .int .i64 b, .int .u32 dn, .int .i32 st, .int .u32 0, .pointer p]
/-- what a set's layout is -/
def LaidSet (w : World) (lo bl k : Nat) (no : Bool) (l h f b : Nat) : Prop := ∃ L, Laid k f b (spansOf k no l h) L ∧ LayAt w lo bl k (narF f L) (narB f b L) L (sumR f L)
theorem spansOf_lt {k l h : Nat} {no : Bool} (hl : l < 2 ^ k) (hh : h < 2 ^ k) : ∀ s ∈ spansOf k no l h, s.1 < 2 ^ k ∧ s.2 < 2 ^ k := by
  intro s hs
  have h1 : 1 ≤ 2 ^ k := Nat.one_le_two_pow
  unfold spansOf at hs
  split at hs
  · simp at hs
  · split at hs
    · simp at hs; subst hs; exact ⟨hl, hh⟩
    · simp at hs
      rcases hs with rfl | rfl
      · exact ⟨by omega, hh⟩
      · exact ⟨hl, by omega⟩
theorem spansOf_len {k l h : Nat} {no : Bool} : (spansOf k no l h).length ≤ 100 := by
  unfold spansOf
  split
  · simp
  · split <;> simp
theorem keeps_step {bl : Nat} {a w1 w2 c : World} (hb : Below w2.heap.size w2 c) (h : Keeps bl a w1) (h1 : w2.os = w1.os) (h2 : w2.tape = w1.tape) (h3 : w2.output = w1.output) (h4 : w2.heap = w1.heap) : Keeps bl a c :=
  ⟨(hb.os.trans h1).trans h.os, (hb.tape.trans h2).trans h.tape, (hb.output.trans h3).trans h.output, by have := hb.size; have := h.size; rw [h4] at *; omega, fun i hi hn => by rw [hb.block i (by have := h.size; rw [h4]; omega), h4]; exact h.block i hi hn⟩
def SLayPost (sb k : Nat) (no : Bool) (l h f b : Nat) (dn st : Int) (w : World) (e : Ending) (w' : World) : Prop :=
  ∃ bl, e = .returned (.tuple #[]) ∧ At w' sb (setC k no l h f b dn st (some ⟨bl, 0, none⟩)) 64 ∧ LaidSet w' w.heap.size bl k no l h f b ∧ Keeps sb w w'

theorem keepS {w : World} {B sb : Nat} {k : Int} {no : Bool} {l h f b dn st : Int} {p : Option Addr} {x : Value} {T : TypeId} (hh : w.cell? ⟨B, 0, none⟩ = some (.int .i64 k) ∧ w.cell? ⟨B, 1, none⟩ = some (.int .i64 f) ∧ w.cell? ⟨B, 2, none⟩ = some (.int .i64 b) ∧ w.cell? ⟨sb, 0, none⟩ = some (.int .i64 k) ∧ w.cell? ⟨sb, 1, none⟩ = some (.bool no) ∧ w.cell? ⟨sb, 2, none⟩ = some (.int .i64 l) ∧ w.cell? ⟨sb, 3, none⟩ = some (.int .i64 h) ∧ w.cell? ⟨sb, 4, none⟩ = some (.int .i64 f) ∧ w.cell? ⟨sb, 5, none⟩ = some (.int .i64 b)) (hne : B ≠ sb) (hA : At w sb (setC k no l h f b dn st p) T) : (w.setCell ⟨sb, 9, none⟩ x).cell? ⟨B, 0, none⟩ = some (.int .i64 k) ∧ (w.setCell ⟨sb, 9, none⟩ x).cell? ⟨B, 1, none⟩ = some (.int .i64 f) ∧ (w.setCell ⟨sb, 9, none⟩ x).cell? ⟨B, 2, none⟩ = some (.int .i64 b) ∧ (w.setCell ⟨sb, 9, none⟩ x).cell? ⟨sb, 0, none⟩ = some (.int .i64 k) ∧ (w.setCell ⟨sb, 9, none⟩ x).cell? ⟨sb, 1, none⟩ = some (.bool no) ∧ (w.setCell ⟨sb, 9, none⟩ x).cell? ⟨sb, 2, none⟩ = some (.int .i64 l) ∧ (w.setCell ⟨sb, 9, none⟩ x).cell? ⟨sb, 3, none⟩ = some (.int .i64 h) ∧ (w.setCell ⟨sb, 9, none⟩ x).cell? ⟨sb, 4, none⟩ = some (.int .i64 f) ∧ (w.setCell ⟨sb, 9, none⟩ x).cell? ⟨sb, 5, none⟩ = some (.int .i64 b) :=
  ⟨cell_set hh.1 hne, cell_set hh.2.1 hne, cell_set hh.2.2.1 hne, (hA.set 9 x (by simp [setC])).cell 0 rfl, (hA.set 9 x (by simp [setC])).cell 1 rfl, (hA.set 9 x (by simp [setC])).cell 2 rfl, (hA.set 9 x (by simp [setC])).cell 3 rfl, (hA.set 9 x (by simp [setC])).cell 4 rfl, (hA.set 9 x (by simp [setC])).cell 5 rfl⟩

set_option maxRecDepth 100000 in
set_option maxHeartbeats 3200000 in
theorem setlay_any (sb k : Nat) (no : Bool) (l h f b : Nat) (dn st : Int) (ok : PatOk k f b) (hl : l < 2 ^ k) (hh : h < 2 ^ k) (w : World) (hA : At w sb (setC k no l h f b dn st none) 64) :
    Calls Tryz.prog 39 #[.pointer (some ⟨sb, 0, none⟩)] w (SLayPost sb k no l h f b dn st w) := by
  have c0 : w.cell? ⟨sb, 0, none⟩ = some (.int .i64 k) := hA.cell 0 rfl
  have c4 : w.cell? ⟨sb, 4, none⟩ = some (.int .i64 f) := hA.cell 4 rfl
  have c5 : w.cell? ⟨sb, 5, none⟩ = some (.int .i64 b) := hA.cell 5 rfl
  have hp := ok.hk.pow
  have hk3 := ok.hk.le
  have hlt := hA.lt
  go_enter Tryz.func39, Tryz.ntmps39
  go_wp2
  go_region
  have hA1 := (hA.alloc (.cells #[.int .i64 k, .int .i64 f, .int .i64 b] 81)).drew
  have dB := (At.new w #[.int .i64 k, .int .i64 f, .int .i64 b] 81).drew
  have hK1 : Keeps sb w (w.alloc (.cells #[.int .i64 k, .int .i64 f, .int .i64 b] 81)).drew := (Keeps.of_below ((Below.refl _ _).alloc (Nat.le_refl _) _)).drew
  have hs1 : w.heap.size + 1 ≤ (w.alloc (.cells #[.int .i64 k, .int .i64 f, .int .i64 b] 81)).drew.heap.size := by simp
  clear c0 c4 c5 hA
  go_wp2_with fail
  generalize (w.alloc (.cells #[.int .i64 k, .int .i64 f, .int .i64 b] 81)).drew = w1 at *
  obtain ⟨B, hB⟩ : ∃ B, B = w.heap.size := ⟨_, rfl⟩
  rw [← hB] at dB hs1 hlt ⊢
  have hBw := Lib.hid hB
  clear hB
  have hBs : B ≠ sb := by omega
  have hS9 : w1.cell? ⟨B, 0, none⟩ = some (.int .i64 k) ∧ w1.cell? ⟨B, 1, none⟩ = some (.int .i64 f) ∧ w1.cell? ⟨B, 2, none⟩ = some (.int .i64 b) ∧ w1.cell? ⟨sb, 0, none⟩ = some (.int .i64 k) ∧ w1.cell? ⟨sb, 1, none⟩ = some (.bool no) ∧ w1.cell? ⟨sb, 2, none⟩ = some (.int .i64 l) ∧ w1.cell? ⟨sb, 3, none⟩ = some (.int .i64 h) ∧ w1.cell? ⟨sb, 4, none⟩ = some (.int .i64 f) ∧ w1.cell? ⟨sb, 5, none⟩ = some (.int .i64 b) := ⟨dB.cell 0 rfl, dB.cell 1 rfl, dB.cell 2 rfl, hA1.cell 0 rfl, hA1.cell 1 rfl, hA1.cell 2 rfl, hA1.cell 3 rfl, hA1.cell 4 rfl, hA1.cell 5 rfl⟩
  have cS := fun w => spans_any k l h f b no hk3 w
  have hSp : ∀ s ∈ spansOf k no l h, s.1 < 2 ^ k ∧ s.2 < 2 ^ k := spansOf_lt hl hh
  have hSl : (spansOf k no l h).length ≤ 100 := spansOf_len
  clear dB
  go_region_held3 (fun w' => w'.cell? ⟨B, 0, none⟩ = some (.int .i64 k) ∧ w'.cell? ⟨B, 1, none⟩ = some (.int .i64 f) ∧ w'.cell? ⟨B, 2, none⟩ = some (.int .i64 b) ∧ w'.cell? ⟨sb, 0, none⟩ = some (.int .i64 k) ∧ w'.cell? ⟨sb, 1, none⟩ = some (.bool no) ∧ w'.cell? ⟨sb, 2, none⟩ = some (.int .i64 l) ∧ w'.cell? ⟨sb, 3, none⟩ = some (.int .i64 h) ∧ w'.cell? ⟨sb, 4, none⟩ = some (.int .i64 f) ∧ w'.cell? ⟨sb, 5, none⟩ = some (.int .i64 b))
    (first
      | exact hS9
      | exact keep9_below (by assumption) hbs
      | exact keep9_below (by assumption) hbl
      | exact keepS (by assumption) hBs hA1)
    (first
      | (go_at_call 61; (with_reducible refine (cS _).mono ?_); rintro e ws ⟨sv, hsrc, rfl, hbs⟩; replace hA1 := At.below' hbs hA1; replace hK1 := keeps_step hbs hK1 rfl rfl rfl rfl)
      | (go_at_call 36; refine (lay_any k f b _ _ ok hSp hSl _ hsrc).mono ?_; rintro e wl ⟨L, bl, hlaid, rfl, hlay, hbb, hbl⟩; replace hA1 := At.below' hbl hA1; replace hK1 := keeps_step hbl hK1 rfl rfl rfl rfl; have c9 : wl.cell? ⟨sb, 9, none⟩ = some (.pointer none) := hA1.cell 9 rfl; have f9 := hA1.free 9))
  have hA2 := hA1.set 9 (.pointer (some ⟨bl, 0, none⟩)) (by simp [setC])
  have hK2 := hK1.setCell 9 (.pointer (some ⟨bl, 0, none⟩))
  have hsz : w.heap.size ≤ ws.heap.size := by have h1 := hbs.size; have h2 := hBw.out; simp only [World.size_drew] at h1; omega
  have hsl : sb < w.heap.size := by have h2 := hBw.out; omega
  have hlay2 := (hlay.lower hsz).keepsOther ((Keeps.refl sb wl).setCell 9 (.pointer (some ⟨bl, 0, none⟩))) hsl
  clear hS9 cS
  go_end0
  exact ⟨bl, rfl, hA2, ⟨L, hlaid, hlay2⟩, hK2⟩
end Go.Proofs.YtpoaieoldccmiaaGreat
