/- BytesGet: rows' outer loops: the kinds, the scalars. -/
import Derived.Test.YtnhbaigagphpmaaBG4
namespace Go.Proofs.Ytnhbaigagphpmaa
open Go.ChangeShapes Go.WideShapes Go.ChangeAt Go.RowKit Go.Joins Go.Deep
set_option linter.unusedVariables false

def FrC (t : Array Value) (v1 v2 v3 v9 : Value) : Prop := t.size = 145 ∧ sl t 1 = v1 ∧ sl t 2 = v2 ∧ sl t 3 = v3 ∧ sl t 9 = v9
def RelC (B n ga ma capa i M : Nat) (wb : World) (nn : Nat) (a : Act) (wr : World) : Prop :=
  ∃ t kd z X, a = ⟨t, []⟩ ∧ FrC t (.int .i64 (n : Nat)) (.slice (some ⟨ga, 0, none⟩) ma capa) (.pointer (some ⟨B, 0, none⟩)) (.int .i64 (i : Nat)) ∧ sl t 10 = .int .i64 z ∧ z = (kd : Nat) ∧ kd + nn = 8 ∧ 1 ≤ kd ∧ X.length ≤ M + 18 * (kd - 1) ∧ HRow wb.heap.size X (sl t 7) wr ∧ Below wb.heap.size wb wr
set_option maxRecDepth 1000000 in
set_option maxHeartbeats 12800000 in
theorem rloopC (B n ga ma capa i : Nat) (pa ps pb : Option Addr) (la ca ls cs lb cb : Nat) (ss : List SC) (bs : List BY) (fa : List (Bool × Int)) (M : Nat) (X0 : List HB) (wb w0 : World) (hbw0 : Below wb.heap.size wb w0) (hM : M ≤ 5000) (hma : ma ≤ 6) (hn : n = 1 ∨ n = 2 ∨ n = 4) (hi : i < ls) (hi2 : i < 10) (hlb : lb ≤ 300) (hD : RowsD wb B pa ps pb la ca ls cs lb cb ss bs ga ma fa)
    (t : Array Value) (hF : FrC t (.int .i64 (n : Nat)) (.slice (some ⟨ga, 0, none⟩) ma capa) (.pointer (some ⟨B, 0, none⟩)) (.int .i64 (i : Nat))) (fc : sl t 10 = .int .i64 1) (hX : X0.length ≤ M) (hR : HRow wb.heap.size X0 (sl t 7) w0) (Q : Exit → Act → World → Prop)
    (hQ : ∀ t w' X, FrC t (.int .i64 (n : Nat)) (.slice (some ⟨ga, 0, none⟩) ma capa) (.pointer (some ⟨B, 0, none⟩)) (.int .i64 (i : Nat)) → X.length ≤ M + 126 → HRow wb.heap.size X (sl t 7) w' → Below wb.heap.size wb w' → Q (.exit 4) ⟨t, []⟩ w') :
    (Code.loop rowsC).wp Try.prog (NoPanic Q) ⟨t, []⟩ w0 := by
  refine wp_loop_ghost_k (RelC B n ga ma capa i M wb) 7 ⟨t, 1, 1, X0, rfl, hF, fc, rfl, by omega, by omega, by omega, hR, hbw0⟩ ?_
  clear hF fc hX hR X0
  intro nn a wr hrel iK iJv hJ hK
  clear t hbw0
  obtain ⟨t, kd, z, X, rfl, ⟨f0, f1, f2, f3, f9⟩, fc, rfl, hkn, hk1, hXl, hrow, hbd⟩ := hrel
  rw [open_145 t f0]
  obtain ⟨v7, f7⟩ : ∃ v7, v7 = sl t 7 := ⟨_, rfl⟩
  rw [← f7] at hrow ⊢
  simp only [f1, f2, f3, f9, fc]
  clear f0 f1 f2 f3 f9 fc f7
  conv => arg 2; whnf
  by_cases hk7 : kd ≤ 7
  · have t1 : (kd : Int) ≤ 7 := by omega
    have HROW := Lib.hid hrow
    have HBD := Lib.hid hbd
    have HXL := Lib.hid hXl
    clear hrow hbd hXl hQ
    go_wp2_with fail
    refine noPanic_mono (rloopD B n ga ma capa i kd pa ps pb la ca ls cs lb cb ss bs fa (M + 18 * (kd - 1)) X wb wr HBD.out (by omega) hma hn hi hi2 (by omega) hlb hD _ ⟨rfl, rfl, rfl, rfl, rfl, rfl⟩ rfl HXL.out (by exact HROW.out) _ ?_)
    intro t2 w2 X2 hF hX2 hR2 hb2
    obtain ⟨f0, f1, f2, f3, f9, f10⟩ := hF
    rw [open_145 t2 f0]
    obtain ⟨v7', f7⟩ : ∃ v7, v7 = sl t2 7 := ⟨_, rfl⟩
    rw [← f7] at hR2 ⊢
    simp only [f1, f2, f3, f9, f10]
    clear f0 f1 f2 f3 f9 f10 f7
    have hX3 : X2.length ≤ M + 18 * (kd + 1 - 1) := by omega
    have HX3 := Lib.hid hX3
    clear hX2 hX3 HROW HBD HXL
    go_wp2_with fail
    refine Handed.intro (nn - 1) (by omega) (hJ _ _ _ ⟨_, kd + 1, _, X2, rfl, ⟨rfl, rfl, rfl, rfl, rfl⟩, rfl, (by go_num), by omega, by omega, HX3.out, hR2, hb2⟩)
  · have t1 : decide ((kd : Int) ≤ 7) = false := by simp; omega
    have hXb : X.length ≤ M + 126 := by omega
    clear hJ hXl
    go_wp2_with fail
    exact hQ _ _ X ⟨rfl, rfl, rfl, rfl, rfl⟩ hXb hrow hbd
def FrB (t : Array Value) (v1 v2 v3 : Value) : Prop := t.size = 145 ∧ sl t 1 = v1 ∧ sl t 2 = v2 ∧ sl t 3 = v3
def RelB (B n ga ma capa : Nat) (wb : World) (nn : Nat) (a : Act) (wr : World) : Prop :=
  ∃ t i z X, a = ⟨t, []⟩ ∧ FrB t (.int .i64 (n : Nat)) (.slice (some ⟨ga, 0, none⟩) ma capa) (.pointer (some ⟨B, 0, none⟩)) ∧ sl t 9 = .int .i64 z ∧ z = (i : Nat) ∧ i + nn = 10 ∧ X.length ≤ 10 + 126 * i ∧ HRow wb.heap.size X (sl t 7) wr ∧ Below wb.heap.size wb wr
set_option maxRecDepth 1000000 in
set_option maxHeartbeats 12800000 in
theorem rloopB (B n ga ma capa : Nat) (pa ps pb : Option Addr) (la ca ls cs lb cb : Nat) (ss : List SC) (bs : List BY) (fa : List (Bool × Int)) (X0 : List HB) (wb w0 : World) (hbw0 : Below wb.heap.size wb w0) (hma : ma ≤ 6) (hn : n = 1 ∨ n = 2 ∨ n = 4) (hlb : lb ≤ 300) (hD : RowsD wb B pa ps pb la ca ls cs lb cb ss bs ga ma fa)
    (t : Array Value) (hF : FrB t (.int .i64 (n : Nat)) (.slice (some ⟨ga, 0, none⟩) ma capa) (.pointer (some ⟨B, 0, none⟩))) (fc : sl t 9 = .int .i64 0) (hX : X0.length ≤ 10) (hR : HRow wb.heap.size X0 (sl t 7) w0) (Q : Exit → Act → World → Prop)
    (hQ : ∀ t w' X, FrB t (.int .i64 (n : Nat)) (.slice (some ⟨ga, 0, none⟩) ma capa) (.pointer (some ⟨B, 0, none⟩)) → X.length ≤ 1270 → HRow wb.heap.size X (sl t 7) w' → Below wb.heap.size wb w' → Q (.exit 2) ⟨t, []⟩ w') :
    (Code.loop rowsB).wp Try.prog (NoPanic Q) ⟨t, []⟩ w0 := by
  refine wp_loop_ghost_k (RelB B n ga ma capa wb) 10 ⟨t, 0, 0, X0, rfl, hF, fc, rfl, by omega, by omega, hR, hbw0⟩ ?_
  clear hF fc hX hR X0
  intro nn a wr hrel iK iJv hJ hK
  clear t hbw0
  obtain ⟨t, i, z, X, rfl, ⟨f0, f1, f2, f3⟩, fc, rfl, hkn, hXl, hrow, hbd⟩ := hrel
  rw [open_145 t f0]
  obtain ⟨v7, f7⟩ : ∃ v7, v7 = sl t 7 := ⟨_, rfl⟩
  rw [← f7] at hrow ⊢
  simp only [f1, f2, f3, fc]
  clear f0 f1 f2 f3 fc f7
  conv => arg 2; whnf
  have c1 : wr.cell? ⟨B, 1, none⟩ = some (.slice ps ls cs) := (hD.below hbd).1.cell 1 rfl
  have hcase : (i < ls ∧ i < 10) ∨ ¬ i < ls ∨ (i < ls ∧ ¬ i < 10) := by omega
  rcases hcase with ⟨h1, h2⟩ | h1 | ⟨h1, h2⟩
  · have t1 : (i : Int) < (ls : Int) := by omega
    have t2 : (i : Int) < 10 := by omega
    have HROW := Lib.hid hrow
    have HBD := Lib.hid hbd
    have HXL := Lib.hid hXl
    clear hrow hbd hXl hQ
    go_wp2_with fail
    refine noPanic_mono (rloopC B n ga ma capa i pa ps pb la ca ls cs lb cb ss bs fa (10 + 126 * i) X wb wr HBD.out (by omega) hma hn h1 h2 hlb hD _ ⟨rfl, rfl, rfl, rfl, rfl⟩ rfl HXL.out (by exact HROW.out) _ ?_)
    intro t2 w2 X2 hF hX2 hR2 hb2
    obtain ⟨f0, f1, f2, f3, f9⟩ := hF
    rw [open_145 t2 f0]
    obtain ⟨v7', f7⟩ : ∃ v7, v7 = sl t2 7 := ⟨_, rfl⟩
    rw [← f7] at hR2 ⊢
    simp only [f1, f2, f3, f9]
    clear f0 f1 f2 f3 f9 f7
    have hX3 : X2.length ≤ 10 + 126 * (i + 1) := by omega
    have HX3 := Lib.hid hX3
    clear hX2 hX3 HROW HBD HXL c1
    go_wp2_with fail
    refine Handed.intro (nn - 1) (by omega) (hJ _ _ _ ⟨_, i + 1, _, X2, rfl, ⟨rfl, rfl, rfl, rfl⟩, rfl, (by go_num), by omega, HX3.out, hR2, hb2⟩)
  · have t1 : decide ((i : Int) < (ls : Int)) = false := by simp; omega
    have hXb : X.length ≤ 1270 := by omega
    clear hJ hXl
    go_wp2_with fail
    exact hQ _ _ X ⟨rfl, rfl, rfl, rfl⟩ hXb hrow hbd
  · have t1 : (i : Int) < (ls : Int) := by omega
    have t2 : decide ((i : Int) < 10) = false := by simp; omega
    have hXb : X.length ≤ 1270 := by omega
    clear hJ hXl
    go_wp2_with fail
    exact hQ _ _ X ⟨rfl, rfl, rfl, rfl⟩ hXb hrow hbd
end Go.Proofs.Ytnhbaigagphpmaa
