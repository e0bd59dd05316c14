/- LexJoin: its fifth loop: what was joined has just these words. -/
import Derived.Test.YtkpiaenpjnajiaaGreatDoorLJM
namespace Go.Proofs.YtkpiaenpjnajiaaGreatDoor
open Go.ChangeShapes Go.WideShapes Go.ChangeAt Go.RowKit Go.Joins Go.Deep
set_option linter.unusedVariables false

def Fr5 (t : Array Value) (B : Nat) (v3 : Value) (i : Nat) (v16 : Value) : Prop := t.size = 184 ∧ sl t 1 = .pointer (some ⟨B, 0, none⟩) ∧ sl t 3 = v3 ∧ sl t 10 = .int .i64 (i : Nat) ∧ sl t 16 = v16
def Rel5 (B : Nat) (v3 : Value) (i : Nat) (v16 : Value) (nT : Nat) (w2 : World) (n : Nat) (a : Act) (wr : World) : Prop :=
  ∃ t k z, a = ⟨t, []⟩ ∧ Fr5 t B v3 i v16 ∧ sl t 19 = .int .i64 z ∧ z = (k : Nat) ∧ k + n = nT ∧ Below w2.heap.size w2 wr
set_option maxRecDepth 1000000 in
set_option maxHeartbeats 6400000 in
theorem jloop5 (B g3 m3 c3 i nL cL nT cT : Nat) (q qT : Option Addr) (L : List Txt) (T : List (List UInt8 × Nat)) (w2 : World) (hi : i < m3) (hci : w2.cell? ⟨g3, i, none⟩ = some (.slice q nL cL)) (hL : ListAt w2 (.slice q nL cL) L) (hnT : nT = T.length) (hT : IsToks w2 (.slice qT nT cT) T) (hTL : T.map (·.1) = L)
    (t : Array Value) (hF : Fr5 t B (.slice (some ⟨g3, 0, none⟩) m3 c3) i (.slice qT nT cT)) (f19 : sl t 19 = .int .i64 0) (Q : Exit → Act → World → Prop)
    (hQ : ∀ t w', Fr5 t B (.slice (some ⟨g3, 0, none⟩) m3 c3) i (.slice qT nT cT) → Below w2.heap.size w2 w' → Q (.exit 8) ⟨t, []⟩ w') :
    (Code.loop jBody5).wp Tryz.prog (NoPanic Q) ⟨t, []⟩ w2 := by
  obtain ⟨hTl, hcl⟩ : T.length ≤ 1000000 ∧ (0 < T.length → ∃ g, qT = some ⟨g, 0, none⟩ ∧ g < w2.heap.size ∧ T.length ≤ cT ∧ ∀ i, i < T.length → w2.cell? ⟨g, i * 2, none⟩ = some (.string ⟨(T.getD i tk0).1.toArray⟩) ∧ w2.cell? ⟨g, i * 2 + 1, none⟩ = some (.int .i64 ((T.getD i tk0).2 : Nat))) := by
    obtain ⟨q', cap', hv, h1, h2⟩ := hT
    injection hv with e1 e2 e3
    subst e1 e3
    exact ⟨h1, h2⟩
  have hnl : nL = nT := by
    obtain ⟨q', cap', hv, _⟩ := hL
    injection hv with e1 e2 e3
    rw [e2, hnT, ← hTL, List.length_map]
  have hgt : ∀ k, k < nT → L.getD k [] = (T.getD k tk0).1 := fun k hk => by
    rw [← hTL, List.getD_eq_getElem?_getD, List.getElem?_map, List.getElem?_eq_getElem (by rw [← hnT]; exact hk)]
    simp [List.getD, show k < T.length by rw [← hnT]; exact hk]
  rw [← hnT] at hTl hcl
  subst hnl
  refine wp_loop_ghost_k (Rel5 B (.slice (some ⟨g3, 0, none⟩) m3 c3) i (.slice qT nL cT) nL w2) nL ⟨t, 0, 0, rfl, hF, f19, rfl, by omega, Below.refl _ _⟩ ?_
  have HL := Lib.hid hL
  have HG := Lib.hid hgt
  clear hF f19 hL hgt hT hTL hnT
  intro n a wr hR iK iJv hJ hK
  clear t
  obtain ⟨t, k, z, rfl, ⟨f0, f1, f3, f10, f16⟩, f19, rfl, hkn, hb⟩ := hR
  rw [open_184 t f0]
  simp only [f1, f3, f10, f16, f19]
  clear f0 f1 f3 f10 f16 f19
  conv => arg 2; whnf
  by_cases hk1 : k < nL
  · have ci := cell_below hci hb
    have hi3 : (i : Int) < (m3 : Int) := by omega
    have t1 : decide ((k : Int) < (nL : Int)) = true := by simp; omega
    obtain ⟨-, g, rfl, ck⟩ := (HL.out.below hb).cell hk1
    obtain ⟨gT, rfl, hgT, hcap, hcell⟩ := hcl (by omega)
    have cT1 := cell_below (hcell k hk1).1 hb
    have e := HG.out k hk1
    unfold strV at ck
    rw [e] at ck
    generalize (⟨(T.getD k tk0).1.toArray⟩ : ByteArray) = x at *
    have hj3 : (k : Int) < (nL : Int) := by omega
    clear hcell hcl e HG hQ
    go_wp2_with fail
    go_quiet (fail)
    go_wp2_with fail
    refine Handed.intro (n - 1) (by omega) (hJ _ _ _ ⟨_, k + 1, _, rfl, ⟨rfl, rfl, rfl, rfl, rfl⟩, rfl, by omega, by omega, hb.trans (Joins.below_draws _ _ _)⟩)
  · have t1 : decide ((k : Int) < (nL : Int)) = false := by simp; omega
    clear hJ hcl
    go_wp2_with fail
    exact hQ _ _ ⟨rfl, rfl, rfl, rfl, rfl⟩ hb
end Go.Proofs.YtkpiaenpjnajiaaGreatDoor
