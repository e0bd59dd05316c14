/- LexJoin: its second loop: a list of words' texts. -/
import Derived.Test.YtkpiaenpjnajiaaGreatDoorLJM
namespace Go.Proofs.YtkpiaenpjnajiaaGreatDoor
open Go.ChangeShapes Go.WideShapes Go.ChangeAt Go.RowKit Go.Joins Go.Deep
set_option linter.unusedVariables false

/-- the frame where loop 2 stands -/
def Fr2 (t : Array Value) (B : Nat) (v3 v4 v5 : Value) : Prop := t.size = 184 ∧ sl t 1 = .pointer (some ⟨B, 0, none⟩) ∧ sl t 3 = v3 ∧ sl t 4 = v4 ∧ sl t 5 = v5
def Rel2 (B : Nat) (v3 v4 v5 : Value) (T : List (List UInt8 × Nat)) (w2 : World) (n : Nat) (a : Act) (wr : World) : Prop :=
  ∃ t k z v8, a = ⟨t, []⟩ ∧ Fr2 t B v3 v4 v5 ∧ sl t 8 = v8 ∧ sl t 9 = .int .i64 z ∧ z = (k : Nat) ∧ k ≤ T.length ∧ k ≤ 60 ∧ k + n = 60 ∧ RowS w2.heap.size ((T.map (·.1)).take k) v8 wr ∧ Below w2.heap.size w2 wr
set_option maxRecDepth 1000000 in
set_option maxHeartbeats 6400000 in
theorem jloop2 (B : Nat) (v3 v4 : Value) (q : Option Addr) (nT cap : Nat) (T : List (List UInt8 × Nat)) (w2 : World) (hnT : nT = T.length) (hI : IsToks w2 (.slice q nT cap) T) (hTx : ∀ t ∈ T, t.1.length ≤ 7000)
    (t : Array Value) (hF : Fr2 t B v3 v4 (.slice q nT cap)) (f8 : sl t 8 = .slice none 0 0) (f9 : sl t 9 = .int .i64 0) (Q : Exit → Act → World → Prop)
    (hQ : ∀ t w' v8, Fr2 t B v3 v4 (.slice q nT cap) → sl t 8 = v8 → RowS w2.heap.size ((T.map (·.1)).take 60) v8 w' → Below w2.heap.size w2 w' → Q (.exit 2) ⟨t, []⟩ w') :
    (Code.loop jBody2).wp Tryz.prog (NoPanic Q) ⟨t, []⟩ w2 := by
  refine wp_loop_ghost_k (Rel2 B v3 v4 (.slice q nT cap) T w2) 60 ⟨t, 0, 0, _, rfl, hF, f8, f9, rfl, Nat.zero_le _, by omega, by omega, RowS.nil _ _, Below.refl _ _⟩ ?_
  clear hF f8 f9
  intro n a wr hR iK iJv hJ hK
  clear t
  obtain ⟨t, k, z, v8, rfl, ⟨f0, f1, f3, f4, f5⟩, f8, f9, rfl, hkT, hk60, hkn, hRS, hb⟩ := hR
  rw [open_184 t f0]
  simp only [f1, f3, f4, f5, f8, f9]
  clear f0 f1 f3 f4 f5 f8 f9
  conv => arg 2; whnf
  obtain ⟨hTl, hcl⟩ : T.length ≤ 1000000 ∧ (0 < T.length → ∃ g, q = some ⟨g, 0, none⟩ ∧ g < w2.heap.size ∧ T.length ≤ cap ∧ ∀ i, i < T.length → w2.cell? ⟨g, i * 2, none⟩ = some (.string ⟨(T.getD i tk0).1.toArray⟩) ∧ w2.cell? ⟨g, i * 2 + 1, none⟩ = some (.int .i64 ((T.getD i tk0).2 : Nat))) := by
    obtain ⟨q', cap', hv, h1, h2⟩ := hI
    injection hv with e1 e2 e3
    subst e1 e3
    exact ⟨h1, h2⟩
  rw [← hnT] at hcl hTl hkT
  have HNT := Lib.hid hnT
  clear hnT hI
  have hsw := hb.size
  by_cases hk1 : k < nT
  · have t1 : decide ((k : Int) < (nT : Int)) = true := by simp; omega
    by_cases hk2 : k < 60
    · have t2 : decide ((k : Int) < 60) = true := by simp; omega
      obtain ⟨g, rfl, hg, hcap, hcell⟩ := hcl (by omega)
      have ck := cell_below (hcell k hk1).1 hb
      have htk : (T.map (·.1)).take (k + 1) = (T.map (·.1)).take k ++ [(T.getD k tk0).1] := by
        rw [take_getD (by rw [List.length_map, ← HNT.out]; exact hk1)]
        congr 2
        rw [List.getD_eq_getElem?_getD, List.getElem?_map, List.getElem?_eq_getElem (by rw [← HNT.out]; exact hk1)]
        simp [List.getD, show k < T.length by rw [← HNT.out]; exact hk1]
      obtain ⟨x, hx⟩ : ∃ x, x = (T.getD k tk0).1 := ⟨_, rfl⟩
      rw [← hx] at ck htk
      obtain ⟨m, hm⟩ : ∃ m, m = ((T.map (·.1)).take k).length := ⟨_, rfl⟩
      have hmk : m ≤ k := by rw [hm, List.length_take]; omega
      unfold RowS at hRS
      rw [← hm] at hRS
      have hfd : ∃ q cc, v8 = .slice q m cc := by
        rcases hRS.2 with ⟨h0, h1⟩ | ⟨g, cap, cur, h0, _⟩
        · exact ⟨none, 0, by rw [h0, h1]⟩
        · exact ⟨_, _, by rw [h0]⟩
      obtain ⟨q3, cc, rfl⟩ := hfd
      obtain ⟨i0, hi0, hz0, hz1, hz2⟩ := info_parts info_str
      have hown := hRS.alloc (.cells #[.string ⟨x.toArray⟩] 9)
      have hbd := hb.alloc hsw (.cells #[.string ⟨x.toArray⟩] 9)
      have hm1 : m + 1 ≤ maxLen := by unfold maxLen; omega
      have hm2 : (m + 1) * 16 ≤ 140737488355328 := by omega
      have hj3 : (k : Int) < (nT : Int) := by omega
      have HTK := Lib.hid htk
      have HM := Lib.hid hm
      clear htk hm hRS hcell hcl hx hQ
      go_wp2_with ((at_builtin; refine wpList_append_lies _ rfl _ _ 22 rfl w2.heap.size 9 i0 _ 1 16 Tryz.underlying22 hi0 hz0 hz1 hz2 rfl (by decide) (.slice q3 m cc) m (((T.map (·.1)).take k).map strV) rfl hown ⟨wr.heap.size, 0, none⟩ 1 1 [.string ⟨x.toArray⟩] rfl rfl (World.news_of_block (cs := #[.string ⟨x.toArray⟩]) (t := 9) (fr := (0, 0)) (heap_alloc_new wr _)) (by simp [Value.oneCell']) (by omega) hm1 hm2 (by simp; omega) (wr.heap.size + 1) (by simp) ?_; intro g2 cap2 w3 hown3 hgrow hat hlt3))
      have hR3 : RowS w2.heap.size ((T.map (·.1)).take (k + 1)) (.slice (some ⟨g2, 0, none⟩) (m + 1) cap2) w3 := by
        unfold RowS
        rw [HTK.out, List.map_append, List.length_append, ← HM.out]
        exact hown3
      have hb4 := hbd.grown hgrow (by simp; omega) (fun j hj => own_geT hown hj)
      clear hown3 hgrow hat hlt3 hown hbd hi0 hz0 hz1 hz2
      go_wp2_with fail
      refine Handed.intro (n - 1) (by omega) (hJ _ _ _ ⟨_, k + 1, _, _, rfl, ⟨rfl, rfl, rfl, rfl, rfl⟩, rfl, rfl, by omega, by rw [← HNT.out]; omega, by omega, by omega, hR3, hb4⟩)
    · obtain rfl : k = 60 := by omega
      have t2 : decide (((60 : Nat) : Int) < 60) = false := by simp
      clear hJ hcl
      go_wp2_with fail
      exact hQ _ _ _ ⟨rfl, rfl, rfl, rfl, rfl⟩ rfl hRS hb
  · have t1 : decide ((k : Int) < (nT : Int)) = false := by simp; omega
    have e : (T.map (·.1)).take 60 = (T.map (·.1)).take k := by
      rw [List.take_of_length_le (by rw [List.length_map, ← HNT.out]; omega), List.take_of_length_le (by rw [List.length_map, ← HNT.out]; omega)]
    rw [← e] at hRS
    have HRS := Lib.hid hRS
    clear hJ hcl hRS e
    go_wp2_with fail
    exact hQ _ _ _ ⟨rfl, rfl, rfl, rfl, rfl⟩ rfl HRS.out hb
end Go.Proofs.YtkpiaenpjnajiaaGreatDoor
