/- Slices of texts that came in: none is larger than memory's reach. -/
import Derived.Test.YtkhklndmbfbnoaaGreatDoorLJoinC
import Derived.SliceStrings
namespace Go.Proofs.YtkhklndmbfbnoaaGreatDoor
open Go.ChangeShapes Go.WideShapes Go.ChangeAt Go.RowKit Go.Joins Go.Deep
set_option linter.unusedVariables false

theorem weightsAll_memL {H : Type} {P : Program} {e : TypeId} : ∀ {l : List (DataW H)} {d : DataW H}, d ∈ l → ∀ n ∈ d.weights P e, n ∈ DataW.weightsAll P e l
  | x :: r, d, hd, n, hn => by
    simp only [DataW.weightsAll, List.mem_append]
    rcases List.mem_cons.1 hd with rfl | hd
    · exact Or.inl hn
    · exact Or.inr (weightsAll_memL hd n hn)
theorem txts_of {P : Program} {t e : TypeId} (ht : P.underlying t = some (.slice e)) (he : P.underlying e = some .string) (hc : P.cellsOf e = 1) (hb : 1 ≤ P.bytesOf e) {H : Type} {enc : TypeId × Value → H} {W : World} {v : Value} {y : DataW H × List MemPlace} {m : Nat} (h : DataW.trod enc P W 0 (fun _ => true) true m t [v] = some y) :
    ∃ p len cap zs, v = .slice p len cap ∧ ((∀ n ∈ y.1.weights P t, n ≤ 140737488355328) → len ≤ 140737488355328 ∧ InTxts W p len zs) := by
  rcases open_strings ht he hc h with ⟨hcs, _⟩ | ⟨x, l, c, zs, hcs, _, hl, hm, hz, hy, hcell, hwz⟩
  · simp at hcs
    subst hcs
    exact ⟨none, 0, 0, [], rfl, fun _ => ⟨by omega, rfl, by simp, fun h => absurd h (by omega)⟩⟩
  · simp at hcs
    subst hcs
    refine ⟨some x, l, c, zs.take l, rfl, fun hw => ?_⟩
    have hzl : zs.length = c := by simpa using hz
    have hwt : y.1.weights P t = ((zs.take l).length + (zs.drop l).length) * P.bytesOf e :: (DataW.weightsAll P e (strs (H := H) (zs.take l)) ++ DataW.weightsAll P e (strs (H := H) (zs.drop l))) := by
      rw [hy]; simp [DataW.weights, ht, strs]
    rw [hwt] at hw
    have hlen : (zs.take l).length = l := by rw [List.length_take]; omega
    refine ⟨?_, hlen, fun s hs => ?_, fun hlt => ?_⟩
    · have h1 := hw _ (List.mem_cons_self)
      rw [hlen] at h1
      have h2 : l * 1 ≤ (l + (zs.drop l).length) * P.bytesOf e := Nat.mul_le_mul (Nat.le_add_right _ _) hb
      omega
    · refine hw _ (List.mem_cons_of_mem _ (List.mem_append_left _ (weightsAll_memL (d := .lit (.string s.data.toList)) ?_ _ ?_)))
      · exact List.mem_map.2 ⟨s, hs, rfl⟩
      · simp [DataW.weights]
    · obtain ⟨b, off, spot⟩ := x
      have hc := hcell 0 (by omega)
      have hspot : spot = none := by simpa [Addr.add] using World.cell?_spot hc
      subst hspot
      have hb := World.block_lt_of_cell? W _ hc
      refine ⟨b, off, rfl, by simpa [Addr.add] using hb, fun i hi => ?_⟩
      have h1 := hcell i (by omega)
      have e1 : (zs.take l).getD i bz = zs.getD i ByteArray.empty := by simp [List.getD, hi, bz]
      rw [e1, ← h1]
      unfold Addr.add
      by_cases h0 : i = 0 <;> simp [h0]
end Go.Proofs.YtkhklndmbfbnoaaGreatDoor
