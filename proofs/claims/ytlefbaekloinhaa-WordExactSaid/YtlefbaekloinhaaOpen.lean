/- How arguments that came in are opened, over any program. -/
import Derived.Test.YtlefbaekloinhaaExact
import Derived.ChangeOld
import Derived.SizedLaws
namespace Go.Proofs.Ytlefbaekloinhaa
open Go.ChangeShapes Go.WideShapes Go.ChangeAt Go.RowKit Go.Joins Go.Deep
set_option linter.unusedVariables false

theorem ints_of {P : Program} {t e : TypeId} (ht : P.underlying t = some (.slice e)) (he : P.underlying e = some (.int .i64)) (hc : P.cellsOf e = 1) {H : Type} {enc : TypeId × Value → H} {W : World} {v : Value} {y : DataW H × List MemPlace} {m : Nat} (h : DataW.trod enc P W 0 (fun _ => true) true m t [v] = some y) :
    ∃ p len cap zs, v = .slice p len cap ∧ IsInts W p len zs ∧ (p = none → cap = 0) ∧ (len = 0 ∨ ∃ elems spare, y.1 = .slice elems spare ∧ elems.length = len) := by
  rcases open_ints ht he hc h with ⟨hcs, _⟩ | ⟨x, l, c, zs, hcs, _, hl, hm, hz, hy, hcell, hwz⟩
  · simp at hcs
    subst hcs
    exact ⟨none, 0, 0, [], rfl, ⟨by simp [maxLen], ⟨rfl, by simp⟩, fun h => absurd h (by omega)⟩, (fun _ => rfl), Or.inl rfl⟩
  · simp at hcs
    subst hcs
    refine ⟨some x, l, c, zs.take l, rfl, ⟨by omega, ⟨?_, fun n hn => hwz n (List.mem_of_mem_take hn)⟩, fun hlt => ?_⟩, (fun h => by cases h), Or.inr ⟨_, _, by rw [hy], by simp [lits]; simp at hz; omega⟩⟩
    · simp at hz; simp; omega
    · obtain ⟨b, off, spot⟩ := x
      simp at hz
      have hc := hcell 0 (by omega)
      have hspot : spot = none := by simpa [Addr.add] using World.cell?_spot hc
      subst hspot
      have hb := World.block_lt_of_cell? W _ hc
      refine ⟨b, off, rfl, by simpa [Addr.add] using hb, fun i hi => ?_⟩
      have h1 := hcell i (by omega)
      have e1 : (zs.take l).getD i 0 = zs.getD i 0 := by simp [List.getD, List.getElem?_take, hi]
      rw [e1, ← h1]
      unfold Addr.add
      by_cases h0 : i = 0 <;> simp [h0]
theorem strs_of {P : Program} {t e : TypeId} (ht : P.underlying t = some (.slice e)) (he : P.underlying e = some .string) (hc : P.cellsOf e = 1) {H : Type} {enc : TypeId × Value → H} {W : World} {v : Value} {y : DataW H × List MemPlace} {m : Nat} (h : DataW.trod enc P W 0 (fun _ => true) true m t [v] = some y) :
    ∃ p len cap zs, v = .slice p len cap ∧ IsStrs W p len zs := by
  rcases open_strings ht he hc h with ⟨hcs, _⟩ | ⟨x, l, c, zs, hcs, _, hl, hm, hz, _, hcell, hwz⟩
  · simp at hcs
    subst hcs
    exact ⟨none, 0, 0, [], rfl, by simp [maxLen], rfl, by simp, fun h => absurd h (by omega)⟩
  · simp at hcs
    subst hcs
    refine ⟨some x, l, c, zs.take l, rfl, by omega, ?_, fun n hn => hwz n (List.mem_of_mem_take hn), fun hlt => ?_⟩
    · simp at hz; simp; omega
    · obtain ⟨b, off, spot⟩ := x
      simp at hz
      have hc := hcell 0 (by omega)
      have hspot : spot = none := by simpa [Addr.add] using World.cell?_spot hc
      subst hspot
      have hb := World.block_lt_of_cell? W _ hc
      refine ⟨b, off, rfl, by simpa [Addr.add] using hb, fun i hi => ?_⟩
      have h1 := hcell i (by omega)
      have e1 : (zs.take l).getD i ByteArray.empty = zs.getD i ByteArray.empty := by simp [List.getD, List.getElem?_take, hi]
      rw [e1, ← h1]
      unfold Addr.add
      by_cases h0 : i = 0 <;> simp [h0]


/-- A slice of machines. -/
theorem abis_of {P : Program} {t e eb ei : TypeId} {f0 f1 : Field} (ht : P.underlying t = some (.slice e)) (he : P.underlying e = some (.struct #[f0, f1])) (hc : P.cellsOf e = 2)
    (hf0 : f0.type = eb ∧ f0.offset = 0 ∧ P.cellsOf eb = 1 ∧ P.underlying eb = some .bool) (hf1 : f1.type = ei ∧ f1.offset = 1 ∧ P.cellsOf ei = 1 ∧ P.underlying ei = some (.int .i64))
    {H : Type} {enc : TypeId × Value → H} {W : World} {v : Value} {y : DataW H × List MemPlace} {m : Nat} (h : DataW.trod enc P W 0 (fun _ => true) true m t [v] = some y) :
    ∃ p len cap xa, v = .slice p len cap ∧ IsAbis W p len cap xa ∧ (len = 0 ∨ ∃ elems spare, y.1 = .slice elems spare ∧ elems.length = len) := by
  rcases open_slice ht h with ⟨hcs, _⟩ | ⟨ad, len, cap, m, n, D, Pl, hcs, _, hl, hm, hmm, hy, hx⟩
  · simp at hcs
    subst hcs
    exact ⟨none, 0, 0, [], rfl, ⟨by simp [maxLen], rfl, Or.inl ⟨rfl, rfl, rfl⟩⟩, Or.inl rfl⟩
  · simp at hcs
    subst hcs
    have each : ∀ i, i < len → ∃ x : Bool × Int, W.cell? (ad.add (2 * i)) = some (.bool x.1) ∧ W.cell? (ad.add (2 * i + 1)) = some (.int .i64 x.2) := by
      intro i hi
      obtain ⟨cs', h1, h2⟩ := hx i (by simp at hmm; omega)
      rw [hc] at h1
      obtain ⟨_, hlen, hcell⟩ := World.cells?_some h1
      obtain ⟨y0, y1, n', _, _, t0, t1⟩ := trod_struct2 he h2
      obtain ⟨c0, c1, rfl⟩ : ∃ c0 c1, cs' = [c0, c1] := by
        match cs', hlen with
        | [c0, c1], _ => exact ⟨c0, c1, rfl⟩
      rw [hf0.1, hf0.2.1, hf0.2.2.1] at t0
      rw [hf1.1, hf1.2.1, hf1.2.2.1] at t1
      obtain ⟨b, e0, _⟩ := DataW.trod_bool hf0.2.2.2 t0
      obtain ⟨k, e1, _⟩ := DataW.trod_int hf1.2.2.2 t1
      simp at e0 e1
      subst e0 e1
      refine ⟨(b, k), ?_, ?_⟩
      · have := hcell 0 (by omega)
        rw [add_add] at this
        simpa [Nat.mul_comm] using this
      · have := hcell 1 (by omega)
        rw [add_add] at this
        simpa [Nat.mul_comm] using this
    obtain ⟨f, hf⟩ := choose_lt (α := Bool × Int) each
    refine ⟨some ad, len, cap, (List.range len).map f, rfl, ⟨by omega, by simp, Or.inr ⟨ad, rfl, fun hpos => ?_, fun i hi => ?_⟩⟩, Or.inr ⟨_, _, by rw [hy], by simp⟩⟩
    · have := World.block_lt_of_cell? W _ (hf 0 hpos).1
      rw [add_block] at this
      exact this
    · have := hf i hi
      have e : ((List.range len).map f).getD i (false, 0) = f i := by simp [List.getD, hi]
      rw [e]; exact this

theorem reach_parts {P : Program} {t : TypeId} {fs : Array Field} {H : Type} {parts : List (DataW H)} (h : (DataW.weightsEach P [t] [.agg parts]).all (· ≤ reachBytes) = true) (hs : P.underlying t = some (.struct fs)) :
    (DataW.weightsEach P (fs.toList.map (·.type)) parts).all (· ≤ reachBytes) = true := by
  simpa [DataW.weightsEach, DataW.weights, hs] using h

end Go.Proofs.Ytlefbaekloinhaa
