/- LexJoin: the statement's walk. -/
import Derived.Test.YtkpiaenpjnajiaaGreatDoorLJ1
import Derived.Test.YtkpiaenpjnajiaaGreatDoorLJ3
namespace Go.Proofs.YtkpiaenpjnajiaaGreatDoor
open Go.ChangeShapes Go.WideShapes Go.ChangeAt Go.RowKit Go.Joins Go.Deep
set_option linter.unusedVariables false

theorem ListAt.lit (w : World) (L : List Txt) (hl : L.length ≤ 100000) (hx : ∀ x ∈ L, x.length ≤ 7000) : ListAt (w.alloc (.cells (L.map strV).toArray 9)) (.slice (some ⟨w.heap.size, 0, none⟩) L.length L.length) L := by
  refine ⟨_, _, rfl, hl, hx, fun hp => ⟨w.heap.size, (L.map strV).toArray, (0, 0), rfl, At.new w _ _, fun i hi => ?_⟩⟩
  rw [List.getElem?_toArray, List.getElem?_map, List.getElem?_eq_getElem hi]
  simp [List.getD, hi]
/-- the lists that the statement adds -/
theorem six_lists (B m : Nat) (q : Option Addr) (cc : Nat) (w3 w4 : World) (LL : List (Value × List Txt)) (g c4 : Nat) (hm : m = LL.length) (hAll : AllAt w3 LL)
    (hown : ((((((w3.alloc (.cells #[.string ⟨#[]⟩] 9)).alloc (.cells #[.string ⟨#[97]⟩, .string ⟨#[61]⟩, .string ⟨#[61]⟩, .string ⟨#[60]⟩, .string ⟨#[60]⟩] 9)).alloc (.cells #[.string ⟨#[97, 32, 98]⟩] 9)).alloc (.cells #[.string ⟨#[48, 49]⟩] 9)).alloc (.cells #[.string ⟨#[97, 98, 99, 100, 101, 102, 103, 104, 105]⟩] 9)).alloc (.cells #[.slice none 0 0, .slice (some ⟨w3.heap.size, 0, none⟩) 1 1, .slice (some ⟨w3.heap.size + 1, 0, none⟩) 5 5, .slice (some ⟨w3.heap.size + 2, 0, none⟩) 1 1, .slice (some ⟨w3.heap.size + 3, 0, none⟩) 1 1, .slice (some ⟨w3.heap.size + 4, 0, none⟩) 1 1] 22)).ownsRow (B + 1) 22 1 (.slice q m cc) m (LL.map (·.1)))
    (hgrow : ((((((w3.alloc (.cells #[.string ⟨#[]⟩] 9)).alloc (.cells #[.string ⟨#[97]⟩, .string ⟨#[61]⟩, .string ⟨#[61]⟩, .string ⟨#[60]⟩, .string ⟨#[60]⟩] 9)).alloc (.cells #[.string ⟨#[97, 32, 98]⟩] 9)).alloc (.cells #[.string ⟨#[48, 49]⟩] 9)).alloc (.cells #[.string ⟨#[97, 98, 99, 100, 101, 102, 103, 104, 105]⟩] 9)).alloc (.cells #[.slice none 0 0, .slice (some ⟨w3.heap.size, 0, none⟩) 1 1, .slice (some ⟨w3.heap.size + 1, 0, none⟩) 5 5, .slice (some ⟨w3.heap.size + 2, 0, none⟩) 1 1, .slice (some ⟨w3.heap.size + 3, 0, none⟩) 1 1, .slice (some ⟨w3.heap.size + 4, 0, none⟩) 1 1] 22)).grownBy w4 (Value.slice q m cc).ownBlock)
    (hown4 : w4.ownsRow (B + 1) 22 1 (.slice (some ⟨g, 0, none⟩) (m + 6) c4) (m + 6) (LL.map (·.1) ++ [Value.slice none 0 0, Value.slice (some ⟨w3.heap.size, 0, none⟩) 1 1, Value.slice (some ⟨w3.heap.size + 1, 0, none⟩) 5 5, Value.slice (some ⟨w3.heap.size + 2, 0, none⟩) 1 1, Value.slice (some ⟨w3.heap.size + 3, 0, none⟩) 1 1, Value.slice (some ⟨w3.heap.size + 4, 0, none⟩) 1 1])) :
    ∃ LL', m + 6 = LL'.length ∧ AllAt w4 LL' ∧ ∀ i, i < m + 6 → w4.cell? ⟨g, i, none⟩ = some (LL'.getD i dfL).1 := by
  have hks := keepS_grown hown hgrow
  have a0 : ListAt (w3.alloc (.cells #[.string ⟨#[]⟩] 9)) (.slice (some ⟨w3.heap.size, 0, none⟩) 1 1) [[]] := by
    have := ListAt.lit w3 [[]] (by decide) (by decide)
    exact this
  replace a0 := a0.below ((Below.refl _ _).alloc (Nat.le_refl _) (.cells #[.string ⟨#[97]⟩, .string ⟨#[61]⟩, .string ⟨#[61]⟩, .string ⟨#[60]⟩, .string ⟨#[60]⟩] 9))
  replace a0 := a0.below ((Below.refl _ _).alloc (Nat.le_refl _) (.cells #[.string ⟨#[97, 32, 98]⟩] 9))
  replace a0 := a0.below ((Below.refl _ _).alloc (Nat.le_refl _) (.cells #[.string ⟨#[48, 49]⟩] 9))
  replace a0 := a0.below ((Below.refl _ _).alloc (Nat.le_refl _) (.cells #[.string ⟨#[97, 98, 99, 100, 101, 102, 103, 104, 105]⟩] 9))
  replace a0 := a0.below ((Below.refl _ _).alloc (Nat.le_refl _) (.cells #[.slice none 0 0, .slice (some ⟨w3.heap.size, 0, none⟩) 1 1, .slice (some ⟨w3.heap.size + 1, 0, none⟩) 5 5, .slice (some ⟨w3.heap.size + 2, 0, none⟩) 1 1, .slice (some ⟨w3.heap.size + 3, 0, none⟩) 1 1, .slice (some ⟨w3.heap.size + 4, 0, none⟩) 1 1] 22))
  have a1 : ListAt ((w3.alloc (.cells #[.string ⟨#[]⟩] 9)).alloc (.cells #[.string ⟨#[97]⟩, .string ⟨#[61]⟩, .string ⟨#[61]⟩, .string ⟨#[60]⟩, .string ⟨#[60]⟩] 9)) (.slice (some ⟨w3.heap.size + 1, 0, none⟩) 5 5) [[97], [61], [61], [60], [60]] := by
    have := ListAt.lit (w3.alloc (.cells #[.string ⟨#[]⟩] 9)) [[97], [61], [61], [60], [60]] (by decide) (by decide)
    rw [show (w3.alloc (.cells #[.string ⟨#[]⟩] 9)).heap.size = w3.heap.size + 1 by simp] at this; exact this
  replace a1 := a1.below ((Below.refl _ _).alloc (Nat.le_refl _) (.cells #[.string ⟨#[97, 32, 98]⟩] 9))
  replace a1 := a1.below ((Below.refl _ _).alloc (Nat.le_refl _) (.cells #[.string ⟨#[48, 49]⟩] 9))
  replace a1 := a1.below ((Below.refl _ _).alloc (Nat.le_refl _) (.cells #[.string ⟨#[97, 98, 99, 100, 101, 102, 103, 104, 105]⟩] 9))
  replace a1 := a1.below ((Below.refl _ _).alloc (Nat.le_refl _) (.cells #[.slice none 0 0, .slice (some ⟨w3.heap.size, 0, none⟩) 1 1, .slice (some ⟨w3.heap.size + 1, 0, none⟩) 5 5, .slice (some ⟨w3.heap.size + 2, 0, none⟩) 1 1, .slice (some ⟨w3.heap.size + 3, 0, none⟩) 1 1, .slice (some ⟨w3.heap.size + 4, 0, none⟩) 1 1] 22))
  have a2 : ListAt (((w3.alloc (.cells #[.string ⟨#[]⟩] 9)).alloc (.cells #[.string ⟨#[97]⟩, .string ⟨#[61]⟩, .string ⟨#[61]⟩, .string ⟨#[60]⟩, .string ⟨#[60]⟩] 9)).alloc (.cells #[.string ⟨#[97, 32, 98]⟩] 9)) (.slice (some ⟨w3.heap.size + 2, 0, none⟩) 1 1) [[97, 32, 98]] := by
    have := ListAt.lit ((w3.alloc (.cells #[.string ⟨#[]⟩] 9)).alloc (.cells #[.string ⟨#[97]⟩, .string ⟨#[61]⟩, .string ⟨#[61]⟩, .string ⟨#[60]⟩, .string ⟨#[60]⟩] 9)) [[97, 32, 98]] (by decide) (by decide)
    rw [show ((w3.alloc (.cells #[.string ⟨#[]⟩] 9)).alloc (.cells #[.string ⟨#[97]⟩, .string ⟨#[61]⟩, .string ⟨#[61]⟩, .string ⟨#[60]⟩, .string ⟨#[60]⟩] 9)).heap.size = w3.heap.size + 2 by simp] at this; exact this
  replace a2 := a2.below ((Below.refl _ _).alloc (Nat.le_refl _) (.cells #[.string ⟨#[48, 49]⟩] 9))
  replace a2 := a2.below ((Below.refl _ _).alloc (Nat.le_refl _) (.cells #[.string ⟨#[97, 98, 99, 100, 101, 102, 103, 104, 105]⟩] 9))
  replace a2 := a2.below ((Below.refl _ _).alloc (Nat.le_refl _) (.cells #[.slice none 0 0, .slice (some ⟨w3.heap.size, 0, none⟩) 1 1, .slice (some ⟨w3.heap.size + 1, 0, none⟩) 5 5, .slice (some ⟨w3.heap.size + 2, 0, none⟩) 1 1, .slice (some ⟨w3.heap.size + 3, 0, none⟩) 1 1, .slice (some ⟨w3.heap.size + 4, 0, none⟩) 1 1] 22))
  have a3 : ListAt ((((w3.alloc (.cells #[.string ⟨#[]⟩] 9)).alloc (.cells #[.string ⟨#[97]⟩, .string ⟨#[61]⟩, .string ⟨#[61]⟩, .string ⟨#[60]⟩, .string ⟨#[60]⟩] 9)).alloc (.cells #[.string ⟨#[97, 32, 98]⟩] 9)).alloc (.cells #[.string ⟨#[48, 49]⟩] 9)) (.slice (some ⟨w3.heap.size + 3, 0, none⟩) 1 1) [[48, 49]] := by
    have := ListAt.lit (((w3.alloc (.cells #[.string ⟨#[]⟩] 9)).alloc (.cells #[.string ⟨#[97]⟩, .string ⟨#[61]⟩, .string ⟨#[61]⟩, .string ⟨#[60]⟩, .string ⟨#[60]⟩] 9)).alloc (.cells #[.string ⟨#[97, 32, 98]⟩] 9)) [[48, 49]] (by decide) (by decide)
    rw [show (((w3.alloc (.cells #[.string ⟨#[]⟩] 9)).alloc (.cells #[.string ⟨#[97]⟩, .string ⟨#[61]⟩, .string ⟨#[61]⟩, .string ⟨#[60]⟩, .string ⟨#[60]⟩] 9)).alloc (.cells #[.string ⟨#[97, 32, 98]⟩] 9)).heap.size = w3.heap.size + 3 by simp] at this; exact this
  replace a3 := a3.below ((Below.refl _ _).alloc (Nat.le_refl _) (.cells #[.string ⟨#[97, 98, 99, 100, 101, 102, 103, 104, 105]⟩] 9))
  replace a3 := a3.below ((Below.refl _ _).alloc (Nat.le_refl _) (.cells #[.slice none 0 0, .slice (some ⟨w3.heap.size, 0, none⟩) 1 1, .slice (some ⟨w3.heap.size + 1, 0, none⟩) 5 5, .slice (some ⟨w3.heap.size + 2, 0, none⟩) 1 1, .slice (some ⟨w3.heap.size + 3, 0, none⟩) 1 1, .slice (some ⟨w3.heap.size + 4, 0, none⟩) 1 1] 22))
  have a4 : ListAt (((((w3.alloc (.cells #[.string ⟨#[]⟩] 9)).alloc (.cells #[.string ⟨#[97]⟩, .string ⟨#[61]⟩, .string ⟨#[61]⟩, .string ⟨#[60]⟩, .string ⟨#[60]⟩] 9)).alloc (.cells #[.string ⟨#[97, 32, 98]⟩] 9)).alloc (.cells #[.string ⟨#[48, 49]⟩] 9)).alloc (.cells #[.string ⟨#[97, 98, 99, 100, 101, 102, 103, 104, 105]⟩] 9)) (.slice (some ⟨w3.heap.size + 4, 0, none⟩) 1 1) [[97, 98, 99, 100, 101, 102, 103, 104, 105]] := by
    have := ListAt.lit ((((w3.alloc (.cells #[.string ⟨#[]⟩] 9)).alloc (.cells #[.string ⟨#[97]⟩, .string ⟨#[61]⟩, .string ⟨#[61]⟩, .string ⟨#[60]⟩, .string ⟨#[60]⟩] 9)).alloc (.cells #[.string ⟨#[97, 32, 98]⟩] 9)).alloc (.cells #[.string ⟨#[48, 49]⟩] 9)) [[97, 98, 99, 100, 101, 102, 103, 104, 105]] (by decide) (by decide)
    rw [show ((((w3.alloc (.cells #[.string ⟨#[]⟩] 9)).alloc (.cells #[.string ⟨#[97]⟩, .string ⟨#[61]⟩, .string ⟨#[61]⟩, .string ⟨#[60]⟩, .string ⟨#[60]⟩] 9)).alloc (.cells #[.string ⟨#[97, 32, 98]⟩] 9)).alloc (.cells #[.string ⟨#[48, 49]⟩] 9)).heap.size = w3.heap.size + 4 by simp] at this; exact this
  replace a4 := a4.below ((Below.refl _ _).alloc (Nat.le_refl _) (.cells #[.slice none 0 0, .slice (some ⟨w3.heap.size, 0, none⟩) 1 1, .slice (some ⟨w3.heap.size + 1, 0, none⟩) 5 5, .slice (some ⟨w3.heap.size + 2, 0, none⟩) 1 1, .slice (some ⟨w3.heap.size + 3, 0, none⟩) 1 1, .slice (some ⟨w3.heap.size + 4, 0, none⟩) 1 1] 22))
  have hb : Below w3.heap.size w3 ((((((w3.alloc (.cells #[.string ⟨#[]⟩] 9)).alloc (.cells #[.string ⟨#[97]⟩, .string ⟨#[61]⟩, .string ⟨#[61]⟩, .string ⟨#[60]⟩, .string ⟨#[60]⟩] 9)).alloc (.cells #[.string ⟨#[97, 32, 98]⟩] 9)).alloc (.cells #[.string ⟨#[48, 49]⟩] 9)).alloc (.cells #[.string ⟨#[97, 98, 99, 100, 101, 102, 103, 104, 105]⟩] 9)).alloc (.cells #[.slice none 0 0, .slice (some ⟨w3.heap.size, 0, none⟩) 1 1, .slice (some ⟨w3.heap.size + 1, 0, none⟩) 5 5, .slice (some ⟨w3.heap.size + 2, 0, none⟩) 1 1, .slice (some ⟨w3.heap.size + 3, 0, none⟩) 1 1, .slice (some ⟨w3.heap.size + 4, 0, none⟩) 1 1] 22)) := by
    refine Below.alloc ?_ (by simp <;> omega) _
    refine Below.alloc ?_ (by simp <;> omega) _; refine Below.alloc ?_ (by simp <;> omega) _; refine Below.alloc ?_ (by simp <;> omega) _; refine Below.alloc ?_ (by simp <;> omega) _; exact (Below.refl _ _).alloc (Nat.le_refl _) _
  refine ⟨LL ++ [(Value.slice none 0 0, []), (Value.slice (some ⟨w3.heap.size, 0, none⟩) 1 1, [[]]), (Value.slice (some ⟨w3.heap.size + 1, 0, none⟩) 5 5, [[97], [61], [61], [60], [60]]), (Value.slice (some ⟨w3.heap.size + 2, 0, none⟩) 1 1, [[97, 32, 98]]), (Value.slice (some ⟨w3.heap.size + 3, 0, none⟩) 1 1, [[48, 49]]), (Value.slice (some ⟨w3.heap.size + 4, 0, none⟩) 1 1, [[97, 98, 99, 100, 101, 102, 103, 104, 105]])], by rw [List.length_append, hm]; rfl, ?_, ?_⟩
  · intro p hp
    rcases List.mem_append.1 hp with hp | hp
    · exact ((hAll p hp).below hb).keep hks
    · simp only [List.mem_cons, List.not_mem_nil, or_false] at hp
      rcases hp with rfl | rfl | rfl | rfl | rfl | rfl
      · exact ⟨none, 0, rfl, by decide, by simp, fun h => by simp at h⟩
      · exact a0.keep hks
      · exact a1.keep hks
      · exact a2.keep hks
      · exact a3.keep hks
      · exact a4.keep hks
  · intro i hi
    obtain ⟨g', cap, hv, hge, hlt, hmax, hc⟩ := ownsRow_cells hown4 (by intro h; cases h)
    injection hv with e1 e2 e3
    injection e1 with e1
    injection e1 with e1
    subst e1
    have e : (LL.map (·.1) ++ [Value.slice none 0 0, Value.slice (some ⟨w3.heap.size, 0, none⟩) 1 1, Value.slice (some ⟨w3.heap.size + 1, 0, none⟩) 5 5, Value.slice (some ⟨w3.heap.size + 2, 0, none⟩) 1 1, Value.slice (some ⟨w3.heap.size + 3, 0, none⟩) 1 1, Value.slice (some ⟨w3.heap.size + 4, 0, none⟩) 1 1])[i]? = some ((LL ++ [(Value.slice none 0 0, []), (Value.slice (some ⟨w3.heap.size, 0, none⟩) 1 1, [[]]), (Value.slice (some ⟨w3.heap.size + 1, 0, none⟩) 5 5, [[97], [61], [61], [60], [60]]), (Value.slice (some ⟨w3.heap.size + 2, 0, none⟩) 1 1, [[97, 32, 98]]), (Value.slice (some ⟨w3.heap.size + 3, 0, none⟩) 1 1, [[48, 49]]), (Value.slice (some ⟨w3.heap.size + 4, 0, none⟩) 1 1, [[97, 98, 99, 100, 101, 102, 103, 104, 105]])]).getD i dfL).1 := by
      rw [show LL.map (·.1) ++ [Value.slice none 0 0, Value.slice (some ⟨w3.heap.size, 0, none⟩) 1 1, Value.slice (some ⟨w3.heap.size + 1, 0, none⟩) 5 5, Value.slice (some ⟨w3.heap.size + 2, 0, none⟩) 1 1, Value.slice (some ⟨w3.heap.size + 3, 0, none⟩) 1 1, Value.slice (some ⟨w3.heap.size + 4, 0, none⟩) 1 1] = (LL ++ [(Value.slice none 0 0, []), (Value.slice (some ⟨w3.heap.size, 0, none⟩) 1 1, [[]]), (Value.slice (some ⟨w3.heap.size + 1, 0, none⟩) 5 5, [[97], [61], [61], [60], [60]]), (Value.slice (some ⟨w3.heap.size + 2, 0, none⟩) 1 1, [[97, 32, 98]]), (Value.slice (some ⟨w3.heap.size + 3, 0, none⟩) 1 1, [[48, 49]]), (Value.slice (some ⟨w3.heap.size + 4, 0, none⟩) 1 1, [[97, 98, 99, 100, 101, 102, 103, 104, 105]])]).map (fun p : Value × List Txt => p.1) by rw [List.map_append]; rfl]
      have hl : i < (LL ++ [(Value.slice none 0 0, []), (Value.slice (some ⟨w3.heap.size, 0, none⟩) 1 1, [[]]), (Value.slice (some ⟨w3.heap.size + 1, 0, none⟩) 5 5, [[97], [61], [61], [60], [60]]), (Value.slice (some ⟨w3.heap.size + 2, 0, none⟩) 1 1, [[97, 32, 98]]), (Value.slice (some ⟨w3.heap.size + 3, 0, none⟩) 1 1, [[48, 49]]), (Value.slice (some ⟨w3.heap.size + 4, 0, none⟩) 1 1, [[97, 98, 99, 100, 101, 102, 103, 104, 105]])]).length := by rw [List.length_append, ← hm]; exact hi
      rw [List.getElem?_map, List.getElem?_eq_getElem hl, List.getD_eq_getElem?_getD, List.getElem?_eq_getElem hl]
      rfl
    exact hc i _ e
theorem six_news (w3 : World) : ∀ j u, ([Value.slice none 0 0, Value.slice (some ⟨w3.heap.size, 0, none⟩) 1 1, Value.slice (some ⟨w3.heap.size + 1, 0, none⟩) 5 5, Value.slice (some ⟨w3.heap.size + 2, 0, none⟩) 1 1, Value.slice (some ⟨w3.heap.size + 3, 0, none⟩) 1 1, Value.slice (some ⟨w3.heap.size + 4, 0, none⟩) 1 1] : List Value)[j]? = some u → ((((((w3.alloc (.cells #[.string ⟨#[]⟩] 9)).alloc (.cells #[.string ⟨#[97]⟩, .string ⟨#[61]⟩, .string ⟨#[61]⟩, .string ⟨#[60]⟩, .string ⟨#[60]⟩] 9)).alloc (.cells #[.string ⟨#[97, 32, 98]⟩] 9)).alloc (.cells #[.string ⟨#[48, 49]⟩] 9)).alloc (.cells #[.string ⟨#[97, 98, 99, 100, 101, 102, 103, 104, 105]⟩] 9)).alloc (.cells #[.slice none 0 0, .slice (some ⟨w3.heap.size, 0, none⟩) 1 1, .slice (some ⟨w3.heap.size + 1, 0, none⟩) 5 5, .slice (some ⟨w3.heap.size + 2, 0, none⟩) 1 1, .slice (some ⟨w3.heap.size + 3, 0, none⟩) 1 1, .slice (some ⟨w3.heap.size + 4, 0, none⟩) 1 1] 22)).cell? ((⟨w3.heap.size + 5, 0, none⟩ : Addr).add j) = some u := by
  have h := World.news_of_block (cs := #[.slice none 0 0, .slice (some ⟨w3.heap.size, 0, none⟩) 1 1, .slice (some ⟨w3.heap.size + 1, 0, none⟩) 5 5, .slice (some ⟨w3.heap.size + 2, 0, none⟩) 1 1, .slice (some ⟨w3.heap.size + 3, 0, none⟩) 1 1, .slice (some ⟨w3.heap.size + 4, 0, none⟩) 1 1]) (t := 22) (fr := (0, 0)) (heap_alloc_new (((((w3.alloc (.cells #[.string ⟨#[]⟩] 9)).alloc (.cells #[.string ⟨#[97]⟩, .string ⟨#[61]⟩, .string ⟨#[61]⟩, .string ⟨#[60]⟩, .string ⟨#[60]⟩] 9)).alloc (.cells #[.string ⟨#[97, 32, 98]⟩] 9)).alloc (.cells #[.string ⟨#[48, 49]⟩] 9)).alloc (.cells #[.string ⟨#[97, 98, 99, 100, 101, 102, 103, 104, 105]⟩] 9)) (.cells #[.slice none 0 0, .slice (some ⟨w3.heap.size, 0, none⟩) 1 1, .slice (some ⟨w3.heap.size + 1, 0, none⟩) 5 5, .slice (some ⟨w3.heap.size + 2, 0, none⟩) 1 1, .slice (some ⟨w3.heap.size + 3, 0, none⟩) 1 1, .slice (some ⟨w3.heap.size + 4, 0, none⟩) 1 1] 22))
  rw [show (((((w3.alloc (.cells #[.string ⟨#[]⟩] 9)).alloc (.cells #[.string ⟨#[97]⟩, .string ⟨#[61]⟩, .string ⟨#[61]⟩, .string ⟨#[60]⟩, .string ⟨#[60]⟩] 9)).alloc (.cells #[.string ⟨#[97, 32, 98]⟩] 9)).alloc (.cells #[.string ⟨#[48, 49]⟩] 9)).alloc (.cells #[.string ⟨#[97, 98, 99, 100, 101, 102, 103, 104, 105]⟩] 9)).heap.size = w3.heap.size + 5 by simp] at h
  exact h
set_option maxRecDepth 1000000 in
set_option maxHeartbeats 6400000 in
theorem lexjoin_any (pS pN : Option Addr) (lS cS lN cN : Nat) (zs : List ByteArray) (hlS : lS ≤ 140737488355328) (hlN : lN ≤ 140737488355328) (w : World) (hI : InTxts w pS lS zs) :
    Calls Tryz.prog 4 #[.agg #[.slice pS lS cS, .slice pN lN cN]] w fun e w' => e = .returned (.bool true) ∧ Below w.heap.size w w' := by
  have cWk := wakes_any
  have cHv := fun w h => heavy_any pS pN lS cS lN cN zs hlS hlN w h
  have hX0 := At.new w #[.slice pS lS cS, .slice pN lN cN] 25
  have hb0 : Below w.heap.size w (w.alloc (.cells #[.slice pS lS cS, .slice pN lN cN] 25)) := (Below.refl _ _).alloc (Nat.le_refl _) _
  have hI0 := hI.below hb0
  have c0 := hX0.cell 0 rfl
  have c1 := hX0.cell 1 rfl
  have HX0 := Lib.hid hX0
  have HB0 := Lib.hid hb0
  have HI0 := Lib.hid hI0
  have HI := Lib.hid hI
  clear hX0 hb0 hI0 hI
  go_enter Tryz.func4, Tryz.ntmps4
  go_wp2_with fail
  refine (cHv _ HI0.out).mono ?_
  rintro e w2 ⟨hv, rfl, hall, hb2⟩
  have hXh := At.below' hb2 HX0.out
  have hbh := HB0.out.trans (hb2.mono HB0.out.size)
  have HALL := Lib.hid hall
  clear HX0 HB0 HI0 c0 c1 hall hb2 cHv
  cases hv
  case true =>
    clear cWk
    go_wp2_with fail
    go_ret
    exact ⟨rfl, hbh⟩
  obtain ⟨hl7, hs7⟩ := HALL.out rfl
  have HXH := Lib.hid hXh
  have HBH := Lib.hid hbh
  clear HALL hXh hbh
  go_wp2_with fail
  refine noPanic_mono (jloop1 w.heap.size pS pN lS cS lN cN zs w w2 rfl HI.out hs7 HXH.out HBH.out _ ⟨rfl, rfl⟩ rfl rfl _ ?_)
  intro t w3 v3 m hF hv3 hm16 hst
  obtain ⟨f0, f1⟩ := hF
  rw [open_184 t f0]
  simp only [f1, hv3]
  clear f0 f1 hv3 HXH HBH hs7 HI
  obtain ⟨LL, hRL, hAll, hLL, hX, hb⟩ := hst
  have hlt := hX.lt
  obtain ⟨q, cc, hq⟩ : ∃ q c, v3 = .slice q m c := by
    rcases hRL.2 with ⟨h0, h1⟩ | ⟨g, cap, cur, h0, _⟩
    · exact ⟨none, 0, by rw [h0, ← hLL, h1]⟩
    · exact ⟨_, _, by rw [h0, ← hLL]⟩
  subst hq
  unfold RowL at hRL
  rw [hLL] at hRL
  have hown : ((((((w3.alloc (.cells #[.string ⟨#[]⟩] 9)).alloc (.cells #[.string ⟨#[97]⟩, .string ⟨#[61]⟩, .string ⟨#[61]⟩, .string ⟨#[60]⟩, .string ⟨#[60]⟩] 9)).alloc (.cells #[.string ⟨#[97, 32, 98]⟩] 9)).alloc (.cells #[.string ⟨#[48, 49]⟩] 9)).alloc (.cells #[.string ⟨#[97, 98, 99, 100, 101, 102, 103, 104, 105]⟩] 9)).alloc (.cells #[.slice none 0 0, .slice (some ⟨w3.heap.size, 0, none⟩) 1 1, .slice (some ⟨w3.heap.size + 1, 0, none⟩) 5 5, .slice (some ⟨w3.heap.size + 2, 0, none⟩) 1 1, .slice (some ⟨w3.heap.size + 3, 0, none⟩) 1 1, .slice (some ⟨w3.heap.size + 4, 0, none⟩) 1 1] 22)).ownsRow (w.heap.size + 1) 22 1 (.slice q m cc) m (LL.map (·.1)) := (((((hRL.alloc _).alloc _).alloc _).alloc _).alloc _).alloc _
  have hbd : Below w.heap.size w ((((((w3.alloc (.cells #[.string ⟨#[]⟩] 9)).alloc (.cells #[.string ⟨#[97]⟩, .string ⟨#[61]⟩, .string ⟨#[61]⟩, .string ⟨#[60]⟩, .string ⟨#[60]⟩] 9)).alloc (.cells #[.string ⟨#[97, 32, 98]⟩] 9)).alloc (.cells #[.string ⟨#[48, 49]⟩] 9)).alloc (.cells #[.string ⟨#[97, 98, 99, 100, 101, 102, 103, 104, 105]⟩] 9)).alloc (.cells #[.slice none 0 0, .slice (some ⟨w3.heap.size, 0, none⟩) 1 1, .slice (some ⟨w3.heap.size + 1, 0, none⟩) 5 5, .slice (some ⟨w3.heap.size + 2, 0, none⟩) 1 1, .slice (some ⟨w3.heap.size + 3, 0, none⟩) 1 1, .slice (some ⟨w3.heap.size + 4, 0, none⟩) 1 1] 22)) := by
    refine Below.alloc ?_ (by simp <;> omega) _
    refine Below.alloc ?_ (by simp <;> omega) _; refine Below.alloc ?_ (by simp <;> omega) _; refine Below.alloc ?_ (by simp <;> omega) _; refine Below.alloc ?_ (by simp <;> omega) _; exact hb.alloc (Nat.le_of_lt hlt) _
  obtain ⟨j0, hj0, hy0, hy1, hy2⟩ := info_parts info_ls
  have hm3a : m + 6 ≤ maxLen := by unfold maxLen; omega
  have hm4 : (m + 6) * 24 ≤ 140737488355328 := by omega
  have HLL := Lib.hid hLL
  have HAL := Lib.hid hAll
  clear hRL hX hb hLL hAll
  go_wp2_with ((at_builtin; refine wpList_append_lies _ rfl _ _ 44 rfl (w.heap.size + 1) 22 j0 _ 1 24 Tryz.underlying44 hj0 hy0 hy1 hy2 rfl (by decide) (.slice q m cc) m (LL.map (·.1)) rfl hown ⟨w3.heap.size + 5, 0, none⟩ 6 6 [Value.slice none 0 0, Value.slice (some ⟨w3.heap.size, 0, none⟩) 1 1, Value.slice (some ⟨w3.heap.size + 1, 0, none⟩) 5 5, Value.slice (some ⟨w3.heap.size + 2, 0, none⟩) 1 1, Value.slice (some ⟨w3.heap.size + 3, 0, none⟩) 1 1, Value.slice (some ⟨w3.heap.size + 4, 0, none⟩) 1 1] rfl rfl (by exact six_news w3) (by simp [Value.oneCell']) (by omega) hm3a hm4 (by simp; omega) (w3.heap.size + 6) (by simp) ?_; intro g4 c4 w4 hown4 hgrow4 hat4 hlt4))
  obtain ⟨LL', hl', hAll', hLC⟩ := six_lists w.heap.size m q cc w3 w4 LL g4 c4 HLL.out.symm HAL.out hown hgrow4 hown4
  have hb4 := hbd.grown hgrow4 (by simp; omega) (fun k hk => by have := own_geT hown hk; omega)
  have HLC := Lib.hid hLC
  clear hown hown4 hgrow4 hat4 hlt4 hbd hj0 hy0 hy1 hy2 hLC
  go_wp2_with fail
  refine noPanic_mono (jloop3 w.heap.size g4 (m + 6) c4 LL' w4 (by omega) hl' HLC.out hAll' _ ⟨rfl, rfl, rfl⟩ rfl _ ?_)
  intro t2 w5 f0 hb5
  rw [open_184 t2 f0]
  have b5 := hb4.trans (hb5.mono hb4.size)
  clear f0 hb4 hb5 hAll' HLC
  go_wp2_with fail
  refine (cWk _).mono ?_
  rintro e w6 ⟨rfl, hb6⟩
  go_wp2_with fail
  go_ret
  exact ⟨rfl, b5.trans (hb6.mono b5.size)⟩
end Go.Proofs.YtkpiaenpjnajiaaGreatDoor
