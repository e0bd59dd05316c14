/- The machines that are played, of a longer list. -/
import Derived.Test.YtnhbaigagphpmaaBLaw
namespace Go.Proofs.Ytnhbaigagphpmaa
open Go.ChangeShapes Go.WideShapes Go.ChangeAt Go.RowKit Go.Joins Go.Deep
set_option linter.unusedVariables false

set_option maxRecDepth 100000 in
set_option maxHeartbeats 1600000 in
theorem machines7_any (pa : Option Addr) (la ca : Nat) (xa : List (Bool × Int)) (hla : la ≤ 1000) (w : World) (ha : IsAbis w pa la ca xa) :
    Calls Try.prog 6 #[.slice pa la ca] w (MachP w) := by
  have hxl := ha.2.1
  have hya := (ha.below (below_box1 w (.cells #[.bool false, .int .i64 4, .bool true, .int .i64 2, .bool false, .int .i64 2, .bool true, .int .i64 4] 38))).yields
  have hown0 := ownsRow_lit w w.heap.size 38 2 4 #[.bool false, .int .i64 4, .bool true, .int .i64 2, .bool false, .int .i64 2, .bool true, .int .i64 4] (Nat.le_refl _) rfl (by decide)
  obtain ⟨j0, gi, gz0, gz1, gz2⟩ := info_parts Try.infoAbi
  have HXL := Lib.hid hxl
  clear ha hxl
  go_enter Try.func6, Try.ntmps6
  go_wp2_with (first | (at_builtin; refine wpList_append_any rfl _ _ 22 rfl w.heap.size 38 j0 _ 2 16 Try.underlying22 gi gz0 gz1 gz2 rfl (by decide) _ 4 _ rfl hown0 (fun h => by cases h) _ _ _ _ rfl hya ?_ ?_ ?_ ?_))
  · unfold maxLen; omega
  · omega
  all_goals try (simp; done)
  · intro v2 w2 hown3 hgrow3 hne3
    have hbel : Below w.heap.size w w2 := (((Below.refl _ _).alloc (Nat.le_refl _) _).grown hgrow3 (by simp) (fun k hk => by simp [Value.ownBlock] at hk; omega))
    replace hown3 : w2.ownsRow w.heap.size 38 2 v2 (4 + la) (abiCells (four ++ xa)) := by simpa [abiCells, four] using hown3
    obtain ⟨g, cap, rfl, hncap, hge, hlt, hcells⟩ := ownsRow_row hown3 hne3
    have hall : ∀ i, i < 4 + la → w2.cell? ⟨g, i * 2, none⟩ = some (.bool ((four ++ xa).getD i (false, 0)).1) ∧ w2.cell? ⟨g, i * 2 + 1, none⟩ = some (.int .i64 ((four ++ xa).getD i (false, 0)).2) := fun i hi => by
      have h1 := abiCells_get (four ++ xa) i (by rw [List.length_append, HXL.out]; simp [four]; omega)
      rw [Nat.mul_comm 2 i] at h1
      exact ⟨hcells _ _ h1.1, hcells _ _ h1.2⟩
    clear hown0 hown3 hgrow3 hne3 hya gi gz0 gz1 gz2 hcells
    by_cases h6 : 6 < 4 + la
    · have t0 : decide ((6 : Int) < ((4 + la : Nat) : Int)) = true := by simp; omega
      have t1 : decide ((6 : Int) < 4 + (la : Int)) = true := by simp; omega
      have hc6 : 6 ≤ cap := by omega
      have hc7 : (6 : Int) ≤ (cap : Int) := by omega
      have fin : MachP w (.returned (.slice (some ⟨g, 0, none⟩) 6 cap)) w2 := ⟨g, 6, cap, (four ++ xa).take 6, rfl, by omega, by omega, hge, ⟨hlt, by rw [List.length_take, List.length_append, HXL.out]; simp [four]; omega, fun i hi => by
        have h1 := hall i (by omega)
        have e : ((four ++ xa).take 6).getD i (false, 0) = (four ++ xa).getD i (false, 0) := by simp [List.getD, hi]
        rw [e]; exact h1⟩, hbel⟩
      clear hall hbel hge hlt
      go_wp2_with fail
      go_ret
      exact fin
    · have t0 : decide ((6 : Int) < ((4 + la : Nat) : Int)) = false := by simp; omega
      have t1 : decide ((6 : Int) < 4 + (la : Int)) = false := by simp; omega
      have fin : MachP w (.returned (.slice (some ⟨g, 0, none⟩) (4 + la) cap)) w2 := ⟨g, 4 + la, cap, four ++ xa, rfl, by omega, by omega, hge, ⟨hlt, by rw [List.length_append, HXL.out]; rfl, hall⟩, hbel⟩
      clear hall hbel hge hlt
      go_wp2_with fail
      go_ret
      exact fin
end Go.Proofs.Ytnhbaigagphpmaa
