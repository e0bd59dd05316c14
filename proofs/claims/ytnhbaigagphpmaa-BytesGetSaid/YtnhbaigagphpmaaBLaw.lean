/- The statements of package bytes: what is played, which machines, the page's example. -/
import Derived.Test.YtnhbaigagphpmaaBBack
namespace Go.Proofs.Ytnhbaigagphpmaa
open Go.ChangeShapes Go.WideShapes Go.ChangeAt Go.RowKit Go.Joins Go.Deep
set_option linter.unusedVariables false

def HeavyP (la ls lb : Nat) (w : World) (e : Ending) (w' : World) : Prop := ∃ hv : Bool, e = .returned (.bool hv) ∧ (hv = false → la + ls + lb ≤ 300) ∧ Below w.heap.size w w'
theorem heavy_any (pa ps pb : Option Addr) (la ca ls cs lb cb : Nat) (ha : la ≤ 140737488355328) (hs : ls ≤ 140737488355328) (hb : lb ≤ 140737488355328) (w : World) :
    Calls Try.prog 5 #[.agg #[.slice pa la ca, .slice ps ls cs, .slice pb lb cb]] w (HeavyP la ls lb w) := by
  by_cases h : la + ls + lb ≤ 300
  · have t0 : decide ((300 : Int) < (la : Int) + (ls : Int) + (lb : Int)) = false := by simp; omega
    have HH := Lib.hid h
    go_enter Try.func5, Try.ntmps5
    go_wp2
    go_ret
    exact ⟨false, rfl, fun _ => HH.out, below_box1 _ _⟩
  · have t0 : decide ((300 : Int) < (la : Int) + (ls : Int) + (lb : Int)) = true := by simp; omega
    have iw1 : wrap64 ((la : Int) + (ls : Int)) = (la : Int) + ls := by unfold wrap64; omega
    have iw2 : wrap64 ((la : Int) + (ls : Int) + (lb : Int)) = (la : Int) + ls + lb := by unfold wrap64; omega
    clear h
    go_enter Try.func5, Try.ntmps5
    go_wp2
    go_ret
    exact ⟨true, rfl, (fun h => by cases h), below_box1 _ _⟩
/-- so many machines in a row -/
def MachAt (w : World) (g m : Nat) (fa : List (Bool × Int)) : Prop := g < w.heap.size ∧ fa.length = m ∧ ∀ i, i < m → w.cell? ⟨g, i * 2, none⟩ = some (.bool (fa.getD i (false, 0)).1) ∧ w.cell? ⟨g, i * 2 + 1, none⟩ = some (.int .i64 (fa.getD i (false, 0)).2)
theorem MachAt.below {w w' : World} {g m : Nat} {fa : List (Bool × Int)} (h : MachAt w g m fa) (hb : Below w.heap.size w w') : MachAt w' g m fa :=
  ⟨by have := h.1; have := hb.size; omega, h.2.1, fun i hi => ⟨cell_below (h.2.2 i hi).1 hb, cell_below (h.2.2 i hi).2 hb⟩⟩
def MachP (w : World) (e : Ending) (w' : World) : Prop := ∃ g m cap fa, e = .returned (.slice (some ⟨g, 0, none⟩) m cap) ∧ 4 ≤ m ∧ m ≤ 6 ∧ w.heap.size ≤ g ∧ MachAt w' g m fa ∧ Below w.heap.size w w'
theorem Try.infoAbi : (Try.prog.info? 38).map (fun i => (i.zero, i.size, i.bytes)) = some (some (.agg #[.bool false, .int .i64 0]), 2, 16) := by kernel_rfl
theorem ownsRow_row {w : World} {base e size : Nat} {v : Value} {n : Nat} {xs : List Value} (h : w.ownsRow base e size v n xs) (hv : v ≠ .slice none 0 0) :
    ∃ g cap, v = .slice (some ⟨g, 0, none⟩) n cap ∧ n ≤ cap ∧ base ≤ g ∧ g < w.heap.size ∧ ∀ j u, xs[j]? = some u → w.cell? ⟨g, j, none⟩ = some u := by
  obtain ⟨hl, ⟨rfl, _⟩ | ⟨g, cap, cur, rfl, hb, hg, hn, hm, hc, hx⟩⟩ := h
  · exact absurd rfl hv
  · refine ⟨g, cap, rfl, hn, hb, ?_, fun j u hu => ?_⟩
    · rcases Nat.lt_or_ge g w.heap.size with h' | h'
      · exact h'
      · rw [Array.getElem?_eq_none h'] at hg; cases hg
    · rw [cell_of_block hg]
      rw [← hx, List.getElem?_take] at hu
      split at hu
      · simpa using hu
      · cases hu
def four : List (Bool × Int) := [(false, 4), (true, 2), (false, 2), (true, 4)]
set_option maxRecDepth 100000 in
set_option maxHeartbeats 1600000 in
theorem machines_any (pa : Option Addr) (la ca : Nat) (xa : List (Bool × Int)) (hla : la ≤ 300) (w : World) (ha : IsAbis w pa la ca xa) :
    Calls Try.prog 6 #[.slice pa la ca] w (MachP w) := by
  have hxl := ha.2.1
  have hya := (ha.below (below_box1 w (.cells #[.bool false, .int .i64 4, .bool true, .int .i64 2, .bool false, .int .i64 2, .bool true, .int .i64 4] 38))).yields
  have hown0 := ownsRow_lit w w.heap.size 38 2 4 #[.bool false, .int .i64 4, .bool true, .int .i64 2, .bool false, .int .i64 2, .bool true, .int .i64 4] (Nat.le_refl _) rfl (by decide)
  obtain ⟨j0, gi, gz0, gz1, gz2⟩ := info_parts Try.infoAbi
  have HXL := Lib.hid hxl
  clear ha hxl
  go_enter Try.func6, Try.ntmps6
  go_wp2_with (first | (at_builtin; refine wpList_append_any rfl _ _ 22 rfl w.heap.size 38 j0 _ 2 16 Try.underlying22 gi gz0 gz1 gz2 rfl (by decide) _ 4 _ rfl hown0 (fun h => by cases h) _ _ _ _ rfl hya ?_ ?_ ?_ ?_))
  · unfold maxLen; omega
  · omega
  all_goals try (simp; done)
  · intro v2 w2 hown3 hgrow3 hne3
    have hbel : Below w.heap.size w w2 := (((Below.refl _ _).alloc (Nat.le_refl _) _).grown hgrow3 (by simp) (fun k hk => by simp [Value.ownBlock] at hk; omega))
    replace hown3 : w2.ownsRow w.heap.size 38 2 v2 (4 + la) (abiCells (four ++ xa)) := by simpa [abiCells, four] using hown3
    obtain ⟨g, cap, rfl, hncap, hge, hlt, hcells⟩ := ownsRow_row hown3 hne3
    have hall : ∀ i, i < 4 + la → w2.cell? ⟨g, i * 2, none⟩ = some (.bool ((four ++ xa).getD i (false, 0)).1) ∧ w2.cell? ⟨g, i * 2 + 1, none⟩ = some (.int .i64 ((four ++ xa).getD i (false, 0)).2) := fun i hi => by
      have h1 := abiCells_get (four ++ xa) i (by rw [List.length_append, HXL.out]; simp [four]; omega)
      rw [Nat.mul_comm 2 i] at h1
      exact ⟨hcells _ _ h1.1, hcells _ _ h1.2⟩
    clear hown0 hown3 hgrow3 hne3 hya gi gz0 gz1 gz2 hcells
    by_cases h6 : 6 < 4 + la
    · have t0 : decide ((6 : Int) < ((4 + la : Nat) : Int)) = true := by simp; omega
      have t1 : decide ((6 : Int) < 4 + (la : Int)) = true := by simp; omega
      have hc6 : 6 ≤ cap := by omega
      have hc7 : (6 : Int) ≤ (cap : Int) := by omega
      have fin : MachP w (.returned (.slice (some ⟨g, 0, none⟩) 6 cap)) w2 := ⟨g, 6, cap, (four ++ xa).take 6, rfl, by omega, by omega, hge, ⟨hlt, by rw [List.length_take, List.length_append, HXL.out]; simp [four]; omega, fun i hi => by
        have h1 := hall i (by omega)
        have e : ((four ++ xa).take 6).getD i (false, 0) = (four ++ xa).getD i (false, 0) := by simp [List.getD, hi]
        rw [e]; exact h1⟩, hbel⟩
      clear hall hbel hge hlt
      go_wp2_with fail
      go_ret
      exact fin
    · have t0 : decide ((6 : Int) < ((4 + la : Nat) : Int)) = false := by simp; omega
      have t1 : decide ((6 : Int) < 4 + (la : Int)) = false := by simp; omega
      have fin : MachP w (.returned (.slice (some ⟨g, 0, none⟩) (4 + la) cap)) w2 := ⟨g, 4 + la, cap, four ++ xa, rfl, by omega, by omega, hge, ⟨hlt, by rw [List.length_append, HXL.out]; rfl, hall⟩, hbel⟩
      clear hall hbel hge hlt
      go_wp2_with fail
      go_ret
      exact fin
set_option maxRecDepth 100000 in
set_option maxHeartbeats 1600000 in
theorem wakes_any (w : World) : Calls Try.prog 17 #[] w fun e w' => e = .returned (.bool true) ∧ Below w.heap.size w w' := by
  have hm : mayS 3 ⟨false, 258, 0, 0⟩ = true := by decide
  have hA : mayA 4 := Or.inr rfl
  have cP := fun w => Put_any true 4 3 hA ⟨false, 258, 0, 0⟩ hm w
  have e1 : putL true (sizN 4 3) ⟨false, 258, 0, 0⟩ = [digY 1, digY 2] := by first | rfl | simp [putL, putY, sizN, widI, wtN, digI, List.range_succ]
  have cG := fun B cap w hx => Get_any true 4 3 (some ⟨B, 0, none⟩) 2 cap [digY 1, digY 2] hA (by decide) rfl w hx (by decide)
  have e2 : getS true 3 [digY 1, digY 2] = (⟨false, 258, 0, 0⟩, 0) := by have := get_put (big := true) hA hm; rw [e1] at this; exact this
  rw [e1] at cP
  rw [e2] at cG
  rw [show sizN 4 3 = 2 from rfl] at cP
  have cN := fun w => num_any 0 w
  unfold scV at cP
  dsimp only at cP
  clear hm hA e1 e2
  go_enter Try.func17, Try.ntmps17
  go_wp2_with fail
  refine (cP _).mono ?_
  rintro e w1 ⟨B, rfl, hge, hB, hb1⟩
  go_wp2_with fail
  refine (cG _ _ _ (bys_of_at hB rfl (by decide))).mono ?_
  rintro e w2 ⟨rfl, hb2⟩
  have hB2 := At.below' hb2 hB
  have hb3 := hb1.trans (hb2.mono hb1.size)
  have hlt := hB2.lt
  have c1 : w2.cell? ⟨B, 1, none⟩ = some (.int .i64 1) := hB2.cell 1 rfl
  have c6 : w2.cell? ⟨B, 6, none⟩ = some (.int .i64 2) := hB2.cell 6 rfl
  have d1 := cell_alloc c1 (.cells #[.bool false, .int .i64 258, .int .i64 0, .int .i64 0] 33)
  have d6 := cell_alloc c6 (.cells #[.bool false, .int .i64 258, .int .i64 0, .int .i64 0] 33)
  unfold scA
  dsimp only
  clear hB hB2 hb1 hb2
  go_wp2_with (go_at_call 15; (with_reducible refine (cN _).mono ?_); rintro e w' ⟨rfl, rfl⟩)
  go_ret
  exact ⟨rfl, hb3.alloc hb3.size _⟩
end Go.Proofs.Ytnhbaigagphpmaa
