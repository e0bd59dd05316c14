/- The page's example of package mem. -/
import Derived.Test.YtnhbaigagphpmaaKDat
namespace Go.Proofs.Ytnhbaigagphpmaa
open Go.ChangeShapes Go.WideShapes Go.ChangeAt Go.RowKit Go.Joins Go.Deep
set_option linter.unusedVariables false

theorem num9_any (n : Int) (w : World) : Calls Try.prog 26 #[.int .i64 n] w fun e w' => e = .returned (.int .i64 n) ∧ w = w' := by
  go_enter Try.func26, Try.ntmps26
  go_wp2
  go_ret
  exact ⟨rfl, rfl⟩
theorem make_by8 (n : Nat) (hn : n = 4 ∨ n = 8) (w : World) :
    (Instr.makeSlice 24 (.int .i64 (n : Nat)) (.int .i64 (n : Nat))).run Try.prog w = .ok (.slice (some ⟨w.heap.size, 0, none⟩) n n) (w.alloc (.cells (byC (List.replicate n default)) 67)) := by
  obtain ⟨j0, gi, gz0, gz1, gz2⟩ := info_parts Try.infoByte
  have h := run_make (P := Try.prog) w 24 67 j0 _ Try.underlying24 gi gz0 .i64 .i64 (n : Nat) (n : Nat) (by omega) (by omega) (by rw [gz2]; omega) (by omega)
  rw [h, gz1, Int.toNat_natCast]
  have e : madeCells (Value.agg #[Value.int IntKind.i64 0, Value.int IntKind.i64 0, Value.int IntKind.i64 0, Value.int IntKind.i64 0, Value.int IntKind.i64 0]).cells (n * 5) = byC (List.replicate n default) := by
    refine Array.toList_inj.1 ?_
    rcases hn with rfl | rfl <;> simp [madeCells, byC, byCells, List.replicate, Value.cells, default, Array.toList_range, List.range_succ]
  rw [e]
def two8 (b n : Nat) : List BK := [⟨0, none, 0, []⟩, ⟨1, some ⟨b, 0, none⟩, n, List.replicate n default⟩]
theorem isMem_two {w : World} {g b n : Nat} (hn : n ≤ 1000) (hg : At w g #[.int .i64 0, .slice none 0 0, .int .i64 1, .slice (some ⟨b, 0, none⟩) n n] 97) (hb : At w b (byC (List.replicate n default)) 67) : IsMem w (some ⟨g, 0, none⟩) 2 (two8 b n) := by
  refine ⟨by decide, rfl, fun _ => ⟨g, 0, rfl, hg.lt, fun i hi => ?_⟩⟩
  have : i = 0 ∨ i = 1 := by omega
  rcases this with rfl | rfl
  · exact ⟨hg.cell 0 rfl, hg.cell 1 rfl, ⟨Nat.zero_le _, rfl, fun h => absurd h (Nat.lt_irrefl 0)⟩, Nat.le_refl _, fun _ => rfl⟩
  · have hl : (List.replicate n (default : BY)).length = n := by simp
    refine ⟨hg.cell 2 rfl, ?_, ?_, ?_, fun h => by cases h⟩
    · have := hg.cell 3 rfl
      show w.cell? ⟨g, 3, none⟩ = some (.slice (some ⟨b, 0, none⟩) (List.replicate n (default : BY)).length n)
      rw [hl]; exact this
    · show IsBys w (some ⟨b, 0, none⟩) (List.replicate n (default : BY)).length (List.replicate n default)
      rw [hl]; exact bys_of_at hb hl hn
    · show (List.replicate n (default : BY)).length ≤ n
      rw [hl]; exact Nat.le_refl _
def pt (b o : Int) : SC := ⟨true, 0, b, o⟩
set_option maxRecDepth 100000 in
set_option maxHeartbeats 3200000 in
theorem wakes9_any (w : World) : Calls Try.prog 29 #[] w fun e w' => e = .returned (.bool true) ∧ Below w.heap.size w w' := by
  have hA : mayA 4 := Or.inr rfl
  have cM : ∀ w, (Instr.makeSlice 24 (.int .i64 4) (.int .i64 4)).run Try.prog w = .ok (.slice (some ⟨w.heap.size, 0, none⟩) 4 4) (w.alloc (.cells (byC (List.replicate 4 default)) 67)) := fun w => make_by8 4 (Or.inl rfl) w
  have cN := fun x w => num9_any x w
  have h1 : hasM (two8 w.heap.size 4) (pt 0 0) = true := by kernel_rfl
  have h2 : hasM (two8 w.heap.size 4) (pt 1 2) = true := by kernel_rfl
  have hs : mayS 3 ⟨false, 7, 0, 0⟩ = true := by decide
  have cL1 := fun w' h => Load_yes false 4 1 (some ⟨w.heap.size + 1, 0, none⟩) 2 2 (two8 w.heap.size 4) (pt 0 0) hA (by decide) h1 w' h
  have cS := fun w' h => Store_yes false 4 3 (some ⟨w.heap.size + 1, 0, none⟩) 2 2 (two8 w.heap.size 4) (pt 1 2) ⟨false, 7, 0, 0⟩ hA hs h2 w' h
  have e1 : loadS false 4 1 (two8 w.heap.size 4) (pt 0 0) = (noS, 2) := by kernel_rfl
  have e2 : reachM (two8 w.heap.size 4) (pt 1 2) (sizN 4 3) = 0 := by kernel_rfl
  have hI := InM.of h2
  have e3 := load_store (big := false) (pp := 4) (k := 3) (m := two8 w.heap.size 4) (p := pt 1 2) hA hs hI (by decide) e2
  have e4 : storeD false 4 3 (two8 w.heap.size 4) (pt 1 2) ⟨false, 7, 0, 0⟩ = datM (stoM (two8 w.heap.size 4) (pt 1 2) (putL false (sizN 4 3) ⟨false, 7, 0, 0⟩)) := by unfold storeD; rw [e2]; rfl
  have h3 : hasM (stoM (two8 w.heap.size 4) (pt 1 2) (putL false (sizN 4 3) ⟨false, 7, 0, 0⟩)) (pt 1 2) = true := hasM_sto (n := sizN 4 3) (by unfold hasM at h2; simp only [Bool.and_eq_true] at h2; exact h2.1) hI e2 (putL_len _ _ _) (by decide) (mays_put (by decide) hs) h2
  rw [e1] at cL1
  rw [e2, e4] at cS
  generalize stoM (two8 w.heap.size 4) (pt 1 2) (putL false (sizN 4 3) ⟨false, 7, 0, 0⟩) = m2 at *
  have dB := At.alloc (At.new w (byC (List.replicate 4 default)) 67) (.cells #[.int .i64 0, .slice none 0 0, .int .i64 1, .slice (some ⟨w.heap.size, 0, none⟩) 4 4] 97)
  have dG := At.new2 w (.cells (byC (List.replicate 4 default)) 67) #[.int .i64 0, .slice none 0 0, .int .i64 1, .slice (some ⟨w.heap.size, 0, none⟩) 4 4] 97
  have hb0 := below_box2 w (.cells (byC (List.replicate 4 default)) 67) (.cells #[.int .i64 0, .slice none 0 0, .int .i64 1, .slice (some ⟨w.heap.size, 0, none⟩) 4 4] 97)
  have hmem := isMem_two (by decide) dG dB
  have HM := Lib.hid hmem
  have H3 := Lib.hid h3
  have E3 := Lib.hid e3
  simp only [scV_eq, pt] at cL1 cS
  clear h1 h2 hs e1 e2 e3 e4 hI h3 hA dB dG hmem
  generalize two8 w.heap.size 4 = m1 at *
  go_enter Try.func29, Try.ntmps29
  go_wp2_with fail
  refine (cL1 _ HM.out).mono ?_
  rintro e w1 ⟨rfl, hb1⟩
  have hb01 := hb0.trans (hb1.mono hb0.size)
  have hb02 := hb01.alloc hb01.size (.cells #[.bool false, .int .i64 0, .int .i64 0, .int .i64 0] 33)
  have hm2 := (HM.out.below hb1).below (below_box1 w1 (.cells #[.bool false, .int .i64 0, .int .i64 0, .int .i64 0] 33))
  have HM2 := Lib.hid hm2
  unfold scA noS
  dsimp only
  clear hb1 hb01 hm2 hb0
  go_wp2_with fail
  refine (cS _ HM2.out).mono ?_
  rintro e w2 ⟨B, capB, x, rfl, hown, hdat, hxl, hcap, hb2⟩
  have hb03 := hb02.trans (hb2.mono hb02.size)
  have hmx := hown.isMem hxl (by decide)
  have cL2 := Load_yes false 4 3 (some ⟨B, 0, none⟩) 2 capB x (pt 1 2) (Or.inr rfl) (by decide) (by rw [hasM_dat hdat]; exact H3.out) w2 hmx
  rw [loadS_dat hdat, E3.out] at cL2
  simp only [scV_eq, pt] at cL2
  clear hown hdat hxl hb2 hmx
  go_wp2_with fail
  refine cL2.mono ?_
  rintro e w3 ⟨rfl, hb3⟩
  have hb04 := (hb03.trans (hb3.mono hb03.size)).alloc (hb03.trans (hb3.mono hb03.size)).size (.cells #[.bool false, .int .i64 7, .int .i64 0, .int .i64 0] 33)
  unfold scA
  dsimp only
  clear hb3 hb03 hb02
  go_wp2_with (go_at_call 26; (with_reducible refine (cN _ _).mono ?_); rintro e w' ⟨rfl, rfl⟩)
  go_ret
  exact ⟨rfl, hb04⟩
end Go.Proofs.Ytnhbaigagphpmaa
