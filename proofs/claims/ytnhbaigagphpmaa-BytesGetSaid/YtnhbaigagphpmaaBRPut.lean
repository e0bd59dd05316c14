/- The document's own bytes of a scalar. -/
import Derived.Test.YtnhbaigagphpmaaBPutN
import Derived.Deep.Cut
import Derived.Deep.CutRange
namespace Go.Proofs.Ytnhbaigagphpmaa
open Go.ChangeShapes Go.WideShapes Go.ChangeAt Go.RowKit Go.Joins Go.Deep
set_option linter.unusedVariables false

/-- a row that is the call's own -/
def RowPost (L : List BY) (n : Nat) (w : World) (e : Ending) (w' : World) : Prop :=
  ∃ B, e = .returned (.slice (some ⟨B, 0, none⟩) n n) ∧ w.heap.size ≤ B ∧ At w' B (byC L) 67 ∧ Below w.heap.size w w'
theorem set_set_by (L : List BY) (j : Nat) (x y : BY) : (L.set j x).set j y = L.set j y := by simp
set_option maxRecDepth 100000 in
set_option maxHeartbeats 3200000 in
theorem rPut_n (big : Bool) (p k : Int) (hp : mayA p) (hk : 1 ≤ k ∧ k ≤ 7) (sn : Int) (w : World) :
    Calls Try.prog 30 #[.agg #[.bool big, .int .i64 p], .int .i64 k, .agg #[.bool false, .int .i64 sn, .int .i64 0, .int .i64 0]] w (RowPost (putL big (sizN p k) ⟨false, sn, 0, 0⟩) (sizN p k) w) := by
  have cS := fun w => rSize_any big p k hp hk w
  have hn := siz_cases hp hk
  generalize hnn : sizN p k = n at *
  have cM := fun w => make_by n hn w
  have ha := and_255
  have HN := Lib.hid hn
  have hput : ∀ i, putY big n ⟨false, sn, 0, 0⟩ i = digY (digI sn (wtN big n i)) := fun i => by simp [putY]
  have HY := Lib.hid hput
  have hn4 : n ≤ 4 := by omega
  have hn1 : 1 ≤ n := by omega
  have hn5 : (1 : Int) ≤ (n : Int) := by omega
  clear hnn hp hn hput hk
  have dS := At.new2 w (.cells #[.bool big, .int .i64 p] 38) #[.bool false, .int .i64 sn, .int .i64 0, .int .i64 0] 33
  have dA := At.alloc (At.new w #[.bool big, .int .i64 p] 38) (.cells #[.bool false, .int .i64 sn, .int .i64 0, .int .i64 0] 33)
  have hb0 := below_box2 w (.cells #[.bool big, .int .i64 p] 38) (.cells #[.bool false, .int .i64 sn, .int .i64 0, .int .i64 0] 33)
  go_enter Try.func30, Try.ntmps30
  go_wp2_with fail
  refine (cS _).mono ?_
  rintro e w2 ⟨rfl, hb1⟩
  replace dA := At.below' hb1 dA
  have dS0 := At.below' hb1 dS
  replace dS := At.below' hb1 dS
  replace hb0 := hb0.trans (hb1.mono hb0.size)
  have hS2 : w.heap.size + 1 < w2.heap.size := dS0.lt
  clear hb1 dS0
  have dB := At.new w2 (byC (List.replicate n default)) 67
  replace dA := At.alloc dA (.cells (byC (List.replicate n default)) 67)
  replace dS := At.alloc dS (.cells (byC (List.replicate n default)) 67)
  have hbB := hb0.alloc hb0.size (.cells (byC (List.replicate n default)) 67)
  have hB1 := hb0.size
  go_wp2_with fail
  generalize w2.alloc (.cells (byC (List.replicate n default)) 67) = w3 at *
  generalize w2.heap.size = B at *
  have HT := Lib.hid (show PutTill big n ⟨false, sn, 0, 0⟩ (List.replicate n default) 0 from ⟨by simp, fun i hi => by omega⟩)
  clear cS cM hb0
  go_loopw [9] (fun v wr => RelPut big n ⟨false, sn, 0, 0⟩ w B w.heap.size (w.heap.size + 1) #[.bool big, .int .i64 p] #[.bool false, .int .i64 sn, .int .i64 0, .int .i64 0] v wr) (fun v _ => n - (intOf v).toNat)
  case atStart => exact ⟨0, _, by omega, rfl, HT.out, dB, dA, dS, hbB⟩
  case round =>
    clear dB dA dS hbB HT
    obtain ⟨j, L, hj, rfl, hT, dB, dA, dS, hbr⟩ := hrel
    by_cases hlt : j < n
    · have a0 : wr.cell? ⟨w.heap.size, 0, none⟩ = some (.bool big) := dA.cell 0 rfl
      have s1 : wr.cell? ⟨w.heap.size + 1, 1, none⟩ = some (.int .i64 sn) := dS.cell 1 rfl
      have hj3 : (j : Int) < (n : Int) := by omega
      have hLs : j * 5 + 4 < (byC L).size := by rw [byC_size, hT.1]; omega
      have hLs2 : ∀ x, j * 5 + 4 < (byC (L.set j x)).size := fun x => by rw [byC_size, List.length_set, hT.1]; omega
      have hLl : j < L.length := by rw [hT.1]; omega
      have HTT := Lib.hid hT
      have hEq := HY.out j
      clear hT
      cases big
      · have hw : wtN false n j = 8 * (j) := by simp [wtN]
        have hk4 : j = 0 ∨ j = 1 ∨ j = 2 ∨ j = 3 := by omega
        rcases hk4 with hkk | hkk | hkk | hkk
        · have h8 : 8 * (j : Int) = 0 := by omega
          have hm : digI sn (wtN false n j) = sn % 256 := by rw [show wtN false n j = 0 by omega]; simp [digI]
          rw [hm] at hEq
          have HE := Lib.hid hEq
          have st := store5 dB (j * 5) hLs (.int .i64 1) (.int .i64 (sn % 256)) (.int .i64 0) (.int .i64 0) (.int .i64 0)
          have hbW := store5_below (Below.refl B wr) (Nat.le_refl _) (j * 5) (.int .i64 1) (.int .i64 (sn % 256)) (.int .i64 0) (.int .i64 0) (.int .i64 0)
          have e1 : At (((((wr.setCell ⟨B, j * 5, none⟩ (.int .i64 1)).setCell ⟨B, j * 5 + 1, none⟩ (.int .i64 (sn % 256))).setCell ⟨B, j * 5 + 2, none⟩ (.int .i64 0)).setCell ⟨B, j * 5 + 3, none⟩ (.int .i64 0)).setCell ⟨B, j * 5 + 4, none⟩ (.int .i64 0)) B (byC (L.set j (digY (sn % 256)))) 67 := store5_by dB j hLl (digY (sn % 256))
          have e2 := dA.below hbW (by omega)
          have e3 := dS.below hbW (by omega)
          have e4 := store5_below (B := B) hbr (by omega) (j * 5) (.int .i64 1) (.int .i64 (sn % 256)) (.int .i64 0) (.int .i64 0) (.int .i64 0)
          have E1 := Lib.hid e1
          have E2 := Lib.hid e2
          have E3 := Lib.hid e3
          have E4 := Lib.hid e4
          clear e1 e2 e3 e4 dB dA dS hbr hbW hEq hw hkk
          go_upto_region 10 with (fail)
          generalize (((((wr.setCell ⟨B, j * 5, none⟩ (.int .i64 1)).setCell ⟨B, j * 5 + 1, none⟩ (.int .i64 (sn % 256))).setCell ⟨B, j * 5 + 2, none⟩ (.int .i64 0)).setCell ⟨B, j * 5 + 3, none⟩ (.int .i64 0)).setCell ⟨B, j * 5 + 4, none⟩ (.int .i64 0)) = w7 at E1 E2 E3 E4 ⊢
          clear st a0 s1 h8
          have s0 : w7.cell? ⟨w.heap.size + 1, 0, none⟩ = some (.bool false) := E3.out.cell 0 rfl
          go_wp2
          go_roundw
          case rel => exact ⟨j + 1, _, by omega, by go_num, by have := HTT.out.next hlt; rw [HE.out] at this; exact this, E1.out, E2.out, E3.out, E4.out⟩
          case measure => simp [intOf]; omega
        · have h8 : 8 * (j : Int) = 8 := by omega
          have hm : digI sn (wtN false n j) = sn / 256 % 256 := by rw [show wtN false n j = 8 by omega]; simp [digI]
          rw [hm] at hEq
          have HE := Lib.hid hEq
          have st := store5 dB (j * 5) hLs (.int .i64 1) (.int .i64 (sn / 256 % 256)) (.int .i64 0) (.int .i64 0) (.int .i64 0)
          have hbW := store5_below (Below.refl B wr) (Nat.le_refl _) (j * 5) (.int .i64 1) (.int .i64 (sn / 256 % 256)) (.int .i64 0) (.int .i64 0) (.int .i64 0)
          have e1 : At (((((wr.setCell ⟨B, j * 5, none⟩ (.int .i64 1)).setCell ⟨B, j * 5 + 1, none⟩ (.int .i64 (sn / 256 % 256))).setCell ⟨B, j * 5 + 2, none⟩ (.int .i64 0)).setCell ⟨B, j * 5 + 3, none⟩ (.int .i64 0)).setCell ⟨B, j * 5 + 4, none⟩ (.int .i64 0)) B (byC (L.set j (digY (sn / 256 % 256)))) 67 := store5_by dB j hLl (digY (sn / 256 % 256))
          have e2 := dA.below hbW (by omega)
          have e3 := dS.below hbW (by omega)
          have e4 := store5_below (B := B) hbr (by omega) (j * 5) (.int .i64 1) (.int .i64 (sn / 256 % 256)) (.int .i64 0) (.int .i64 0) (.int .i64 0)
          have E1 := Lib.hid e1
          have E2 := Lib.hid e2
          have E3 := Lib.hid e3
          have E4 := Lib.hid e4
          clear e1 e2 e3 e4 dB dA dS hbr hbW hEq hw hkk
          go_upto_region 10 with (fail)
          generalize (((((wr.setCell ⟨B, j * 5, none⟩ (.int .i64 1)).setCell ⟨B, j * 5 + 1, none⟩ (.int .i64 (sn / 256 % 256))).setCell ⟨B, j * 5 + 2, none⟩ (.int .i64 0)).setCell ⟨B, j * 5 + 3, none⟩ (.int .i64 0)).setCell ⟨B, j * 5 + 4, none⟩ (.int .i64 0)) = w7 at E1 E2 E3 E4 ⊢
          clear st a0 s1 h8
          have s0 : w7.cell? ⟨w.heap.size + 1, 0, none⟩ = some (.bool false) := E3.out.cell 0 rfl
          go_wp2
          go_roundw
          case rel => exact ⟨j + 1, _, by omega, by go_num, by have := HTT.out.next hlt; rw [HE.out] at this; exact this, E1.out, E2.out, E3.out, E4.out⟩
          case measure => simp [intOf]; omega
        · have h8 : 8 * (j : Int) = 16 := by omega
          have hm : digI sn (wtN false n j) = sn / 65536 % 256 := by rw [show wtN false n j = 16 by omega]; simp [digI]
          rw [hm] at hEq
          have HE := Lib.hid hEq
          have st := store5 dB (j * 5) hLs (.int .i64 1) (.int .i64 (sn / 65536 % 256)) (.int .i64 0) (.int .i64 0) (.int .i64 0)
          have hbW := store5_below (Below.refl B wr) (Nat.le_refl _) (j * 5) (.int .i64 1) (.int .i64 (sn / 65536 % 256)) (.int .i64 0) (.int .i64 0) (.int .i64 0)
          have e1 : At (((((wr.setCell ⟨B, j * 5, none⟩ (.int .i64 1)).setCell ⟨B, j * 5 + 1, none⟩ (.int .i64 (sn / 65536 % 256))).setCell ⟨B, j * 5 + 2, none⟩ (.int .i64 0)).setCell ⟨B, j * 5 + 3, none⟩ (.int .i64 0)).setCell ⟨B, j * 5 + 4, none⟩ (.int .i64 0)) B (byC (L.set j (digY (sn / 65536 % 256)))) 67 := store5_by dB j hLl (digY (sn / 65536 % 256))
          have e2 := dA.below hbW (by omega)
          have e3 := dS.below hbW (by omega)
          have e4 := store5_below (B := B) hbr (by omega) (j * 5) (.int .i64 1) (.int .i64 (sn / 65536 % 256)) (.int .i64 0) (.int .i64 0) (.int .i64 0)
          have E1 := Lib.hid e1
          have E2 := Lib.hid e2
          have E3 := Lib.hid e3
          have E4 := Lib.hid e4
          clear e1 e2 e3 e4 dB dA dS hbr hbW hEq hw hkk
          go_upto_region 10 with (fail)
          generalize (((((wr.setCell ⟨B, j * 5, none⟩ (.int .i64 1)).setCell ⟨B, j * 5 + 1, none⟩ (.int .i64 (sn / 65536 % 256))).setCell ⟨B, j * 5 + 2, none⟩ (.int .i64 0)).setCell ⟨B, j * 5 + 3, none⟩ (.int .i64 0)).setCell ⟨B, j * 5 + 4, none⟩ (.int .i64 0)) = w7 at E1 E2 E3 E4 ⊢
          clear st a0 s1 h8
          have s0 : w7.cell? ⟨w.heap.size + 1, 0, none⟩ = some (.bool false) := E3.out.cell 0 rfl
          go_wp2
          go_roundw
          case rel => exact ⟨j + 1, _, by omega, by go_num, by have := HTT.out.next hlt; rw [HE.out] at this; exact this, E1.out, E2.out, E3.out, E4.out⟩
          case measure => simp [intOf]; omega
        · have h8 : 8 * (j : Int) = 24 := by omega
          have hm : digI sn (wtN false n j) = sn / 16777216 % 256 := by rw [show wtN false n j = 24 by omega]; simp [digI]
          rw [hm] at hEq
          have HE := Lib.hid hEq
          have st := store5 dB (j * 5) hLs (.int .i64 1) (.int .i64 (sn / 16777216 % 256)) (.int .i64 0) (.int .i64 0) (.int .i64 0)
          have hbW := store5_below (Below.refl B wr) (Nat.le_refl _) (j * 5) (.int .i64 1) (.int .i64 (sn / 16777216 % 256)) (.int .i64 0) (.int .i64 0) (.int .i64 0)
          have e1 : At (((((wr.setCell ⟨B, j * 5, none⟩ (.int .i64 1)).setCell ⟨B, j * 5 + 1, none⟩ (.int .i64 (sn / 16777216 % 256))).setCell ⟨B, j * 5 + 2, none⟩ (.int .i64 0)).setCell ⟨B, j * 5 + 3, none⟩ (.int .i64 0)).setCell ⟨B, j * 5 + 4, none⟩ (.int .i64 0)) B (byC (L.set j (digY (sn / 16777216 % 256)))) 67 := store5_by dB j hLl (digY (sn / 16777216 % 256))
          have e2 := dA.below hbW (by omega)
          have e3 := dS.below hbW (by omega)
          have e4 := store5_below (B := B) hbr (by omega) (j * 5) (.int .i64 1) (.int .i64 (sn / 16777216 % 256)) (.int .i64 0) (.int .i64 0) (.int .i64 0)
          have E1 := Lib.hid e1
          have E2 := Lib.hid e2
          have E3 := Lib.hid e3
          have E4 := Lib.hid e4
          clear e1 e2 e3 e4 dB dA dS hbr hbW hEq hw hkk
          go_upto_region 10 with (fail)
          generalize (((((wr.setCell ⟨B, j * 5, none⟩ (.int .i64 1)).setCell ⟨B, j * 5 + 1, none⟩ (.int .i64 (sn / 16777216 % 256))).setCell ⟨B, j * 5 + 2, none⟩ (.int .i64 0)).setCell ⟨B, j * 5 + 3, none⟩ (.int .i64 0)).setCell ⟨B, j * 5 + 4, none⟩ (.int .i64 0)) = w7 at E1 E2 E3 E4 ⊢
          clear st a0 s1 h8
          have s0 : w7.cell? ⟨w.heap.size + 1, 0, none⟩ = some (.bool false) := E3.out.cell 0 rfl
          go_wp2
          go_roundw
          case rel => exact ⟨j + 1, _, by omega, by go_num, by have := HTT.out.next hlt; rw [HE.out] at this; exact this, E1.out, E2.out, E3.out, E4.out⟩
          case measure => simp [intOf]; omega
      · have hw : wtN true n j = 8 * (n - 1 - j) := by simp [wtN]
        have hk4 : n - 1 - j = 0 ∨ n - 1 - j = 1 ∨ n - 1 - j = 2 ∨ n - 1 - j = 3 := by omega
        rcases hk4 with hkk | hkk | hkk | hkk
        · have h8 : (n : Int) - 1 - (j : Int) = 0 := by omega
          have hm : digI sn (wtN true n j) = sn % 256 := by rw [show wtN true n j = 0 by omega]; simp [digI]
          rw [hm] at hEq
          have HE := Lib.hid hEq
          have st := store5 dB (j * 5) hLs (.int .i64 1) (.int .i64 (sn % 256)) (.int .i64 0) (.int .i64 0) (.int .i64 0)
          have hbW := store5_below (Below.refl B wr) (Nat.le_refl _) (j * 5) (.int .i64 1) (.int .i64 (sn % 256)) (.int .i64 0) (.int .i64 0) (.int .i64 0)
          have e1 : At (((((wr.setCell ⟨B, j * 5, none⟩ (.int .i64 1)).setCell ⟨B, j * 5 + 1, none⟩ (.int .i64 (sn % 256))).setCell ⟨B, j * 5 + 2, none⟩ (.int .i64 0)).setCell ⟨B, j * 5 + 3, none⟩ (.int .i64 0)).setCell ⟨B, j * 5 + 4, none⟩ (.int .i64 0)) B (byC (L.set j (digY (sn % 256)))) 67 := store5_by dB j hLl (digY (sn % 256))
          have e2 := dA.below hbW (by omega)
          have e3 := dS.below hbW (by omega)
          have e4 := store5_below (B := B) hbr (by omega) (j * 5) (.int .i64 1) (.int .i64 (sn % 256)) (.int .i64 0) (.int .i64 0) (.int .i64 0)
          have E1 := Lib.hid e1
          have E2 := Lib.hid e2
          have E3 := Lib.hid e3
          have E4 := Lib.hid e4
          clear e1 e2 e3 e4 dB dA dS hbr hbW hEq hw hkk
          go_upto_region 10 with (fail)
          generalize (((((wr.setCell ⟨B, j * 5, none⟩ (.int .i64 1)).setCell ⟨B, j * 5 + 1, none⟩ (.int .i64 (sn % 256))).setCell ⟨B, j * 5 + 2, none⟩ (.int .i64 0)).setCell ⟨B, j * 5 + 3, none⟩ (.int .i64 0)).setCell ⟨B, j * 5 + 4, none⟩ (.int .i64 0)) = w7 at E1 E2 E3 E4 ⊢
          clear st a0 s1 h8
          have s0 : w7.cell? ⟨w.heap.size + 1, 0, none⟩ = some (.bool false) := E3.out.cell 0 rfl
          go_wp2
          go_roundw
          case rel => exact ⟨j + 1, _, by omega, by go_num, by have := HTT.out.next hlt; rw [HE.out] at this; exact this, E1.out, E2.out, E3.out, E4.out⟩
          case measure => simp [intOf]; omega
        · have h8 : (n : Int) - 1 - (j : Int) = 1 := by omega
          have hm : digI sn (wtN true n j) = sn / 256 % 256 := by rw [show wtN true n j = 8 by omega]; simp [digI]
          rw [hm] at hEq
          have HE := Lib.hid hEq
          have st := store5 dB (j * 5) hLs (.int .i64 1) (.int .i64 (sn / 256 % 256)) (.int .i64 0) (.int .i64 0) (.int .i64 0)
          have hbW := store5_below (Below.refl B wr) (Nat.le_refl _) (j * 5) (.int .i64 1) (.int .i64 (sn / 256 % 256)) (.int .i64 0) (.int .i64 0) (.int .i64 0)
          have e1 : At (((((wr.setCell ⟨B, j * 5, none⟩ (.int .i64 1)).setCell ⟨B, j * 5 + 1, none⟩ (.int .i64 (sn / 256 % 256))).setCell ⟨B, j * 5 + 2, none⟩ (.int .i64 0)).setCell ⟨B, j * 5 + 3, none⟩ (.int .i64 0)).setCell ⟨B, j * 5 + 4, none⟩ (.int .i64 0)) B (byC (L.set j (digY (sn / 256 % 256)))) 67 := store5_by dB j hLl (digY (sn / 256 % 256))
          have e2 := dA.below hbW (by omega)
          have e3 := dS.below hbW (by omega)
          have e4 := store5_below (B := B) hbr (by omega) (j * 5) (.int .i64 1) (.int .i64 (sn / 256 % 256)) (.int .i64 0) (.int .i64 0) (.int .i64 0)
          have E1 := Lib.hid e1
          have E2 := Lib.hid e2
          have E3 := Lib.hid e3
          have E4 := Lib.hid e4
          clear e1 e2 e3 e4 dB dA dS hbr hbW hEq hw hkk
          go_upto_region 10 with (fail)
          generalize (((((wr.setCell ⟨B, j * 5, none⟩ (.int .i64 1)).setCell ⟨B, j * 5 + 1, none⟩ (.int .i64 (sn / 256 % 256))).setCell ⟨B, j * 5 + 2, none⟩ (.int .i64 0)).setCell ⟨B, j * 5 + 3, none⟩ (.int .i64 0)).setCell ⟨B, j * 5 + 4, none⟩ (.int .i64 0)) = w7 at E1 E2 E3 E4 ⊢
          clear st a0 s1 h8
          have s0 : w7.cell? ⟨w.heap.size + 1, 0, none⟩ = some (.bool false) := E3.out.cell 0 rfl
          go_wp2
          go_roundw
          case rel => exact ⟨j + 1, _, by omega, by go_num, by have := HTT.out.next hlt; rw [HE.out] at this; exact this, E1.out, E2.out, E3.out, E4.out⟩
          case measure => simp [intOf]; omega
        · have h8 : (n : Int) - 1 - (j : Int) = 2 := by omega
          have hm : digI sn (wtN true n j) = sn / 65536 % 256 := by rw [show wtN true n j = 16 by omega]; simp [digI]
          rw [hm] at hEq
          have HE := Lib.hid hEq
          have st := store5 dB (j * 5) hLs (.int .i64 1) (.int .i64 (sn / 65536 % 256)) (.int .i64 0) (.int .i64 0) (.int .i64 0)
          have hbW := store5_below (Below.refl B wr) (Nat.le_refl _) (j * 5) (.int .i64 1) (.int .i64 (sn / 65536 % 256)) (.int .i64 0) (.int .i64 0) (.int .i64 0)
          have e1 : At (((((wr.setCell ⟨B, j * 5, none⟩ (.int .i64 1)).setCell ⟨B, j * 5 + 1, none⟩ (.int .i64 (sn / 65536 % 256))).setCell ⟨B, j * 5 + 2, none⟩ (.int .i64 0)).setCell ⟨B, j * 5 + 3, none⟩ (.int .i64 0)).setCell ⟨B, j * 5 + 4, none⟩ (.int .i64 0)) B (byC (L.set j (digY (sn / 65536 % 256)))) 67 := store5_by dB j hLl (digY (sn / 65536 % 256))
          have e2 := dA.below hbW (by omega)
          have e3 := dS.below hbW (by omega)
          have e4 := store5_below (B := B) hbr (by omega) (j * 5) (.int .i64 1) (.int .i64 (sn / 65536 % 256)) (.int .i64 0) (.int .i64 0) (.int .i64 0)
          have E1 := Lib.hid e1
          have E2 := Lib.hid e2
          have E3 := Lib.hid e3
          have E4 := Lib.hid e4
          clear e1 e2 e3 e4 dB dA dS hbr hbW hEq hw hkk
          go_upto_region 10 with (fail)
          generalize (((((wr.setCell ⟨B, j * 5, none⟩ (.int .i64 1)).setCell ⟨B, j * 5 + 1, none⟩ (.int .i64 (sn / 65536 % 256))).setCell ⟨B, j * 5 + 2, none⟩ (.int .i64 0)).setCell ⟨B, j * 5 + 3, none⟩ (.int .i64 0)).setCell ⟨B, j * 5 + 4, none⟩ (.int .i64 0)) = w7 at E1 E2 E3 E4 ⊢
          clear st a0 s1 h8
          have s0 : w7.cell? ⟨w.heap.size + 1, 0, none⟩ = some (.bool false) := E3.out.cell 0 rfl
          go_wp2
          go_roundw
          case rel => exact ⟨j + 1, _, by omega, by go_num, by have := HTT.out.next hlt; rw [HE.out] at this; exact this, E1.out, E2.out, E3.out, E4.out⟩
          case measure => simp [intOf]; omega
        · have h8 : (n : Int) - 1 - (j : Int) = 3 := by omega
          have hm : digI sn (wtN true n j) = sn / 16777216 % 256 := by rw [show wtN true n j = 24 by omega]; simp [digI]
          rw [hm] at hEq
          have HE := Lib.hid hEq
          have st := store5 dB (j * 5) hLs (.int .i64 1) (.int .i64 (sn / 16777216 % 256)) (.int .i64 0) (.int .i64 0) (.int .i64 0)
          have hbW := store5_below (Below.refl B wr) (Nat.le_refl _) (j * 5) (.int .i64 1) (.int .i64 (sn / 16777216 % 256)) (.int .i64 0) (.int .i64 0) (.int .i64 0)
          have e1 : At (((((wr.setCell ⟨B, j * 5, none⟩ (.int .i64 1)).setCell ⟨B, j * 5 + 1, none⟩ (.int .i64 (sn / 16777216 % 256))).setCell ⟨B, j * 5 + 2, none⟩ (.int .i64 0)).setCell ⟨B, j * 5 + 3, none⟩ (.int .i64 0)).setCell ⟨B, j * 5 + 4, none⟩ (.int .i64 0)) B (byC (L.set j (digY (sn / 16777216 % 256)))) 67 := store5_by dB j hLl (digY (sn / 16777216 % 256))
          have e2 := dA.below hbW (by omega)
          have e3 := dS.below hbW (by omega)
          have e4 := store5_below (B := B) hbr (by omega) (j * 5) (.int .i64 1) (.int .i64 (sn / 16777216 % 256)) (.int .i64 0) (.int .i64 0) (.int .i64 0)
          have E1 := Lib.hid e1
          have E2 := Lib.hid e2
          have E3 := Lib.hid e3
          have E4 := Lib.hid e4
          clear e1 e2 e3 e4 dB dA dS hbr hbW hEq hw hkk
          go_upto_region 10 with (fail)
          generalize (((((wr.setCell ⟨B, j * 5, none⟩ (.int .i64 1)).setCell ⟨B, j * 5 + 1, none⟩ (.int .i64 (sn / 16777216 % 256))).setCell ⟨B, j * 5 + 2, none⟩ (.int .i64 0)).setCell ⟨B, j * 5 + 3, none⟩ (.int .i64 0)).setCell ⟨B, j * 5 + 4, none⟩ (.int .i64 0)) = w7 at E1 E2 E3 E4 ⊢
          clear st a0 s1 h8
          have s0 : w7.cell? ⟨w.heap.size + 1, 0, none⟩ = some (.bool false) := E3.out.cell 0 rfl
          go_wp2
          go_roundw
          case rel => exact ⟨j + 1, _, by omega, by go_num, by have := HTT.out.next hlt; rw [HE.out] at this; exact this, E1.out, E2.out, E3.out, E4.out⟩
          case measure => simp [intOf]; omega
    · obtain rfl : j = n := by omega
      have HD := Lib.hid hT.done
      clear hT
      go_wp2
      go_ret
      exact ⟨B, rfl, by omega, by rw [← HD.out]; exact dB, hbr⟩
set_option maxRecDepth 100000 in
set_option maxHeartbeats 3200000 in
theorem rPut_z (big : Bool) (p k : Int) (hp : mayA p) (hk : 1 ≤ k ∧ k ≤ 7)  (w : World) :
    Calls Try.prog 30 #[.agg #[.bool big, .int .i64 p], .int .i64 k, .agg #[.bool true, .int .i64 0, .int .i64 0, .int .i64 0]] w (RowPost (putL big (sizN p k) ⟨true, 0, 0, 0⟩) (sizN p k) w) := by
  have cS := fun w => rSize_any big p k hp hk w
  have hn := siz_cases hp hk
  generalize hnn : sizN p k = n at *
  have cM := fun w => make_by n hn w
  have ha := and_255
  have HN := Lib.hid hn
  have hput : ∀ i, putY big n ⟨true, 0, 0, 0⟩ i = digY 0 := fun i => by simp [putY, digI]
  have HY := Lib.hid hput
  have hn4 : n ≤ 4 := by omega
  have hn1 : 1 ≤ n := by omega
  have hn5 : (1 : Int) ≤ (n : Int) := by omega
  clear hnn hp hn hput hk
  have dS := At.new2 w (.cells #[.bool big, .int .i64 p] 38) #[.bool true, .int .i64 0, .int .i64 0, .int .i64 0] 33
  have dA := At.alloc (At.new w #[.bool big, .int .i64 p] 38) (.cells #[.bool true, .int .i64 0, .int .i64 0, .int .i64 0] 33)
  have hb0 := below_box2 w (.cells #[.bool big, .int .i64 p] 38) (.cells #[.bool true, .int .i64 0, .int .i64 0, .int .i64 0] 33)
  go_enter Try.func30, Try.ntmps30
  go_wp2_with fail
  refine (cS _).mono ?_
  rintro e w2 ⟨rfl, hb1⟩
  replace dA := At.below' hb1 dA
  have dS0 := At.below' hb1 dS
  replace dS := At.below' hb1 dS
  replace hb0 := hb0.trans (hb1.mono hb0.size)
  have hS2 : w.heap.size + 1 < w2.heap.size := dS0.lt
  clear hb1 dS0
  have dB := At.new w2 (byC (List.replicate n default)) 67
  replace dA := At.alloc dA (.cells (byC (List.replicate n default)) 67)
  replace dS := At.alloc dS (.cells (byC (List.replicate n default)) 67)
  have hbB := hb0.alloc hb0.size (.cells (byC (List.replicate n default)) 67)
  have hB1 := hb0.size
  go_wp2_with fail
  generalize w2.alloc (.cells (byC (List.replicate n default)) 67) = w3 at *
  generalize w2.heap.size = B at *
  have HT := Lib.hid (show PutTill big n ⟨true, 0, 0, 0⟩ (List.replicate n default) 0 from ⟨by simp, fun i hi => by omega⟩)
  clear cS cM hb0
  go_loopw [9] (fun v wr => RelPut big n ⟨true, 0, 0, 0⟩ w B w.heap.size (w.heap.size + 1) #[.bool big, .int .i64 p] #[.bool true, .int .i64 0, .int .i64 0, .int .i64 0] v wr) (fun v _ => n - (intOf v).toNat)
  case atStart => exact ⟨0, _, by omega, rfl, HT.out, dB, dA, dS, hbB⟩
  case round =>
    clear dB dA dS hbB HT
    obtain ⟨j, L, hj, rfl, hT, dB, dA, dS, hbr⟩ := hrel
    by_cases hlt : j < n
    · have a0 : wr.cell? ⟨w.heap.size, 0, none⟩ = some (.bool big) := dA.cell 0 rfl
      have s1 : wr.cell? ⟨w.heap.size + 1, 1, none⟩ = some (.int .i64 0) := dS.cell 1 rfl
      have hj3 : (j : Int) < (n : Int) := by omega
      have hLs : j * 5 + 4 < (byC L).size := by rw [byC_size, hT.1]; omega
      have hLs2 : ∀ x, j * 5 + 4 < (byC (L.set j x)).size := fun x => by rw [byC_size, List.length_set, hT.1]; omega
      have hLl : j < L.length := by rw [hT.1]; omega
      have HTT := Lib.hid hT
      have hEq := HY.out j
      clear hT
      cases big
      · have hw : wtN false n j = 8 * (j) := by simp [wtN]
        have hk4 : j = 0 ∨ j = 1 ∨ j = 2 ∨ j = 3 := by omega
        rcases hk4 with hkk | hkk | hkk | hkk
        · have h8 : 8 * (j : Int) = 0 := by omega
          have HE := Lib.hid hEq
          have st := store5 dB (j * 5) hLs (.int .i64 1) (.int .i64 0) (.int .i64 0) (.int .i64 0) (.int .i64 0)
          have hbW := store5_below (Below.refl B wr) (Nat.le_refl _) (j * 5) (.int .i64 1) (.int .i64 0) (.int .i64 0) (.int .i64 0) (.int .i64 0)
          have e1 : At (((((wr.setCell ⟨B, j * 5, none⟩ (.int .i64 1)).setCell ⟨B, j * 5 + 1, none⟩ (.int .i64 0)).setCell ⟨B, j * 5 + 2, none⟩ (.int .i64 0)).setCell ⟨B, j * 5 + 3, none⟩ (.int .i64 0)).setCell ⟨B, j * 5 + 4, none⟩ (.int .i64 0)) B (byC (L.set j (digY 0))) 67 := store5_by dB j hLl (digY 0)
          have e2 := dA.below hbW (by omega)
          have e3 := dS.below hbW (by omega)
          have e4 := store5_below (B := B) hbr (by omega) (j * 5) (.int .i64 1) (.int .i64 0) (.int .i64 0) (.int .i64 0) (.int .i64 0)
          have E1 := Lib.hid e1
          have E2 := Lib.hid e2
          have E3 := Lib.hid e3
          have E4 := Lib.hid e4
          clear e1 e2 e3 e4 dB dA dS hbr hbW hEq hw hkk
          go_upto_region 10 with (fail)
          generalize (((((wr.setCell ⟨B, j * 5, none⟩ (.int .i64 1)).setCell ⟨B, j * 5 + 1, none⟩ (.int .i64 0)).setCell ⟨B, j * 5 + 2, none⟩ (.int .i64 0)).setCell ⟨B, j * 5 + 3, none⟩ (.int .i64 0)).setCell ⟨B, j * 5 + 4, none⟩ (.int .i64 0)) = w7 at E1 E2 E3 E4 ⊢
          clear st a0 s1 h8
          have s0 : w7.cell? ⟨w.heap.size + 1, 0, none⟩ = some (.bool true) := E3.out.cell 0 rfl
          have st := store5 E1.out (j * 5) (hLs2 _) (.int .i64 1) (.int .i64 0) (.int .i64 0) (.int .i64 0) (.int .i64 0)
          have hbW := store5_below (Below.refl B w7) (Nat.le_refl _) (j * 5) (.int .i64 1) (.int .i64 0) (.int .i64 0) (.int .i64 0) (.int .i64 0)
          have f1 : At (((((w7.setCell ⟨B, j * 5, none⟩ (.int .i64 1)).setCell ⟨B, j * 5 + 1, none⟩ (.int .i64 0)).setCell ⟨B, j * 5 + 2, none⟩ (.int .i64 0)).setCell ⟨B, j * 5 + 3, none⟩ (.int .i64 0)).setCell ⟨B, j * 5 + 4, none⟩ (.int .i64 0)) B (byC ((L.set j (digY 0)).set j (digY 0))) 67 := store5_by E1.out j (by simp; exact hLl) (digY 0)
          have F1 := Lib.hid f1
          clear f1
          have F2 := Lib.hid (E2.out.below hbW (by omega))
          have F3 := Lib.hid (E3.out.below hbW (by omega))
          have F4 := Lib.hid (store5_below (B := B) E4.out (by omega) (j * 5) (.int .i64 1) (.int .i64 0) (.int .i64 0) (.int .i64 0) (.int .i64 0))
          clear E1 E2 E3 E4 hbW
          go_upto_region 12 with (fail)
          generalize (((((w7.setCell ⟨B, j * 5, none⟩ (.int .i64 1)).setCell ⟨B, j * 5 + 1, none⟩ (.int .i64 0)).setCell ⟨B, j * 5 + 2, none⟩ (.int .i64 0)).setCell ⟨B, j * 5 + 3, none⟩ (.int .i64 0)).setCell ⟨B, j * 5 + 4, none⟩ (.int .i64 0)) = w8 at F1 F2 F3 F4 ⊢
          clear st s0
          have E1 := F1; have E2 := F2; have E3 := F3; have E4 := F4
          clear F1 F2 F3 F4
          have s2 : w8.cell? ⟨w.heap.size + 1, 2, none⟩ = some (.int .i64 0) := E3.out.cell 2 rfl
          go_wp2
          go_roundw
          case rel => exact ⟨j + 1, _, by omega, by go_num, by have := HTT.out.next hlt; rw [HE.out] at this; rw [set_set_by]; exact this, E1.out, E2.out, E3.out, E4.out⟩
          case measure => simp [intOf]; omega
        · have h8 : 8 * (j : Int) = 8 := by omega
          have HE := Lib.hid hEq
          have st := store5 dB (j * 5) hLs (.int .i64 1) (.int .i64 0) (.int .i64 0) (.int .i64 0) (.int .i64 0)
          have hbW := store5_below (Below.refl B wr) (Nat.le_refl _) (j * 5) (.int .i64 1) (.int .i64 0) (.int .i64 0) (.int .i64 0) (.int .i64 0)
          have e1 : At (((((wr.setCell ⟨B, j * 5, none⟩ (.int .i64 1)).setCell ⟨B, j * 5 + 1, none⟩ (.int .i64 0)).setCell ⟨B, j * 5 + 2, none⟩ (.int .i64 0)).setCell ⟨B, j * 5 + 3, none⟩ (.int .i64 0)).setCell ⟨B, j * 5 + 4, none⟩ (.int .i64 0)) B (byC (L.set j (digY 0))) 67 := store5_by dB j hLl (digY 0)
          have e2 := dA.below hbW (by omega)
          have e3 := dS.below hbW (by omega)
          have e4 := store5_below (B := B) hbr (by omega) (j * 5) (.int .i64 1) (.int .i64 0) (.int .i64 0) (.int .i64 0) (.int .i64 0)
          have E1 := Lib.hid e1
          have E2 := Lib.hid e2
          have E3 := Lib.hid e3
          have E4 := Lib.hid e4
          clear e1 e2 e3 e4 dB dA dS hbr hbW hEq hw hkk
          go_upto_region 10 with (fail)
          generalize (((((wr.setCell ⟨B, j * 5, none⟩ (.int .i64 1)).setCell ⟨B, j * 5 + 1, none⟩ (.int .i64 0)).setCell ⟨B, j * 5 + 2, none⟩ (.int .i64 0)).setCell ⟨B, j * 5 + 3, none⟩ (.int .i64 0)).setCell ⟨B, j * 5 + 4, none⟩ (.int .i64 0)) = w7 at E1 E2 E3 E4 ⊢
          clear st a0 s1 h8
          have s0 : w7.cell? ⟨w.heap.size + 1, 0, none⟩ = some (.bool true) := E3.out.cell 0 rfl
          have st := store5 E1.out (j * 5) (hLs2 _) (.int .i64 1) (.int .i64 0) (.int .i64 0) (.int .i64 0) (.int .i64 0)
          have hbW := store5_below (Below.refl B w7) (Nat.le_refl _) (j * 5) (.int .i64 1) (.int .i64 0) (.int .i64 0) (.int .i64 0) (.int .i64 0)
          have f1 : At (((((w7.setCell ⟨B, j * 5, none⟩ (.int .i64 1)).setCell ⟨B, j * 5 + 1, none⟩ (.int .i64 0)).setCell ⟨B, j * 5 + 2, none⟩ (.int .i64 0)).setCell ⟨B, j * 5 + 3, none⟩ (.int .i64 0)).setCell ⟨B, j * 5 + 4, none⟩ (.int .i64 0)) B (byC ((L.set j (digY 0)).set j (digY 0))) 67 := store5_by E1.out j (by simp; exact hLl) (digY 0)
          have F1 := Lib.hid f1
          clear f1
          have F2 := Lib.hid (E2.out.below hbW (by omega))
          have F3 := Lib.hid (E3.out.below hbW (by omega))
          have F4 := Lib.hid (store5_below (B := B) E4.out (by omega) (j * 5) (.int .i64 1) (.int .i64 0) (.int .i64 0) (.int .i64 0) (.int .i64 0))
          clear E1 E2 E3 E4 hbW
          go_upto_region 12 with (fail)
          generalize (((((w7.setCell ⟨B, j * 5, none⟩ (.int .i64 1)).setCell ⟨B, j * 5 + 1, none⟩ (.int .i64 0)).setCell ⟨B, j * 5 + 2, none⟩ (.int .i64 0)).setCell ⟨B, j * 5 + 3, none⟩ (.int .i64 0)).setCell ⟨B, j * 5 + 4, none⟩ (.int .i64 0)) = w8 at F1 F2 F3 F4 ⊢
          clear st s0
          have E1 := F1; have E2 := F2; have E3 := F3; have E4 := F4
          clear F1 F2 F3 F4
          have s2 : w8.cell? ⟨w.heap.size + 1, 2, none⟩ = some (.int .i64 0) := E3.out.cell 2 rfl
          go_wp2
          go_roundw
          case rel => exact ⟨j + 1, _, by omega, by go_num, by have := HTT.out.next hlt; rw [HE.out] at this; rw [set_set_by]; exact this, E1.out, E2.out, E3.out, E4.out⟩
          case measure => simp [intOf]; omega
        · have h8 : 8 * (j : Int) = 16 := by omega
          have HE := Lib.hid hEq
          have st := store5 dB (j * 5) hLs (.int .i64 1) (.int .i64 0) (.int .i64 0) (.int .i64 0) (.int .i64 0)
          have hbW := store5_below (Below.refl B wr) (Nat.le_refl _) (j * 5) (.int .i64 1) (.int .i64 0) (.int .i64 0) (.int .i64 0) (.int .i64 0)
          have e1 : At (((((wr.setCell ⟨B, j * 5, none⟩ (.int .i64 1)).setCell ⟨B, j * 5 + 1, none⟩ (.int .i64 0)).setCell ⟨B, j * 5 + 2, none⟩ (.int .i64 0)).setCell ⟨B, j * 5 + 3, none⟩ (.int .i64 0)).setCell ⟨B, j * 5 + 4, none⟩ (.int .i64 0)) B (byC (L.set j (digY 0))) 67 := store5_by dB j hLl (digY 0)
          have e2 := dA.below hbW (by omega)
          have e3 := dS.below hbW (by omega)
          have e4 := store5_below (B := B) hbr (by omega) (j * 5) (.int .i64 1) (.int .i64 0) (.int .i64 0) (.int .i64 0) (.int .i64 0)
          have E1 := Lib.hid e1
          have E2 := Lib.hid e2
          have E3 := Lib.hid e3
          have E4 := Lib.hid e4
          clear e1 e2 e3 e4 dB dA dS hbr hbW hEq hw hkk
          go_upto_region 10 with (fail)
          generalize (((((wr.setCell ⟨B, j * 5, none⟩ (.int .i64 1)).setCell ⟨B, j * 5 + 1, none⟩ (.int .i64 0)).setCell ⟨B, j * 5 + 2, none⟩ (.int .i64 0)).setCell ⟨B, j * 5 + 3, none⟩ (.int .i64 0)).setCell ⟨B, j * 5 + 4, none⟩ (.int .i64 0)) = w7 at E1 E2 E3 E4 ⊢
          clear st a0 s1 h8
          have s0 : w7.cell? ⟨w.heap.size + 1, 0, none⟩ = some (.bool true) := E3.out.cell 0 rfl
          have st := store5 E1.out (j * 5) (hLs2 _) (.int .i64 1) (.int .i64 0) (.int .i64 0) (.int .i64 0) (.int .i64 0)
          have hbW := store5_below (Below.refl B w7) (Nat.le_refl _) (j * 5) (.int .i64 1) (.int .i64 0) (.int .i64 0) (.int .i64 0) (.int .i64 0)
          have f1 : At (((((w7.setCell ⟨B, j * 5, none⟩ (.int .i64 1)).setCell ⟨B, j * 5 + 1, none⟩ (.int .i64 0)).setCell ⟨B, j * 5 + 2, none⟩ (.int .i64 0)).setCell ⟨B, j * 5 + 3, none⟩ (.int .i64 0)).setCell ⟨B, j * 5 + 4, none⟩ (.int .i64 0)) B (byC ((L.set j (digY 0)).set j (digY 0))) 67 := store5_by E1.out j (by simp; exact hLl) (digY 0)
          have F1 := Lib.hid f1
          clear f1
          have F2 := Lib.hid (E2.out.below hbW (by omega))
          have F3 := Lib.hid (E3.out.below hbW (by omega))
          have F4 := Lib.hid (store5_below (B := B) E4.out (by omega) (j * 5) (.int .i64 1) (.int .i64 0) (.int .i64 0) (.int .i64 0) (.int .i64 0))
          clear E1 E2 E3 E4 hbW
          go_upto_region 12 with (fail)
          generalize (((((w7.setCell ⟨B, j * 5, none⟩ (.int .i64 1)).setCell ⟨B, j * 5 + 1, none⟩ (.int .i64 0)).setCell ⟨B, j * 5 + 2, none⟩ (.int .i64 0)).setCell ⟨B, j * 5 + 3, none⟩ (.int .i64 0)).setCell ⟨B, j * 5 + 4, none⟩ (.int .i64 0)) = w8 at F1 F2 F3 F4 ⊢
          clear st s0
          have E1 := F1; have E2 := F2; have E3 := F3; have E4 := F4
          clear F1 F2 F3 F4
          have s2 : w8.cell? ⟨w.heap.size + 1, 2, none⟩ = some (.int .i64 0) := E3.out.cell 2 rfl
          go_wp2
          go_roundw
          case rel => exact ⟨j + 1, _, by omega, by go_num, by have := HTT.out.next hlt; rw [HE.out] at this; rw [set_set_by]; exact this, E1.out, E2.out, E3.out, E4.out⟩
          case measure => simp [intOf]; omega
        · have h8 : 8 * (j : Int) = 24 := by omega
          have HE := Lib.hid hEq
          have st := store5 dB (j * 5) hLs (.int .i64 1) (.int .i64 0) (.int .i64 0) (.int .i64 0) (.int .i64 0)
          have hbW := store5_below (Below.refl B wr) (Nat.le_refl _) (j * 5) (.int .i64 1) (.int .i64 0) (.int .i64 0) (.int .i64 0) (.int .i64 0)
          have e1 : At (((((wr.setCell ⟨B, j * 5, none⟩ (.int .i64 1)).setCell ⟨B, j * 5 + 1, none⟩ (.int .i64 0)).setCell ⟨B, j * 5 + 2, none⟩ (.int .i64 0)).setCell ⟨B, j * 5 + 3, none⟩ (.int .i64 0)).setCell ⟨B, j * 5 + 4, none⟩ (.int .i64 0)) B (byC (L.set j (digY 0))) 67 := store5_by dB j hLl (digY 0)
          have e2 := dA.below hbW (by omega)
          have e3 := dS.below hbW (by omega)
          have e4 := store5_below (B := B) hbr (by omega) (j * 5) (.int .i64 1) (.int .i64 0) (.int .i64 0) (.int .i64 0) (.int .i64 0)
          have E1 := Lib.hid e1
          have E2 := Lib.hid e2
          have E3 := Lib.hid e3
          have E4 := Lib.hid e4
          clear e1 e2 e3 e4 dB dA dS hbr hbW hEq hw hkk
          go_upto_region 10 with (fail)
          generalize (((((wr.setCell ⟨B, j * 5, none⟩ (.int .i64 1)).setCell ⟨B, j * 5 + 1, none⟩ (.int .i64 0)).setCell ⟨B, j * 5 + 2, none⟩ (.int .i64 0)).setCell ⟨B, j * 5 + 3, none⟩ (.int .i64 0)).setCell ⟨B, j * 5 + 4, none⟩ (.int .i64 0)) = w7 at E1 E2 E3 E4 ⊢
          clear st a0 s1 h8
          have s0 : w7.cell? ⟨w.heap.size + 1, 0, none⟩ = some (.bool true) := E3.out.cell 0 rfl
          have st := store5 E1.out (j * 5) (hLs2 _) (.int .i64 1) (.int .i64 0) (.int .i64 0) (.int .i64 0) (.int .i64 0)
          have hbW := store5_below (Below.refl B w7) (Nat.le_refl _) (j * 5) (.int .i64 1) (.int .i64 0) (.int .i64 0) (.int .i64 0) (.int .i64 0)
          have f1 : At (((((w7.setCell ⟨B, j * 5, none⟩ (.int .i64 1)).setCell ⟨B, j * 5 + 1, none⟩ (.int .i64 0)).setCell ⟨B, j * 5 + 2, none⟩ (.int .i64 0)).setCell ⟨B, j * 5 + 3, none⟩ (.int .i64 0)).setCell ⟨B, j * 5 + 4, none⟩ (.int .i64 0)) B (byC ((L.set j (digY 0)).set j (digY 0))) 67 := store5_by E1.out j (by simp; exact hLl) (digY 0)
          have F1 := Lib.hid f1
          clear f1
          have F2 := Lib.hid (E2.out.below hbW (by omega))
          have F3 := Lib.hid (E3.out.below hbW (by omega))
          have F4 := Lib.hid (store5_below (B := B) E4.out (by omega) (j * 5) (.int .i64 1) (.int .i64 0) (.int .i64 0) (.int .i64 0) (.int .i64 0))
          clear E1 E2 E3 E4 hbW
          go_upto_region 12 with (fail)
          generalize (((((w7.setCell ⟨B, j * 5, none⟩ (.int .i64 1)).setCell ⟨B, j * 5 + 1, none⟩ (.int .i64 0)).setCell ⟨B, j * 5 + 2, none⟩ (.int .i64 0)).setCell ⟨B, j * 5 + 3, none⟩ (.int .i64 0)).setCell ⟨B, j * 5 + 4, none⟩ (.int .i64 0)) = w8 at F1 F2 F3 F4 ⊢
          clear st s0
          have E1 := F1; have E2 := F2; have E3 := F3; have E4 := F4
          clear F1 F2 F3 F4
          have s2 : w8.cell? ⟨w.heap.size + 1, 2, none⟩ = some (.int .i64 0) := E3.out.cell 2 rfl
          go_wp2
          go_roundw
          case rel => exact ⟨j + 1, _, by omega, by go_num, by have := HTT.out.next hlt; rw [HE.out] at this; rw [set_set_by]; exact this, E1.out, E2.out, E3.out, E4.out⟩
          case measure => simp [intOf]; omega
      · have hw : wtN true n j = 8 * (n - 1 - j) := by simp [wtN]
        have hk4 : n - 1 - j = 0 ∨ n - 1 - j = 1 ∨ n - 1 - j = 2 ∨ n - 1 - j = 3 := by omega
        rcases hk4 with hkk | hkk | hkk | hkk
        · have h8 : (n : Int) - 1 - (j : Int) = 0 := by omega
          have HE := Lib.hid hEq
          have st := store5 dB (j * 5) hLs (.int .i64 1) (.int .i64 0) (.int .i64 0) (.int .i64 0) (.int .i64 0)
          have hbW := store5_below (Below.refl B wr) (Nat.le_refl _) (j * 5) (.int .i64 1) (.int .i64 0) (.int .i64 0) (.int .i64 0) (.int .i64 0)
          have e1 : At (((((wr.setCell ⟨B, j * 5, none⟩ (.int .i64 1)).setCell ⟨B, j * 5 + 1, none⟩ (.int .i64 0)).setCell ⟨B, j * 5 + 2, none⟩ (.int .i64 0)).setCell ⟨B, j * 5 + 3, none⟩ (.int .i64 0)).setCell ⟨B, j * 5 + 4, none⟩ (.int .i64 0)) B (byC (L.set j (digY 0))) 67 := store5_by dB j hLl (digY 0)
          have e2 := dA.below hbW (by omega)
          have e3 := dS.below hbW (by omega)
          have e4 := store5_below (B := B) hbr (by omega) (j * 5) (.int .i64 1) (.int .i64 0) (.int .i64 0) (.int .i64 0) (.int .i64 0)
          have E1 := Lib.hid e1
          have E2 := Lib.hid e2
          have E3 := Lib.hid e3
          have E4 := Lib.hid e4
          clear e1 e2 e3 e4 dB dA dS hbr hbW hEq hw hkk
          go_upto_region 10 with (fail)
          generalize (((((wr.setCell ⟨B, j * 5, none⟩ (.int .i64 1)).setCell ⟨B, j * 5 + 1, none⟩ (.int .i64 0)).setCell ⟨B, j * 5 + 2, none⟩ (.int .i64 0)).setCell ⟨B, j * 5 + 3, none⟩ (.int .i64 0)).setCell ⟨B, j * 5 + 4, none⟩ (.int .i64 0)) = w7 at E1 E2 E3 E4 ⊢
          clear st a0 s1 h8
          have s0 : w7.cell? ⟨w.heap.size + 1, 0, none⟩ = some (.bool true) := E3.out.cell 0 rfl
          have st := store5 E1.out (j * 5) (hLs2 _) (.int .i64 1) (.int .i64 0) (.int .i64 0) (.int .i64 0) (.int .i64 0)
          have hbW := store5_below (Below.refl B w7) (Nat.le_refl _) (j * 5) (.int .i64 1) (.int .i64 0) (.int .i64 0) (.int .i64 0) (.int .i64 0)
          have f1 : At (((((w7.setCell ⟨B, j * 5, none⟩ (.int .i64 1)).setCell ⟨B, j * 5 + 1, none⟩ (.int .i64 0)).setCell ⟨B, j * 5 + 2, none⟩ (.int .i64 0)).setCell ⟨B, j * 5 + 3, none⟩ (.int .i64 0)).setCell ⟨B, j * 5 + 4, none⟩ (.int .i64 0)) B (byC ((L.set j (digY 0)).set j (digY 0))) 67 := store5_by E1.out j (by simp; exact hLl) (digY 0)
          have F1 := Lib.hid f1
          clear f1
          have F2 := Lib.hid (E2.out.below hbW (by omega))
          have F3 := Lib.hid (E3.out.below hbW (by omega))
          have F4 := Lib.hid (store5_below (B := B) E4.out (by omega) (j * 5) (.int .i64 1) (.int .i64 0) (.int .i64 0) (.int .i64 0) (.int .i64 0))
          clear E1 E2 E3 E4 hbW
          go_upto_region 12 with (fail)
          generalize (((((w7.setCell ⟨B, j * 5, none⟩ (.int .i64 1)).setCell ⟨B, j * 5 + 1, none⟩ (.int .i64 0)).setCell ⟨B, j * 5 + 2, none⟩ (.int .i64 0)).setCell ⟨B, j * 5 + 3, none⟩ (.int .i64 0)).setCell ⟨B, j * 5 + 4, none⟩ (.int .i64 0)) = w8 at F1 F2 F3 F4 ⊢
          clear st s0
          have E1 := F1; have E2 := F2; have E3 := F3; have E4 := F4
          clear F1 F2 F3 F4
          have s2 : w8.cell? ⟨w.heap.size + 1, 2, none⟩ = some (.int .i64 0) := E3.out.cell 2 rfl
          go_wp2
          go_roundw
          case rel => exact ⟨j + 1, _, by omega, by go_num, by have := HTT.out.next hlt; rw [HE.out] at this; rw [set_set_by]; exact this, E1.out, E2.out, E3.out, E4.out⟩
          case measure => simp [intOf]; omega
        · have h8 : (n : Int) - 1 - (j : Int) = 1 := by omega
          have HE := Lib.hid hEq
          have st := store5 dB (j * 5) hLs (.int .i64 1) (.int .i64 0) (.int .i64 0) (.int .i64 0) (.int .i64 0)
          have hbW := store5_below (Below.refl B wr) (Nat.le_refl _) (j * 5) (.int .i64 1) (.int .i64 0) (.int .i64 0) (.int .i64 0) (.int .i64 0)
          have e1 : At (((((wr.setCell ⟨B, j * 5, none⟩ (.int .i64 1)).setCell ⟨B, j * 5 + 1, none⟩ (.int .i64 0)).setCell ⟨B, j * 5 + 2, none⟩ (.int .i64 0)).setCell ⟨B, j * 5 + 3, none⟩ (.int .i64 0)).setCell ⟨B, j * 5 + 4, none⟩ (.int .i64 0)) B (byC (L.set j (digY 0))) 67 := store5_by dB j hLl (digY 0)
          have e2 := dA.below hbW (by omega)
          have e3 := dS.below hbW (by omega)
          have e4 := store5_below (B := B) hbr (by omega) (j * 5) (.int .i64 1) (.int .i64 0) (.int .i64 0) (.int .i64 0) (.int .i64 0)
          have E1 := Lib.hid e1
          have E2 := Lib.hid e2
          have E3 := Lib.hid e3
          have E4 := Lib.hid e4
          clear e1 e2 e3 e4 dB dA dS hbr hbW hEq hw hkk
          go_upto_region 10 with (fail)
          generalize (((((wr.setCell ⟨B, j * 5, none⟩ (.int .i64 1)).setCell ⟨B, j * 5 + 1, none⟩ (.int .i64 0)).setCell ⟨B, j * 5 + 2, none⟩ (.int .i64 0)).setCell ⟨B, j * 5 + 3, none⟩ (.int .i64 0)).setCell ⟨B, j * 5 + 4, none⟩ (.int .i64 0)) = w7 at E1 E2 E3 E4 ⊢
          clear st a0 s1 h8
          have s0 : w7.cell? ⟨w.heap.size + 1, 0, none⟩ = some (.bool true) := E3.out.cell 0 rfl
          have st := store5 E1.out (j * 5) (hLs2 _) (.int .i64 1) (.int .i64 0) (.int .i64 0) (.int .i64 0) (.int .i64 0)
          have hbW := store5_below (Below.refl B w7) (Nat.le_refl _) (j * 5) (.int .i64 1) (.int .i64 0) (.int .i64 0) (.int .i64 0) (.int .i64 0)
          have f1 : At (((((w7.setCell ⟨B, j * 5, none⟩ (.int .i64 1)).setCell ⟨B, j * 5 + 1, none⟩ (.int .i64 0)).setCell ⟨B, j * 5 + 2, none⟩ (.int .i64 0)).setCell ⟨B, j * 5 + 3, none⟩ (.int .i64 0)).setCell ⟨B, j * 5 + 4, none⟩ (.int .i64 0)) B (byC ((L.set j (digY 0)).set j (digY 0))) 67 := store5_by E1.out j (by simp; exact hLl) (digY 0)
          have F1 := Lib.hid f1
          clear f1
          have F2 := Lib.hid (E2.out.below hbW (by omega))
          have F3 := Lib.hid (E3.out.below hbW (by omega))
          have F4 := Lib.hid (store5_below (B := B) E4.out (by omega) (j * 5) (.int .i64 1) (.int .i64 0) (.int .i64 0) (.int .i64 0) (.int .i64 0))
          clear E1 E2 E3 E4 hbW
          go_upto_region 12 with (fail)
          generalize (((((w7.setCell ⟨B, j * 5, none⟩ (.int .i64 1)).setCell ⟨B, j * 5 + 1, none⟩ (.int .i64 0)).setCell ⟨B, j * 5 + 2, none⟩ (.int .i64 0)).setCell ⟨B, j * 5 + 3, none⟩ (.int .i64 0)).setCell ⟨B, j * 5 + 4, none⟩ (.int .i64 0)) = w8 at F1 F2 F3 F4 ⊢
          clear st s0
          have E1 := F1; have E2 := F2; have E3 := F3; have E4 := F4
          clear F1 F2 F3 F4
          have s2 : w8.cell? ⟨w.heap.size + 1, 2, none⟩ = some (.int .i64 0) := E3.out.cell 2 rfl
          go_wp2
          go_roundw
          case rel => exact ⟨j + 1, _, by omega, by go_num, by have := HTT.out.next hlt; rw [HE.out] at this; rw [set_set_by]; exact this, E1.out, E2.out, E3.out, E4.out⟩
          case measure => simp [intOf]; omega
        · have h8 : (n : Int) - 1 - (j : Int) = 2 := by omega
          have HE := Lib.hid hEq
          have st := store5 dB (j * 5) hLs (.int .i64 1) (.int .i64 0) (.int .i64 0) (.int .i64 0) (.int .i64 0)
          have hbW := store5_below (Below.refl B wr) (Nat.le_refl _) (j * 5) (.int .i64 1) (.int .i64 0) (.int .i64 0) (.int .i64 0) (.int .i64 0)
          have e1 : At (((((wr.setCell ⟨B, j * 5, none⟩ (.int .i64 1)).setCell ⟨B, j * 5 + 1, none⟩ (.int .i64 0)).setCell ⟨B, j * 5 + 2, none⟩ (.int .i64 0)).setCell ⟨B, j * 5 + 3, none⟩ (.int .i64 0)).setCell ⟨B, j * 5 + 4, none⟩ (.int .i64 0)) B (byC (L.set j (digY 0))) 67 := store5_by dB j hLl (digY 0)
          have e2 := dA.below hbW (by omega)
          have e3 := dS.below hbW (by omega)
          have e4 := store5_below (B := B) hbr (by omega) (j * 5) (.int .i64 1) (.int .i64 0) (.int .i64 0) (.int .i64 0) (.int .i64 0)
          have E1 := Lib.hid e1
          have E2 := Lib.hid e2
          have E3 := Lib.hid e3
          have E4 := Lib.hid e4
          clear e1 e2 e3 e4 dB dA dS hbr hbW hEq hw hkk
          go_upto_region 10 with (fail)
          generalize (((((wr.setCell ⟨B, j * 5, none⟩ (.int .i64 1)).setCell ⟨B, j * 5 + 1, none⟩ (.int .i64 0)).setCell ⟨B, j * 5 + 2, none⟩ (.int .i64 0)).setCell ⟨B, j * 5 + 3, none⟩ (.int .i64 0)).setCell ⟨B, j * 5 + 4, none⟩ (.int .i64 0)) = w7 at E1 E2 E3 E4 ⊢
          clear st a0 s1 h8
          have s0 : w7.cell? ⟨w.heap.size + 1, 0, none⟩ = some (.bool true) := E3.out.cell 0 rfl
          have st := store5 E1.out (j * 5) (hLs2 _) (.int .i64 1) (.int .i64 0) (.int .i64 0) (.int .i64 0) (.int .i64 0)
          have hbW := store5_below (Below.refl B w7) (Nat.le_refl _) (j * 5) (.int .i64 1) (.int .i64 0) (.int .i64 0) (.int .i64 0) (.int .i64 0)
          have f1 : At (((((w7.setCell ⟨B, j * 5, none⟩ (.int .i64 1)).setCell ⟨B, j * 5 + 1, none⟩ (.int .i64 0)).setCell ⟨B, j * 5 + 2, none⟩ (.int .i64 0)).setCell ⟨B, j * 5 + 3, none⟩ (.int .i64 0)).setCell ⟨B, j * 5 + 4, none⟩ (.int .i64 0)) B (byC ((L.set j (digY 0)).set j (digY 0))) 67 := store5_by E1.out j (by simp; exact hLl) (digY 0)
          have F1 := Lib.hid f1
          clear f1
          have F2 := Lib.hid (E2.out.below hbW (by omega))
          have F3 := Lib.hid (E3.out.below hbW (by omega))
          have F4 := Lib.hid (store5_below (B := B) E4.out (by omega) (j * 5) (.int .i64 1) (.int .i64 0) (.int .i64 0) (.int .i64 0) (.int .i64 0))
          clear E1 E2 E3 E4 hbW
          go_upto_region 12 with (fail)
          generalize (((((w7.setCell ⟨B, j * 5, none⟩ (.int .i64 1)).setCell ⟨B, j * 5 + 1, none⟩ (.int .i64 0)).setCell ⟨B, j * 5 + 2, none⟩ (.int .i64 0)).setCell ⟨B, j * 5 + 3, none⟩ (.int .i64 0)).setCell ⟨B, j * 5 + 4, none⟩ (.int .i64 0)) = w8 at F1 F2 F3 F4 ⊢
          clear st s0
          have E1 := F1; have E2 := F2; have E3 := F3; have E4 := F4
          clear F1 F2 F3 F4
          have s2 : w8.cell? ⟨w.heap.size + 1, 2, none⟩ = some (.int .i64 0) := E3.out.cell 2 rfl
          go_wp2
          go_roundw
          case rel => exact ⟨j + 1, _, by omega, by go_num, by have := HTT.out.next hlt; rw [HE.out] at this; rw [set_set_by]; exact this, E1.out, E2.out, E3.out, E4.out⟩
          case measure => simp [intOf]; omega
        · have h8 : (n : Int) - 1 - (j : Int) = 3 := by omega
          have HE := Lib.hid hEq
          have st := store5 dB (j * 5) hLs (.int .i64 1) (.int .i64 0) (.int .i64 0) (.int .i64 0) (.int .i64 0)
          have hbW := store5_below (Below.refl B wr) (Nat.le_refl _) (j * 5) (.int .i64 1) (.int .i64 0) (.int .i64 0) (.int .i64 0) (.int .i64 0)
          have e1 : At (((((wr.setCell ⟨B, j * 5, none⟩ (.int .i64 1)).setCell ⟨B, j * 5 + 1, none⟩ (.int .i64 0)).setCell ⟨B, j * 5 + 2, none⟩ (.int .i64 0)).setCell ⟨B, j * 5 + 3, none⟩ (.int .i64 0)).setCell ⟨B, j * 5 + 4, none⟩ (.int .i64 0)) B (byC (L.set j (digY 0))) 67 := store5_by dB j hLl (digY 0)
          have e2 := dA.below hbW (by omega)
          have e3 := dS.below hbW (by omega)
          have e4 := store5_below (B := B) hbr (by omega) (j * 5) (.int .i64 1) (.int .i64 0) (.int .i64 0) (.int .i64 0) (.int .i64 0)
          have E1 := Lib.hid e1
          have E2 := Lib.hid e2
          have E3 := Lib.hid e3
          have E4 := Lib.hid e4
          clear e1 e2 e3 e4 dB dA dS hbr hbW hEq hw hkk
          go_upto_region 10 with (fail)
          generalize (((((wr.setCell ⟨B, j * 5, none⟩ (.int .i64 1)).setCell ⟨B, j * 5 + 1, none⟩ (.int .i64 0)).setCell ⟨B, j * 5 + 2, none⟩ (.int .i64 0)).setCell ⟨B, j * 5 + 3, none⟩ (.int .i64 0)).setCell ⟨B, j * 5 + 4, none⟩ (.int .i64 0)) = w7 at E1 E2 E3 E4 ⊢
          clear st a0 s1 h8
          have s0 : w7.cell? ⟨w.heap.size + 1, 0, none⟩ = some (.bool true) := E3.out.cell 0 rfl
          have st := store5 E1.out (j * 5) (hLs2 _) (.int .i64 1) (.int .i64 0) (.int .i64 0) (.int .i64 0) (.int .i64 0)
          have hbW := store5_below (Below.refl B w7) (Nat.le_refl _) (j * 5) (.int .i64 1) (.int .i64 0) (.int .i64 0) (.int .i64 0) (.int .i64 0)
          have f1 : At (((((w7.setCell ⟨B, j * 5, none⟩ (.int .i64 1)).setCell ⟨B, j * 5 + 1, none⟩ (.int .i64 0)).setCell ⟨B, j * 5 + 2, none⟩ (.int .i64 0)).setCell ⟨B, j * 5 + 3, none⟩ (.int .i64 0)).setCell ⟨B, j * 5 + 4, none⟩ (.int .i64 0)) B (byC ((L.set j (digY 0)).set j (digY 0))) 67 := store5_by E1.out j (by simp; exact hLl) (digY 0)
          have F1 := Lib.hid f1
          clear f1
          have F2 := Lib.hid (E2.out.below hbW (by omega))
          have F3 := Lib.hid (E3.out.below hbW (by omega))
          have F4 := Lib.hid (store5_below (B := B) E4.out (by omega) (j * 5) (.int .i64 1) (.int .i64 0) (.int .i64 0) (.int .i64 0) (.int .i64 0))
          clear E1 E2 E3 E4 hbW
          go_upto_region 12 with (fail)
          generalize (((((w7.setCell ⟨B, j * 5, none⟩ (.int .i64 1)).setCell ⟨B, j * 5 + 1, none⟩ (.int .i64 0)).setCell ⟨B, j * 5 + 2, none⟩ (.int .i64 0)).setCell ⟨B, j * 5 + 3, none⟩ (.int .i64 0)).setCell ⟨B, j * 5 + 4, none⟩ (.int .i64 0)) = w8 at F1 F2 F3 F4 ⊢
          clear st s0
          have E1 := F1; have E2 := F2; have E3 := F3; have E4 := F4
          clear F1 F2 F3 F4
          have s2 : w8.cell? ⟨w.heap.size + 1, 2, none⟩ = some (.int .i64 0) := E3.out.cell 2 rfl
          go_wp2
          go_roundw
          case rel => exact ⟨j + 1, _, by omega, by go_num, by have := HTT.out.next hlt; rw [HE.out] at this; rw [set_set_by]; exact this, E1.out, E2.out, E3.out, E4.out⟩
          case measure => simp [intOf]; omega
    · obtain rfl : j = n := by omega
      have HD := Lib.hid hT.done
      clear hT
      go_wp2
      go_ret
      exact ⟨B, rfl, by omega, by rw [← HD.out]; exact dB, hbr⟩
set_option maxRecDepth 100000 in
set_option maxHeartbeats 3200000 in
theorem rPut_p (big : Bool) (p k : Int) (hp : mayA p) (hk : 1 ≤ k ∧ k ≤ 7) (sb so : Int) (hs : 0 < sb) (w : World) :
    Calls Try.prog 30 #[.agg #[.bool big, .int .i64 p], .int .i64 k, .agg #[.bool true, .int .i64 0, .int .i64 sb, .int .i64 so]] w (RowPost (putL big (sizN p k) ⟨true, 0, sb, so⟩) (sizN p k) w) := by
  have cS := fun w => rSize_any big p k hp hk w
  have hn := siz_cases hp hk
  generalize hnn : sizN p k = n at *
  have cM := fun w => make_by n hn w
  have ha := and_255
  have HN := Lib.hid hn
  have hput : ∀ i, putY big n ⟨true, 0, sb, so⟩ i = parY sb so (i : Nat) := fun i => by unfold putY; rw [if_pos hs]
  have HY := Lib.hid hput
  have hd : decide (0 < sb) = true := by simpa using hs
  have hn4 : n ≤ 4 := by omega
  have hn1 : 1 ≤ n := by omega
  have hn5 : (1 : Int) ≤ (n : Int) := by omega
  clear hnn hp hn hput hk
  have dS := At.new2 w (.cells #[.bool big, .int .i64 p] 38) #[.bool true, .int .i64 0, .int .i64 sb, .int .i64 so] 33
  have dA := At.alloc (At.new w #[.bool big, .int .i64 p] 38) (.cells #[.bool true, .int .i64 0, .int .i64 sb, .int .i64 so] 33)
  have hb0 := below_box2 w (.cells #[.bool big, .int .i64 p] 38) (.cells #[.bool true, .int .i64 0, .int .i64 sb, .int .i64 so] 33)
  go_enter Try.func30, Try.ntmps30
  go_wp2_with fail
  refine (cS _).mono ?_
  rintro e w2 ⟨rfl, hb1⟩
  replace dA := At.below' hb1 dA
  have dS0 := At.below' hb1 dS
  replace dS := At.below' hb1 dS
  replace hb0 := hb0.trans (hb1.mono hb0.size)
  have hS2 : w.heap.size + 1 < w2.heap.size := dS0.lt
  clear hb1 dS0
  have dB := At.new w2 (byC (List.replicate n default)) 67
  replace dA := At.alloc dA (.cells (byC (List.replicate n default)) 67)
  replace dS := At.alloc dS (.cells (byC (List.replicate n default)) 67)
  have hbB := hb0.alloc hb0.size (.cells (byC (List.replicate n default)) 67)
  have hB1 := hb0.size
  go_wp2_with fail
  generalize w2.alloc (.cells (byC (List.replicate n default)) 67) = w3 at *
  generalize w2.heap.size = B at *
  have HT := Lib.hid (show PutTill big n ⟨true, 0, sb, so⟩ (List.replicate n default) 0 from ⟨by simp, fun i hi => by omega⟩)
  clear cS cM hb0
  go_loopw [9] (fun v wr => RelPut big n ⟨true, 0, sb, so⟩ w B w.heap.size (w.heap.size + 1) #[.bool big, .int .i64 p] #[.bool true, .int .i64 0, .int .i64 sb, .int .i64 so] v wr) (fun v _ => n - (intOf v).toNat)
  case atStart => exact ⟨0, _, by omega, rfl, HT.out, dB, dA, dS, hbB⟩
  case round =>
    clear dB dA dS hbB HT
    obtain ⟨j, L, hj, rfl, hT, dB, dA, dS, hbr⟩ := hrel
    by_cases hlt : j < n
    · have a0 : wr.cell? ⟨w.heap.size, 0, none⟩ = some (.bool big) := dA.cell 0 rfl
      have s1 : wr.cell? ⟨w.heap.size + 1, 1, none⟩ = some (.int .i64 0) := dS.cell 1 rfl
      have hj3 : (j : Int) < (n : Int) := by omega
      have hLs : j * 5 + 4 < (byC L).size := by rw [byC_size, hT.1]; omega
      have hLs2 : ∀ x, j * 5 + 4 < (byC (L.set j x)).size := fun x => by rw [byC_size, List.length_set, hT.1]; omega
      have hLl : j < L.length := by rw [hT.1]; omega
      have HTT := Lib.hid hT
      have hEq := HY.out j
      clear hT
      cases big
      · have hw : wtN false n j = 8 * (j) := by simp [wtN]
        have hk4 : j = 0 ∨ j = 1 ∨ j = 2 ∨ j = 3 := by omega
        rcases hk4 with hkk | hkk | hkk | hkk
        · have h8 : 8 * (j : Int) = 0 := by omega
          have HE := Lib.hid hEq
          have st := store5 dB (j * 5) hLs (.int .i64 1) (.int .i64 0) (.int .i64 0) (.int .i64 0) (.int .i64 0)
          have hbW := store5_below (Below.refl B wr) (Nat.le_refl _) (j * 5) (.int .i64 1) (.int .i64 0) (.int .i64 0) (.int .i64 0) (.int .i64 0)
          have e1 : At (((((wr.setCell ⟨B, j * 5, none⟩ (.int .i64 1)).setCell ⟨B, j * 5 + 1, none⟩ (.int .i64 0)).setCell ⟨B, j * 5 + 2, none⟩ (.int .i64 0)).setCell ⟨B, j * 5 + 3, none⟩ (.int .i64 0)).setCell ⟨B, j * 5 + 4, none⟩ (.int .i64 0)) B (byC (L.set j (digY 0))) 67 := store5_by dB j hLl (digY 0)
          have e2 := dA.below hbW (by omega)
          have e3 := dS.below hbW (by omega)
          have e4 := store5_below (B := B) hbr (by omega) (j * 5) (.int .i64 1) (.int .i64 0) (.int .i64 0) (.int .i64 0) (.int .i64 0)
          have E1 := Lib.hid e1
          have E2 := Lib.hid e2
          have E3 := Lib.hid e3
          have E4 := Lib.hid e4
          clear e1 e2 e3 e4 dB dA dS hbr hbW hEq hw hkk
          go_upto_region 10 with (fail)
          generalize (((((wr.setCell ⟨B, j * 5, none⟩ (.int .i64 1)).setCell ⟨B, j * 5 + 1, none⟩ (.int .i64 0)).setCell ⟨B, j * 5 + 2, none⟩ (.int .i64 0)).setCell ⟨B, j * 5 + 3, none⟩ (.int .i64 0)).setCell ⟨B, j * 5 + 4, none⟩ (.int .i64 0)) = w7 at E1 E2 E3 E4 ⊢
          clear st a0 s1 h8
          have s0 : w7.cell? ⟨w.heap.size + 1, 0, none⟩ = some (.bool true) := E3.out.cell 0 rfl
          have st := store5 E1.out (j * 5) (hLs2 _) (.int .i64 1) (.int .i64 0) (.int .i64 0) (.int .i64 0) (.int .i64 0)
          have hbW := store5_below (Below.refl B w7) (Nat.le_refl _) (j * 5) (.int .i64 1) (.int .i64 0) (.int .i64 0) (.int .i64 0) (.int .i64 0)
          have f1 : At (((((w7.setCell ⟨B, j * 5, none⟩ (.int .i64 1)).setCell ⟨B, j * 5 + 1, none⟩ (.int .i64 0)).setCell ⟨B, j * 5 + 2, none⟩ (.int .i64 0)).setCell ⟨B, j * 5 + 3, none⟩ (.int .i64 0)).setCell ⟨B, j * 5 + 4, none⟩ (.int .i64 0)) B (byC ((L.set j (digY 0)).set j (digY 0))) 67 := store5_by E1.out j (by simp; exact hLl) (digY 0)
          have F1 := Lib.hid f1
          clear f1
          have F2 := Lib.hid (E2.out.below hbW (by omega))
          have F3 := Lib.hid (E3.out.below hbW (by omega))
          have F4 := Lib.hid (store5_below (B := B) E4.out (by omega) (j * 5) (.int .i64 1) (.int .i64 0) (.int .i64 0) (.int .i64 0) (.int .i64 0))
          clear E1 E2 E3 E4 hbW
          go_upto_region 12 with (fail)
          generalize (((((w7.setCell ⟨B, j * 5, none⟩ (.int .i64 1)).setCell ⟨B, j * 5 + 1, none⟩ (.int .i64 0)).setCell ⟨B, j * 5 + 2, none⟩ (.int .i64 0)).setCell ⟨B, j * 5 + 3, none⟩ (.int .i64 0)).setCell ⟨B, j * 5 + 4, none⟩ (.int .i64 0)) = w8 at F1 F2 F3 F4 ⊢
          clear st s0
          have E1 := F1; have E2 := F2; have E3 := F3; have E4 := F4
          clear F1 F2 F3 F4
          have s2 : w8.cell? ⟨w.heap.size + 1, 2, none⟩ = some (.int .i64 sb) := E3.out.cell 2 rfl
          have s3 : w8.cell? ⟨w.heap.size + 1, 3, none⟩ = some (.int .i64 so) := E3.out.cell 3 rfl
          have hLs3 : ∀ x y, j * 5 + 4 < (byC ((L.set j x).set j y)).size := fun x y => by rw [set_set_by]; exact hLs2 y
          have st := store5 E1.out (j * 5) (hLs3 _ _) (.int .i64 2) (.int .i64 0) (.int .i64 sb) (.int .i64 so) (.int .i64 (j : Nat))
          have hbW := store5_below (Below.refl B w8) (Nat.le_refl _) (j * 5) (.int .i64 2) (.int .i64 0) (.int .i64 sb) (.int .i64 so) (.int .i64 (j : Nat))
          have f1 : At (((((w8.setCell ⟨B, j * 5, none⟩ (.int .i64 2)).setCell ⟨B, j * 5 + 1, none⟩ (.int .i64 0)).setCell ⟨B, j * 5 + 2, none⟩ (.int .i64 sb)).setCell ⟨B, j * 5 + 3, none⟩ (.int .i64 so)).setCell ⟨B, j * 5 + 4, none⟩ (.int .i64 (j : Nat))) B (byC (((L.set j (digY 0)).set j (digY 0)).set j (parY sb so (j : Nat)))) 67 := store5_by E1.out j (by simp; exact hLl) (parY sb so (j : Nat))
          have F1 := Lib.hid f1
          clear f1
          have F2 := Lib.hid (E2.out.below hbW (by omega))
          have F3 := Lib.hid (E3.out.below hbW (by omega))
          have F4 := Lib.hid (store5_below (B := B) E4.out (by omega) (j * 5) (.int .i64 2) (.int .i64 0) (.int .i64 sb) (.int .i64 so) (.int .i64 (j : Nat)))
          clear E1 E2 E3 E4 hbW
          go_wp2
          go_roundw
          case rel => exact ⟨j + 1, _, by omega, by go_num, by have := HTT.out.next hlt; rw [HE.out] at this; rw [set_set_by, set_set_by]; exact this, F1.out, F2.out, F3.out, F4.out⟩
          case measure => simp [intOf]; omega
        · have h8 : 8 * (j : Int) = 8 := by omega
          have HE := Lib.hid hEq
          have st := store5 dB (j * 5) hLs (.int .i64 1) (.int .i64 0) (.int .i64 0) (.int .i64 0) (.int .i64 0)
          have hbW := store5_below (Below.refl B wr) (Nat.le_refl _) (j * 5) (.int .i64 1) (.int .i64 0) (.int .i64 0) (.int .i64 0) (.int .i64 0)
          have e1 : At (((((wr.setCell ⟨B, j * 5, none⟩ (.int .i64 1)).setCell ⟨B, j * 5 + 1, none⟩ (.int .i64 0)).setCell ⟨B, j * 5 + 2, none⟩ (.int .i64 0)).setCell ⟨B, j * 5 + 3, none⟩ (.int .i64 0)).setCell ⟨B, j * 5 + 4, none⟩ (.int .i64 0)) B (byC (L.set j (digY 0))) 67 := store5_by dB j hLl (digY 0)
          have e2 := dA.below hbW (by omega)
          have e3 := dS.below hbW (by omega)
          have e4 := store5_below (B := B) hbr (by omega) (j * 5) (.int .i64 1) (.int .i64 0) (.int .i64 0) (.int .i64 0) (.int .i64 0)
          have E1 := Lib.hid e1
          have E2 := Lib.hid e2
          have E3 := Lib.hid e3
          have E4 := Lib.hid e4
          clear e1 e2 e3 e4 dB dA dS hbr hbW hEq hw hkk
          go_upto_region 10 with (fail)
          generalize (((((wr.setCell ⟨B, j * 5, none⟩ (.int .i64 1)).setCell ⟨B, j * 5 + 1, none⟩ (.int .i64 0)).setCell ⟨B, j * 5 + 2, none⟩ (.int .i64 0)).setCell ⟨B, j * 5 + 3, none⟩ (.int .i64 0)).setCell ⟨B, j * 5 + 4, none⟩ (.int .i64 0)) = w7 at E1 E2 E3 E4 ⊢
          clear st a0 s1 h8
          have s0 : w7.cell? ⟨w.heap.size + 1, 0, none⟩ = some (.bool true) := E3.out.cell 0 rfl
          have st := store5 E1.out (j * 5) (hLs2 _) (.int .i64 1) (.int .i64 0) (.int .i64 0) (.int .i64 0) (.int .i64 0)
          have hbW := store5_below (Below.refl B w7) (Nat.le_refl _) (j * 5) (.int .i64 1) (.int .i64 0) (.int .i64 0) (.int .i64 0) (.int .i64 0)
          have f1 : At (((((w7.setCell ⟨B, j * 5, none⟩ (.int .i64 1)).setCell ⟨B, j * 5 + 1, none⟩ (.int .i64 0)).setCell ⟨B, j * 5 + 2, none⟩ (.int .i64 0)).setCell ⟨B, j * 5 + 3, none⟩ (.int .i64 0)).setCell ⟨B, j * 5 + 4, none⟩ (.int .i64 0)) B (byC ((L.set j (digY 0)).set j (digY 0))) 67 := store5_by E1.out j (by simp; exact hLl) (digY 0)
          have F1 := Lib.hid f1
          clear f1
          have F2 := Lib.hid (E2.out.below hbW (by omega))
          have F3 := Lib.hid (E3.out.below hbW (by omega))
          have F4 := Lib.hid (store5_below (B := B) E4.out (by omega) (j * 5) (.int .i64 1) (.int .i64 0) (.int .i64 0) (.int .i64 0) (.int .i64 0))
          clear E1 E2 E3 E4 hbW
          go_upto_region 12 with (fail)
          generalize (((((w7.setCell ⟨B, j * 5, none⟩ (.int .i64 1)).setCell ⟨B, j * 5 + 1, none⟩ (.int .i64 0)).setCell ⟨B, j * 5 + 2, none⟩ (.int .i64 0)).setCell ⟨B, j * 5 + 3, none⟩ (.int .i64 0)).setCell ⟨B, j * 5 + 4, none⟩ (.int .i64 0)) = w8 at F1 F2 F3 F4 ⊢
          clear st s0
          have E1 := F1; have E2 := F2; have E3 := F3; have E4 := F4
          clear F1 F2 F3 F4
          have s2 : w8.cell? ⟨w.heap.size + 1, 2, none⟩ = some (.int .i64 sb) := E3.out.cell 2 rfl
          have s3 : w8.cell? ⟨w.heap.size + 1, 3, none⟩ = some (.int .i64 so) := E3.out.cell 3 rfl
          have hLs3 : ∀ x y, j * 5 + 4 < (byC ((L.set j x).set j y)).size := fun x y => by rw [set_set_by]; exact hLs2 y
          have st := store5 E1.out (j * 5) (hLs3 _ _) (.int .i64 2) (.int .i64 0) (.int .i64 sb) (.int .i64 so) (.int .i64 (j : Nat))
          have hbW := store5_below (Below.refl B w8) (Nat.le_refl _) (j * 5) (.int .i64 2) (.int .i64 0) (.int .i64 sb) (.int .i64 so) (.int .i64 (j : Nat))
          have f1 : At (((((w8.setCell ⟨B, j * 5, none⟩ (.int .i64 2)).setCell ⟨B, j * 5 + 1, none⟩ (.int .i64 0)).setCell ⟨B, j * 5 + 2, none⟩ (.int .i64 sb)).setCell ⟨B, j * 5 + 3, none⟩ (.int .i64 so)).setCell ⟨B, j * 5 + 4, none⟩ (.int .i64 (j : Nat))) B (byC (((L.set j (digY 0)).set j (digY 0)).set j (parY sb so (j : Nat)))) 67 := store5_by E1.out j (by simp; exact hLl) (parY sb so (j : Nat))
          have F1 := Lib.hid f1
          clear f1
          have F2 := Lib.hid (E2.out.below hbW (by omega))
          have F3 := Lib.hid (E3.out.below hbW (by omega))
          have F4 := Lib.hid (store5_below (B := B) E4.out (by omega) (j * 5) (.int .i64 2) (.int .i64 0) (.int .i64 sb) (.int .i64 so) (.int .i64 (j : Nat)))
          clear E1 E2 E3 E4 hbW
          go_wp2
          go_roundw
          case rel => exact ⟨j + 1, _, by omega, by go_num, by have := HTT.out.next hlt; rw [HE.out] at this; rw [set_set_by, set_set_by]; exact this, F1.out, F2.out, F3.out, F4.out⟩
          case measure => simp [intOf]; omega
        · have h8 : 8 * (j : Int) = 16 := by omega
          have HE := Lib.hid hEq
          have st := store5 dB (j * 5) hLs (.int .i64 1) (.int .i64 0) (.int .i64 0) (.int .i64 0) (.int .i64 0)
          have hbW := store5_below (Below.refl B wr) (Nat.le_refl _) (j * 5) (.int .i64 1) (.int .i64 0) (.int .i64 0) (.int .i64 0) (.int .i64 0)
          have e1 : At (((((wr.setCell ⟨B, j * 5, none⟩ (.int .i64 1)).setCell ⟨B, j * 5 + 1, none⟩ (.int .i64 0)).setCell ⟨B, j * 5 + 2, none⟩ (.int .i64 0)).setCell ⟨B, j * 5 + 3, none⟩ (.int .i64 0)).setCell ⟨B, j * 5 + 4, none⟩ (.int .i64 0)) B (byC (L.set j (digY 0))) 67 := store5_by dB j hLl (digY 0)
          have e2 := dA.below hbW (by omega)
          have e3 := dS.below hbW (by omega)
          have e4 := store5_below (B := B) hbr (by omega) (j * 5) (.int .i64 1) (.int .i64 0) (.int .i64 0) (.int .i64 0) (.int .i64 0)
          have E1 := Lib.hid e1
          have E2 := Lib.hid e2
          have E3 := Lib.hid e3
          have E4 := Lib.hid e4
          clear e1 e2 e3 e4 dB dA dS hbr hbW hEq hw hkk
          go_upto_region 10 with (fail)
          generalize (((((wr.setCell ⟨B, j * 5, none⟩ (.int .i64 1)).setCell ⟨B, j * 5 + 1, none⟩ (.int .i64 0)).setCell ⟨B, j * 5 + 2, none⟩ (.int .i64 0)).setCell ⟨B, j * 5 + 3, none⟩ (.int .i64 0)).setCell ⟨B, j * 5 + 4, none⟩ (.int .i64 0)) = w7 at E1 E2 E3 E4 ⊢
          clear st a0 s1 h8
          have s0 : w7.cell? ⟨w.heap.size + 1, 0, none⟩ = some (.bool true) := E3.out.cell 0 rfl
          have st := store5 E1.out (j * 5) (hLs2 _) (.int .i64 1) (.int .i64 0) (.int .i64 0) (.int .i64 0) (.int .i64 0)
          have hbW := store5_below (Below.refl B w7) (Nat.le_refl _) (j * 5) (.int .i64 1) (.int .i64 0) (.int .i64 0) (.int .i64 0) (.int .i64 0)
          have f1 : At (((((w7.setCell ⟨B, j * 5, none⟩ (.int .i64 1)).setCell ⟨B, j * 5 + 1, none⟩ (.int .i64 0)).setCell ⟨B, j * 5 + 2, none⟩ (.int .i64 0)).setCell ⟨B, j * 5 + 3, none⟩ (.int .i64 0)).setCell ⟨B, j * 5 + 4, none⟩ (.int .i64 0)) B (byC ((L.set j (digY 0)).set j (digY 0))) 67 := store5_by E1.out j (by simp; exact hLl) (digY 0)
          have F1 := Lib.hid f1
          clear f1
          have F2 := Lib.hid (E2.out.below hbW (by omega))
          have F3 := Lib.hid (E3.out.below hbW (by omega))
          have F4 := Lib.hid (store5_below (B := B) E4.out (by omega) (j * 5) (.int .i64 1) (.int .i64 0) (.int .i64 0) (.int .i64 0) (.int .i64 0))
          clear E1 E2 E3 E4 hbW
          go_upto_region 12 with (fail)
          generalize (((((w7.setCell ⟨B, j * 5, none⟩ (.int .i64 1)).setCell ⟨B, j * 5 + 1, none⟩ (.int .i64 0)).setCell ⟨B, j * 5 + 2, none⟩ (.int .i64 0)).setCell ⟨B, j * 5 + 3, none⟩ (.int .i64 0)).setCell ⟨B, j * 5 + 4, none⟩ (.int .i64 0)) = w8 at F1 F2 F3 F4 ⊢
          clear st s0
          have E1 := F1; have E2 := F2; have E3 := F3; have E4 := F4
          clear F1 F2 F3 F4
          have s2 : w8.cell? ⟨w.heap.size + 1, 2, none⟩ = some (.int .i64 sb) := E3.out.cell 2 rfl
          have s3 : w8.cell? ⟨w.heap.size + 1, 3, none⟩ = some (.int .i64 so) := E3.out.cell 3 rfl
          have hLs3 : ∀ x y, j * 5 + 4 < (byC ((L.set j x).set j y)).size := fun x y => by rw [set_set_by]; exact hLs2 y
          have st := store5 E1.out (j * 5) (hLs3 _ _) (.int .i64 2) (.int .i64 0) (.int .i64 sb) (.int .i64 so) (.int .i64 (j : Nat))
          have hbW := store5_below (Below.refl B w8) (Nat.le_refl _) (j * 5) (.int .i64 2) (.int .i64 0) (.int .i64 sb) (.int .i64 so) (.int .i64 (j : Nat))
          have f1 : At (((((w8.setCell ⟨B, j * 5, none⟩ (.int .i64 2)).setCell ⟨B, j * 5 + 1, none⟩ (.int .i64 0)).setCell ⟨B, j * 5 + 2, none⟩ (.int .i64 sb)).setCell ⟨B, j * 5 + 3, none⟩ (.int .i64 so)).setCell ⟨B, j * 5 + 4, none⟩ (.int .i64 (j : Nat))) B (byC (((L.set j (digY 0)).set j (digY 0)).set j (parY sb so (j : Nat)))) 67 := store5_by E1.out j (by simp; exact hLl) (parY sb so (j : Nat))
          have F1 := Lib.hid f1
          clear f1
          have F2 := Lib.hid (E2.out.below hbW (by omega))
          have F3 := Lib.hid (E3.out.below hbW (by omega))
          have F4 := Lib.hid (store5_below (B := B) E4.out (by omega) (j * 5) (.int .i64 2) (.int .i64 0) (.int .i64 sb) (.int .i64 so) (.int .i64 (j : Nat)))
          clear E1 E2 E3 E4 hbW
          go_wp2
          go_roundw
          case rel => exact ⟨j + 1, _, by omega, by go_num, by have := HTT.out.next hlt; rw [HE.out] at this; rw [set_set_by, set_set_by]; exact this, F1.out, F2.out, F3.out, F4.out⟩
          case measure => simp [intOf]; omega
        · have h8 : 8 * (j : Int) = 24 := by omega
          have HE := Lib.hid hEq
          have st := store5 dB (j * 5) hLs (.int .i64 1) (.int .i64 0) (.int .i64 0) (.int .i64 0) (.int .i64 0)
          have hbW := store5_below (Below.refl B wr) (Nat.le_refl _) (j * 5) (.int .i64 1) (.int .i64 0) (.int .i64 0) (.int .i64 0) (.int .i64 0)
          have e1 : At (((((wr.setCell ⟨B, j * 5, none⟩ (.int .i64 1)).setCell ⟨B, j * 5 + 1, none⟩ (.int .i64 0)).setCell ⟨B, j * 5 + 2, none⟩ (.int .i64 0)).setCell ⟨B, j * 5 + 3, none⟩ (.int .i64 0)).setCell ⟨B, j * 5 + 4, none⟩ (.int .i64 0)) B (byC (L.set j (digY 0))) 67 := store5_by dB j hLl (digY 0)
          have e2 := dA.below hbW (by omega)
          have e3 := dS.below hbW (by omega)
          have e4 := store5_below (B := B) hbr (by omega) (j * 5) (.int .i64 1) (.int .i64 0) (.int .i64 0) (.int .i64 0) (.int .i64 0)
          have E1 := Lib.hid e1
          have E2 := Lib.hid e2
          have E3 := Lib.hid e3
          have E4 := Lib.hid e4
          clear e1 e2 e3 e4 dB dA dS hbr hbW hEq hw hkk
          go_upto_region 10 with (fail)
          generalize (((((wr.setCell ⟨B, j * 5, none⟩ (.int .i64 1)).setCell ⟨B, j * 5 + 1, none⟩ (.int .i64 0)).setCell ⟨B, j * 5 + 2, none⟩ (.int .i64 0)).setCell ⟨B, j * 5 + 3, none⟩ (.int .i64 0)).setCell ⟨B, j * 5 + 4, none⟩ (.int .i64 0)) = w7 at E1 E2 E3 E4 ⊢
          clear st a0 s1 h8
          have s0 : w7.cell? ⟨w.heap.size + 1, 0, none⟩ = some (.bool true) := E3.out.cell 0 rfl
          have st := store5 E1.out (j * 5) (hLs2 _) (.int .i64 1) (.int .i64 0) (.int .i64 0) (.int .i64 0) (.int .i64 0)
          have hbW := store5_below (Below.refl B w7) (Nat.le_refl _) (j * 5) (.int .i64 1) (.int .i64 0) (.int .i64 0) (.int .i64 0) (.int .i64 0)
          have f1 : At (((((w7.setCell ⟨B, j * 5, none⟩ (.int .i64 1)).setCell ⟨B, j * 5 + 1, none⟩ (.int .i64 0)).setCell ⟨B, j * 5 + 2, none⟩ (.int .i64 0)).setCell ⟨B, j * 5 + 3, none⟩ (.int .i64 0)).setCell ⟨B, j * 5 + 4, none⟩ (.int .i64 0)) B (byC ((L.set j (digY 0)).set j (digY 0))) 67 := store5_by E1.out j (by simp; exact hLl) (digY 0)
          have F1 := Lib.hid f1
          clear f1
          have F2 := Lib.hid (E2.out.below hbW (by omega))
          have F3 := Lib.hid (E3.out.below hbW (by omega))
          have F4 := Lib.hid (store5_below (B := B) E4.out (by omega) (j * 5) (.int .i64 1) (.int .i64 0) (.int .i64 0) (.int .i64 0) (.int .i64 0))
          clear E1 E2 E3 E4 hbW
          go_upto_region 12 with (fail)
          generalize (((((w7.setCell ⟨B, j * 5, none⟩ (.int .i64 1)).setCell ⟨B, j * 5 + 1, none⟩ (.int .i64 0)).setCell ⟨B, j * 5 + 2, none⟩ (.int .i64 0)).setCell ⟨B, j * 5 + 3, none⟩ (.int .i64 0)).setCell ⟨B, j * 5 + 4, none⟩ (.int .i64 0)) = w8 at F1 F2 F3 F4 ⊢
          clear st s0
          have E1 := F1; have E2 := F2; have E3 := F3; have E4 := F4
          clear F1 F2 F3 F4
          have s2 : w8.cell? ⟨w.heap.size + 1, 2, none⟩ = some (.int .i64 sb) := E3.out.cell 2 rfl
          have s3 : w8.cell? ⟨w.heap.size + 1, 3, none⟩ = some (.int .i64 so) := E3.out.cell 3 rfl
          have hLs3 : ∀ x y, j * 5 + 4 < (byC ((L.set j x).set j y)).size := fun x y => by rw [set_set_by]; exact hLs2 y
          have st := store5 E1.out (j * 5) (hLs3 _ _) (.int .i64 2) (.int .i64 0) (.int .i64 sb) (.int .i64 so) (.int .i64 (j : Nat))
          have hbW := store5_below (Below.refl B w8) (Nat.le_refl _) (j * 5) (.int .i64 2) (.int .i64 0) (.int .i64 sb) (.int .i64 so) (.int .i64 (j : Nat))
          have f1 : At (((((w8.setCell ⟨B, j * 5, none⟩ (.int .i64 2)).setCell ⟨B, j * 5 + 1, none⟩ (.int .i64 0)).setCell ⟨B, j * 5 + 2, none⟩ (.int .i64 sb)).setCell ⟨B, j * 5 + 3, none⟩ (.int .i64 so)).setCell ⟨B, j * 5 + 4, none⟩ (.int .i64 (j : Nat))) B (byC (((L.set j (digY 0)).set j (digY 0)).set j (parY sb so (j : Nat)))) 67 := store5_by E1.out j (by simp; exact hLl) (parY sb so (j : Nat))
          have F1 := Lib.hid f1
          clear f1
          have F2 := Lib.hid (E2.out.below hbW (by omega))
          have F3 := Lib.hid (E3.out.below hbW (by omega))
          have F4 := Lib.hid (store5_below (B := B) E4.out (by omega) (j * 5) (.int .i64 2) (.int .i64 0) (.int .i64 sb) (.int .i64 so) (.int .i64 (j : Nat)))
          clear E1 E2 E3 E4 hbW
          go_wp2
          go_roundw
          case rel => exact ⟨j + 1, _, by omega, by go_num, by have := HTT.out.next hlt; rw [HE.out] at this; rw [set_set_by, set_set_by]; exact this, F1.out, F2.out, F3.out, F4.out⟩
          case measure => simp [intOf]; omega
      · have hw : wtN true n j = 8 * (n - 1 - j) := by simp [wtN]
        have hk4 : n - 1 - j = 0 ∨ n - 1 - j = 1 ∨ n - 1 - j = 2 ∨ n - 1 - j = 3 := by omega
        rcases hk4 with hkk | hkk | hkk | hkk
        · have h8 : (n : Int) - 1 - (j : Int) = 0 := by omega
          have HE := Lib.hid hEq
          have st := store5 dB (j * 5) hLs (.int .i64 1) (.int .i64 0) (.int .i64 0) (.int .i64 0) (.int .i64 0)
          have hbW := store5_below (Below.refl B wr) (Nat.le_refl _) (j * 5) (.int .i64 1) (.int .i64 0) (.int .i64 0) (.int .i64 0) (.int .i64 0)
          have e1 : At (((((wr.setCell ⟨B, j * 5, none⟩ (.int .i64 1)).setCell ⟨B, j * 5 + 1, none⟩ (.int .i64 0)).setCell ⟨B, j * 5 + 2, none⟩ (.int .i64 0)).setCell ⟨B, j * 5 + 3, none⟩ (.int .i64 0)).setCell ⟨B, j * 5 + 4, none⟩ (.int .i64 0)) B (byC (L.set j (digY 0))) 67 := store5_by dB j hLl (digY 0)
          have e2 := dA.below hbW (by omega)
          have e3 := dS.below hbW (by omega)
          have e4 := store5_below (B := B) hbr (by omega) (j * 5) (.int .i64 1) (.int .i64 0) (.int .i64 0) (.int .i64 0) (.int .i64 0)
          have E1 := Lib.hid e1
          have E2 := Lib.hid e2
          have E3 := Lib.hid e3
          have E4 := Lib.hid e4
          clear e1 e2 e3 e4 dB dA dS hbr hbW hEq hw hkk
          go_upto_region 10 with (fail)
          generalize (((((wr.setCell ⟨B, j * 5, none⟩ (.int .i64 1)).setCell ⟨B, j * 5 + 1, none⟩ (.int .i64 0)).setCell ⟨B, j * 5 + 2, none⟩ (.int .i64 0)).setCell ⟨B, j * 5 + 3, none⟩ (.int .i64 0)).setCell ⟨B, j * 5 + 4, none⟩ (.int .i64 0)) = w7 at E1 E2 E3 E4 ⊢
          clear st a0 s1 h8
          have s0 : w7.cell? ⟨w.heap.size + 1, 0, none⟩ = some (.bool true) := E3.out.cell 0 rfl
          have st := store5 E1.out (j * 5) (hLs2 _) (.int .i64 1) (.int .i64 0) (.int .i64 0) (.int .i64 0) (.int .i64 0)
          have hbW := store5_below (Below.refl B w7) (Nat.le_refl _) (j * 5) (.int .i64 1) (.int .i64 0) (.int .i64 0) (.int .i64 0) (.int .i64 0)
          have f1 : At (((((w7.setCell ⟨B, j * 5, none⟩ (.int .i64 1)).setCell ⟨B, j * 5 + 1, none⟩ (.int .i64 0)).setCell ⟨B, j * 5 + 2, none⟩ (.int .i64 0)).setCell ⟨B, j * 5 + 3, none⟩ (.int .i64 0)).setCell ⟨B, j * 5 + 4, none⟩ (.int .i64 0)) B (byC ((L.set j (digY 0)).set j (digY 0))) 67 := store5_by E1.out j (by simp; exact hLl) (digY 0)
          have F1 := Lib.hid f1
          clear f1
          have F2 := Lib.hid (E2.out.below hbW (by omega))
          have F3 := Lib.hid (E3.out.below hbW (by omega))
          have F4 := Lib.hid (store5_below (B := B) E4.out (by omega) (j * 5) (.int .i64 1) (.int .i64 0) (.int .i64 0) (.int .i64 0) (.int .i64 0))
          clear E1 E2 E3 E4 hbW
          go_upto_region 12 with (fail)
          generalize (((((w7.setCell ⟨B, j * 5, none⟩ (.int .i64 1)).setCell ⟨B, j * 5 + 1, none⟩ (.int .i64 0)).setCell ⟨B, j * 5 + 2, none⟩ (.int .i64 0)).setCell ⟨B, j * 5 + 3, none⟩ (.int .i64 0)).setCell ⟨B, j * 5 + 4, none⟩ (.int .i64 0)) = w8 at F1 F2 F3 F4 ⊢
          clear st s0
          have E1 := F1; have E2 := F2; have E3 := F3; have E4 := F4
          clear F1 F2 F3 F4
          have s2 : w8.cell? ⟨w.heap.size + 1, 2, none⟩ = some (.int .i64 sb) := E3.out.cell 2 rfl
          have s3 : w8.cell? ⟨w.heap.size + 1, 3, none⟩ = some (.int .i64 so) := E3.out.cell 3 rfl
          have hLs3 : ∀ x y, j * 5 + 4 < (byC ((L.set j x).set j y)).size := fun x y => by rw [set_set_by]; exact hLs2 y
          have st := store5 E1.out (j * 5) (hLs3 _ _) (.int .i64 2) (.int .i64 0) (.int .i64 sb) (.int .i64 so) (.int .i64 (j : Nat))
          have hbW := store5_below (Below.refl B w8) (Nat.le_refl _) (j * 5) (.int .i64 2) (.int .i64 0) (.int .i64 sb) (.int .i64 so) (.int .i64 (j : Nat))
          have f1 : At (((((w8.setCell ⟨B, j * 5, none⟩ (.int .i64 2)).setCell ⟨B, j * 5 + 1, none⟩ (.int .i64 0)).setCell ⟨B, j * 5 + 2, none⟩ (.int .i64 sb)).setCell ⟨B, j * 5 + 3, none⟩ (.int .i64 so)).setCell ⟨B, j * 5 + 4, none⟩ (.int .i64 (j : Nat))) B (byC (((L.set j (digY 0)).set j (digY 0)).set j (parY sb so (j : Nat)))) 67 := store5_by E1.out j (by simp; exact hLl) (parY sb so (j : Nat))
          have F1 := Lib.hid f1
          clear f1
          have F2 := Lib.hid (E2.out.below hbW (by omega))
          have F3 := Lib.hid (E3.out.below hbW (by omega))
          have F4 := Lib.hid (store5_below (B := B) E4.out (by omega) (j * 5) (.int .i64 2) (.int .i64 0) (.int .i64 sb) (.int .i64 so) (.int .i64 (j : Nat)))
          clear E1 E2 E3 E4 hbW
          go_wp2
          go_roundw
          case rel => exact ⟨j + 1, _, by omega, by go_num, by have := HTT.out.next hlt; rw [HE.out] at this; rw [set_set_by, set_set_by]; exact this, F1.out, F2.out, F3.out, F4.out⟩
          case measure => simp [intOf]; omega
        · have h8 : (n : Int) - 1 - (j : Int) = 1 := by omega
          have HE := Lib.hid hEq
          have st := store5 dB (j * 5) hLs (.int .i64 1) (.int .i64 0) (.int .i64 0) (.int .i64 0) (.int .i64 0)
          have hbW := store5_below (Below.refl B wr) (Nat.le_refl _) (j * 5) (.int .i64 1) (.int .i64 0) (.int .i64 0) (.int .i64 0) (.int .i64 0)
          have e1 : At (((((wr.setCell ⟨B, j * 5, none⟩ (.int .i64 1)).setCell ⟨B, j * 5 + 1, none⟩ (.int .i64 0)).setCell ⟨B, j * 5 + 2, none⟩ (.int .i64 0)).setCell ⟨B, j * 5 + 3, none⟩ (.int .i64 0)).setCell ⟨B, j * 5 + 4, none⟩ (.int .i64 0)) B (byC (L.set j (digY 0))) 67 := store5_by dB j hLl (digY 0)
          have e2 := dA.below hbW (by omega)
          have e3 := dS.below hbW (by omega)
          have e4 := store5_below (B := B) hbr (by omega) (j * 5) (.int .i64 1) (.int .i64 0) (.int .i64 0) (.int .i64 0) (.int .i64 0)
          have E1 := Lib.hid e1
          have E2 := Lib.hid e2
          have E3 := Lib.hid e3
          have E4 := Lib.hid e4
          clear e1 e2 e3 e4 dB dA dS hbr hbW hEq hw hkk
          go_upto_region 10 with (fail)
          generalize (((((wr.setCell ⟨B, j * 5, none⟩ (.int .i64 1)).setCell ⟨B, j * 5 + 1, none⟩ (.int .i64 0)).setCell ⟨B, j * 5 + 2, none⟩ (.int .i64 0)).setCell ⟨B, j * 5 + 3, none⟩ (.int .i64 0)).setCell ⟨B, j * 5 + 4, none⟩ (.int .i64 0)) = w7 at E1 E2 E3 E4 ⊢
          clear st a0 s1 h8
          have s0 : w7.cell? ⟨w.heap.size + 1, 0, none⟩ = some (.bool true) := E3.out.cell 0 rfl
          have st := store5 E1.out (j * 5) (hLs2 _) (.int .i64 1) (.int .i64 0) (.int .i64 0) (.int .i64 0) (.int .i64 0)
          have hbW := store5_below (Below.refl B w7) (Nat.le_refl _) (j * 5) (.int .i64 1) (.int .i64 0) (.int .i64 0) (.int .i64 0) (.int .i64 0)
          have f1 : At (((((w7.setCell ⟨B, j * 5, none⟩ (.int .i64 1)).setCell ⟨B, j * 5 + 1, none⟩ (.int .i64 0)).setCell ⟨B, j * 5 + 2, none⟩ (.int .i64 0)).setCell ⟨B, j * 5 + 3, none⟩ (.int .i64 0)).setCell ⟨B, j * 5 + 4, none⟩ (.int .i64 0)) B (byC ((L.set j (digY 0)).set j (digY 0))) 67 := store5_by E1.out j (by simp; exact hLl) (digY 0)
          have F1 := Lib.hid f1
          clear f1
          have F2 := Lib.hid (E2.out.below hbW (by omega))
          have F3 := Lib.hid (E3.out.below hbW (by omega))
          have F4 := Lib.hid (store5_below (B := B) E4.out (by omega) (j * 5) (.int .i64 1) (.int .i64 0) (.int .i64 0) (.int .i64 0) (.int .i64 0))
          clear E1 E2 E3 E4 hbW
          go_upto_region 12 with (fail)
          generalize (((((w7.setCell ⟨B, j * 5, none⟩ (.int .i64 1)).setCell ⟨B, j * 5 + 1, none⟩ (.int .i64 0)).setCell ⟨B, j * 5 + 2, none⟩ (.int .i64 0)).setCell ⟨B, j * 5 + 3, none⟩ (.int .i64 0)).setCell ⟨B, j * 5 + 4, none⟩ (.int .i64 0)) = w8 at F1 F2 F3 F4 ⊢
          clear st s0
          have E1 := F1; have E2 := F2; have E3 := F3; have E4 := F4
          clear F1 F2 F3 F4
          have s2 : w8.cell? ⟨w.heap.size + 1, 2, none⟩ = some (.int .i64 sb) := E3.out.cell 2 rfl
          have s3 : w8.cell? ⟨w.heap.size + 1, 3, none⟩ = some (.int .i64 so) := E3.out.cell 3 rfl
          have hLs3 : ∀ x y, j * 5 + 4 < (byC ((L.set j x).set j y)).size := fun x y => by rw [set_set_by]; exact hLs2 y
          have st := store5 E1.out (j * 5) (hLs3 _ _) (.int .i64 2) (.int .i64 0) (.int .i64 sb) (.int .i64 so) (.int .i64 (j : Nat))
          have hbW := store5_below (Below.refl B w8) (Nat.le_refl _) (j * 5) (.int .i64 2) (.int .i64 0) (.int .i64 sb) (.int .i64 so) (.int .i64 (j : Nat))
          have f1 : At (((((w8.setCell ⟨B, j * 5, none⟩ (.int .i64 2)).setCell ⟨B, j * 5 + 1, none⟩ (.int .i64 0)).setCell ⟨B, j * 5 + 2, none⟩ (.int .i64 sb)).setCell ⟨B, j * 5 + 3, none⟩ (.int .i64 so)).setCell ⟨B, j * 5 + 4, none⟩ (.int .i64 (j : Nat))) B (byC (((L.set j (digY 0)).set j (digY 0)).set j (parY sb so (j : Nat)))) 67 := store5_by E1.out j (by simp; exact hLl) (parY sb so (j : Nat))
          have F1 := Lib.hid f1
          clear f1
          have F2 := Lib.hid (E2.out.below hbW (by omega))
          have F3 := Lib.hid (E3.out.below hbW (by omega))
          have F4 := Lib.hid (store5_below (B := B) E4.out (by omega) (j * 5) (.int .i64 2) (.int .i64 0) (.int .i64 sb) (.int .i64 so) (.int .i64 (j : Nat)))
          clear E1 E2 E3 E4 hbW
          go_wp2
          go_roundw
          case rel => exact ⟨j + 1, _, by omega, by go_num, by have := HTT.out.next hlt; rw [HE.out] at this; rw [set_set_by, set_set_by]; exact this, F1.out, F2.out, F3.out, F4.out⟩
          case measure => simp [intOf]; omega
        · have h8 : (n : Int) - 1 - (j : Int) = 2 := by omega
          have HE := Lib.hid hEq
          have st := store5 dB (j * 5) hLs (.int .i64 1) (.int .i64 0) (.int .i64 0) (.int .i64 0) (.int .i64 0)
          have hbW := store5_below (Below.refl B wr) (Nat.le_refl _) (j * 5) (.int .i64 1) (.int .i64 0) (.int .i64 0) (.int .i64 0) (.int .i64 0)
          have e1 : At (((((wr.setCell ⟨B, j * 5, none⟩ (.int .i64 1)).setCell ⟨B, j * 5 + 1, none⟩ (.int .i64 0)).setCell ⟨B, j * 5 + 2, none⟩ (.int .i64 0)).setCell ⟨B, j * 5 + 3, none⟩ (.int .i64 0)).setCell ⟨B, j * 5 + 4, none⟩ (.int .i64 0)) B (byC (L.set j (digY 0))) 67 := store5_by dB j hLl (digY 0)
          have e2 := dA.below hbW (by omega)
          have e3 := dS.below hbW (by omega)
          have e4 := store5_below (B := B) hbr (by omega) (j * 5) (.int .i64 1) (.int .i64 0) (.int .i64 0) (.int .i64 0) (.int .i64 0)
          have E1 := Lib.hid e1
          have E2 := Lib.hid e2
          have E3 := Lib.hid e3
          have E4 := Lib.hid e4
          clear e1 e2 e3 e4 dB dA dS hbr hbW hEq hw hkk
          go_upto_region 10 with (fail)
          generalize (((((wr.setCell ⟨B, j * 5, none⟩ (.int .i64 1)).setCell ⟨B, j * 5 + 1, none⟩ (.int .i64 0)).setCell ⟨B, j * 5 + 2, none⟩ (.int .i64 0)).setCell ⟨B, j * 5 + 3, none⟩ (.int .i64 0)).setCell ⟨B, j * 5 + 4, none⟩ (.int .i64 0)) = w7 at E1 E2 E3 E4 ⊢
          clear st a0 s1 h8
          have s0 : w7.cell? ⟨w.heap.size + 1, 0, none⟩ = some (.bool true) := E3.out.cell 0 rfl
          have st := store5 E1.out (j * 5) (hLs2 _) (.int .i64 1) (.int .i64 0) (.int .i64 0) (.int .i64 0) (.int .i64 0)
          have hbW := store5_below (Below.refl B w7) (Nat.le_refl _) (j * 5) (.int .i64 1) (.int .i64 0) (.int .i64 0) (.int .i64 0) (.int .i64 0)
          have f1 : At (((((w7.setCell ⟨B, j * 5, none⟩ (.int .i64 1)).setCell ⟨B, j * 5 + 1, none⟩ (.int .i64 0)).setCell ⟨B, j * 5 + 2, none⟩ (.int .i64 0)).setCell ⟨B, j * 5 + 3, none⟩ (.int .i64 0)).setCell ⟨B, j * 5 + 4, none⟩ (.int .i64 0)) B (byC ((L.set j (digY 0)).set j (digY 0))) 67 := store5_by E1.out j (by simp; exact hLl) (digY 0)
          have F1 := Lib.hid f1
          clear f1
          have F2 := Lib.hid (E2.out.below hbW (by omega))
          have F3 := Lib.hid (E3.out.below hbW (by omega))
          have F4 := Lib.hid (store5_below (B := B) E4.out (by omega) (j * 5) (.int .i64 1) (.int .i64 0) (.int .i64 0) (.int .i64 0) (.int .i64 0))
          clear E1 E2 E3 E4 hbW
          go_upto_region 12 with (fail)
          generalize (((((w7.setCell ⟨B, j * 5, none⟩ (.int .i64 1)).setCell ⟨B, j * 5 + 1, none⟩ (.int .i64 0)).setCell ⟨B, j * 5 + 2, none⟩ (.int .i64 0)).setCell ⟨B, j * 5 + 3, none⟩ (.int .i64 0)).setCell ⟨B, j * 5 + 4, none⟩ (.int .i64 0)) = w8 at F1 F2 F3 F4 ⊢
          clear st s0
          have E1 := F1; have E2 := F2; have E3 := F3; have E4 := F4
          clear F1 F2 F3 F4
          have s2 : w8.cell? ⟨w.heap.size + 1, 2, none⟩ = some (.int .i64 sb) := E3.out.cell 2 rfl
          have s3 : w8.cell? ⟨w.heap.size + 1, 3, none⟩ = some (.int .i64 so) := E3.out.cell 3 rfl
          have hLs3 : ∀ x y, j * 5 + 4 < (byC ((L.set j x).set j y)).size := fun x y => by rw [set_set_by]; exact hLs2 y
          have st := store5 E1.out (j * 5) (hLs3 _ _) (.int .i64 2) (.int .i64 0) (.int .i64 sb) (.int .i64 so) (.int .i64 (j : Nat))
          have hbW := store5_below (Below.refl B w8) (Nat.le_refl _) (j * 5) (.int .i64 2) (.int .i64 0) (.int .i64 sb) (.int .i64 so) (.int .i64 (j : Nat))
          have f1 : At (((((w8.setCell ⟨B, j * 5, none⟩ (.int .i64 2)).setCell ⟨B, j * 5 + 1, none⟩ (.int .i64 0)).setCell ⟨B, j * 5 + 2, none⟩ (.int .i64 sb)).setCell ⟨B, j * 5 + 3, none⟩ (.int .i64 so)).setCell ⟨B, j * 5 + 4, none⟩ (.int .i64 (j : Nat))) B (byC (((L.set j (digY 0)).set j (digY 0)).set j (parY sb so (j : Nat)))) 67 := store5_by E1.out j (by simp; exact hLl) (parY sb so (j : Nat))
          have F1 := Lib.hid f1
          clear f1
          have F2 := Lib.hid (E2.out.below hbW (by omega))
          have F3 := Lib.hid (E3.out.below hbW (by omega))
          have F4 := Lib.hid (store5_below (B := B) E4.out (by omega) (j * 5) (.int .i64 2) (.int .i64 0) (.int .i64 sb) (.int .i64 so) (.int .i64 (j : Nat)))
          clear E1 E2 E3 E4 hbW
          go_wp2
          go_roundw
          case rel => exact ⟨j + 1, _, by omega, by go_num, by have := HTT.out.next hlt; rw [HE.out] at this; rw [set_set_by, set_set_by]; exact this, F1.out, F2.out, F3.out, F4.out⟩
          case measure => simp [intOf]; omega
        · have h8 : (n : Int) - 1 - (j : Int) = 3 := by omega
          have HE := Lib.hid hEq
          have st := store5 dB (j * 5) hLs (.int .i64 1) (.int .i64 0) (.int .i64 0) (.int .i64 0) (.int .i64 0)
          have hbW := store5_below (Below.refl B wr) (Nat.le_refl _) (j * 5) (.int .i64 1) (.int .i64 0) (.int .i64 0) (.int .i64 0) (.int .i64 0)
          have e1 : At (((((wr.setCell ⟨B, j * 5, none⟩ (.int .i64 1)).setCell ⟨B, j * 5 + 1, none⟩ (.int .i64 0)).setCell ⟨B, j * 5 + 2, none⟩ (.int .i64 0)).setCell ⟨B, j * 5 + 3, none⟩ (.int .i64 0)).setCell ⟨B, j * 5 + 4, none⟩ (.int .i64 0)) B (byC (L.set j (digY 0))) 67 := store5_by dB j hLl (digY 0)
          have e2 := dA.below hbW (by omega)
          have e3 := dS.below hbW (by omega)
          have e4 := store5_below (B := B) hbr (by omega) (j * 5) (.int .i64 1) (.int .i64 0) (.int .i64 0) (.int .i64 0) (.int .i64 0)
          have E1 := Lib.hid e1
          have E2 := Lib.hid e2
          have E3 := Lib.hid e3
          have E4 := Lib.hid e4
          clear e1 e2 e3 e4 dB dA dS hbr hbW hEq hw hkk
          go_upto_region 10 with (fail)
          generalize (((((wr.setCell ⟨B, j * 5, none⟩ (.int .i64 1)).setCell ⟨B, j * 5 + 1, none⟩ (.int .i64 0)).setCell ⟨B, j * 5 + 2, none⟩ (.int .i64 0)).setCell ⟨B, j * 5 + 3, none⟩ (.int .i64 0)).setCell ⟨B, j * 5 + 4, none⟩ (.int .i64 0)) = w7 at E1 E2 E3 E4 ⊢
          clear st a0 s1 h8
          have s0 : w7.cell? ⟨w.heap.size + 1, 0, none⟩ = some (.bool true) := E3.out.cell 0 rfl
          have st := store5 E1.out (j * 5) (hLs2 _) (.int .i64 1) (.int .i64 0) (.int .i64 0) (.int .i64 0) (.int .i64 0)
          have hbW := store5_below (Below.refl B w7) (Nat.le_refl _) (j * 5) (.int .i64 1) (.int .i64 0) (.int .i64 0) (.int .i64 0) (.int .i64 0)
          have f1 : At (((((w7.setCell ⟨B, j * 5, none⟩ (.int .i64 1)).setCell ⟨B, j * 5 + 1, none⟩ (.int .i64 0)).setCell ⟨B, j * 5 + 2, none⟩ (.int .i64 0)).setCell ⟨B, j * 5 + 3, none⟩ (.int .i64 0)).setCell ⟨B, j * 5 + 4, none⟩ (.int .i64 0)) B (byC ((L.set j (digY 0)).set j (digY 0))) 67 := store5_by E1.out j (by simp; exact hLl) (digY 0)
          have F1 := Lib.hid f1
          clear f1
          have F2 := Lib.hid (E2.out.below hbW (by omega))
          have F3 := Lib.hid (E3.out.below hbW (by omega))
          have F4 := Lib.hid (store5_below (B := B) E4.out (by omega) (j * 5) (.int .i64 1) (.int .i64 0) (.int .i64 0) (.int .i64 0) (.int .i64 0))
          clear E1 E2 E3 E4 hbW
          go_upto_region 12 with (fail)
          generalize (((((w7.setCell ⟨B, j * 5, none⟩ (.int .i64 1)).setCell ⟨B, j * 5 + 1, none⟩ (.int .i64 0)).setCell ⟨B, j * 5 + 2, none⟩ (.int .i64 0)).setCell ⟨B, j * 5 + 3, none⟩ (.int .i64 0)).setCell ⟨B, j * 5 + 4, none⟩ (.int .i64 0)) = w8 at F1 F2 F3 F4 ⊢
          clear st s0
          have E1 := F1; have E2 := F2; have E3 := F3; have E4 := F4
          clear F1 F2 F3 F4
          have s2 : w8.cell? ⟨w.heap.size + 1, 2, none⟩ = some (.int .i64 sb) := E3.out.cell 2 rfl
          have s3 : w8.cell? ⟨w.heap.size + 1, 3, none⟩ = some (.int .i64 so) := E3.out.cell 3 rfl
          have hLs3 : ∀ x y, j * 5 + 4 < (byC ((L.set j x).set j y)).size := fun x y => by rw [set_set_by]; exact hLs2 y
          have st := store5 E1.out (j * 5) (hLs3 _ _) (.int .i64 2) (.int .i64 0) (.int .i64 sb) (.int .i64 so) (.int .i64 (j : Nat))
          have hbW := store5_below (Below.refl B w8) (Nat.le_refl _) (j * 5) (.int .i64 2) (.int .i64 0) (.int .i64 sb) (.int .i64 so) (.int .i64 (j : Nat))
          have f1 : At (((((w8.setCell ⟨B, j * 5, none⟩ (.int .i64 2)).setCell ⟨B, j * 5 + 1, none⟩ (.int .i64 0)).setCell ⟨B, j * 5 + 2, none⟩ (.int .i64 sb)).setCell ⟨B, j * 5 + 3, none⟩ (.int .i64 so)).setCell ⟨B, j * 5 + 4, none⟩ (.int .i64 (j : Nat))) B (byC (((L.set j (digY 0)).set j (digY 0)).set j (parY sb so (j : Nat)))) 67 := store5_by E1.out j (by simp; exact hLl) (parY sb so (j : Nat))
          have F1 := Lib.hid f1
          clear f1
          have F2 := Lib.hid (E2.out.below hbW (by omega))
          have F3 := Lib.hid (E3.out.below hbW (by omega))
          have F4 := Lib.hid (store5_below (B := B) E4.out (by omega) (j * 5) (.int .i64 2) (.int .i64 0) (.int .i64 sb) (.int .i64 so) (.int .i64 (j : Nat)))
          clear E1 E2 E3 E4 hbW
          go_wp2
          go_roundw
          case rel => exact ⟨j + 1, _, by omega, by go_num, by have := HTT.out.next hlt; rw [HE.out] at this; rw [set_set_by, set_set_by]; exact this, F1.out, F2.out, F3.out, F4.out⟩
          case measure => simp [intOf]; omega
    · obtain rfl : j = n := by omega
      have HD := Lib.hid hT.done
      clear hT
      go_wp2
      go_ret
      exact ⟨B, rfl, by omega, by rw [← HD.out]; exact dB, hbr⟩
end Go.Proofs.Ytnhbaigagphpmaa
