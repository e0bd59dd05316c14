/- Package bytes: the bytes of a scalar. -/
import Derived.Test.YtnhbaigagphpmaaBStore
namespace Go.Proofs.Ytnhbaigagphpmaa
open Go.ChangeShapes Go.WideShapes Go.ChangeAt Go.RowKit Go.Joins Go.Deep
set_option linter.unusedVariables false

/-- a row that is the call's own, and holds the bytes of a scalar -/
def PutPost (L : List BY) (n : Nat) (w : World) (e : Ending) (w' : World) : Prop :=
  ∃ B, e = .returned (.tuple #[.slice (some ⟨B, 0, none⟩) n n, .int .i64 0]) ∧ w.heap.size ≤ B ∧ At w' B (byC L) 67 ∧ Below w.heap.size w w'
theorem At.new2 (w : World) (o : Obj) (cs : Array Value) (t : TypeId) : At ((w.alloc o).alloc (.cells cs t)) (w.heap.size + 1) cs t := by simpa using At.new (w.alloc o) cs t
/-- so many bytes are put -/
def PutTill (big : Bool) (n : Nat) (s : SC) (L : List BY) (j : Nat) : Prop := L.length = n ∧ ∀ i, i < j → L.getD i default = putY big n s i
theorem PutTill.next {big : Bool} {n : Nat} {s : SC} {L : List BY} {j : Nat} (h : PutTill big n s L j) (hj : j < n) : PutTill big n s (L.set j (putY big n s j)) (j + 1) := by
  refine ⟨by simp [h.1], fun i hi => ?_⟩
  have hl := h.1
  by_cases e : i = j
  · subst e; simp [List.getD, hl, hj]
  · have := h.2 i (by omega)
    rw [← this]
    simp only [List.getD_eq_getElem?_getD]
    rw [List.getElem?_set_ne (by omega)]
theorem PutTill.done {big : Bool} {n : Nat} {s : SC} {L : List BY} (h : PutTill big n s L n) : L = putL big n s := by
  refine List.ext_getElem (by rw [h.1, putL_len]) fun i h1 h2 => ?_
  have h3 := h.2 i (by rw [← h.1]; exact h1)
  have h4 := putL_get big n s i (by rw [← h.1]; exact h1)
  rw [← h4] at h3
  simpa [List.getD, h1, h2] using h3
def RelPut (big : Bool) (n : Nat) (s : SC) (w0 : World) (B b1 b2 : Nat) (ca cs : Array Value) (v : Value) (wr : World) : Prop :=
  ∃ j L, j ≤ n ∧ v = .int .i64 (j : Nat) ∧ PutTill big n s L j ∧ At wr B (byC L) 67 ∧ At wr b1 ca 38 ∧ At wr b2 cs 33 ∧ Below w0.heap.size w0 wr

set_option maxRecDepth 100000 in
set_option maxHeartbeats 3200000 in
theorem Put_p (big : Bool) (p k : Int) (hp : mayA p) (hk : 1 ≤ k ∧ k ≤ 7) (s : SC) (hm : mayS k s = true) (hs : 0 < s.b) (w : World) :
    Calls Try.prog 39 #[.agg #[.bool big, .int .i64 p], .int .i64 k, scV s] w (PutPost (putL big (sizN p k) s) (sizN p k) w) := by
  have cS := fun w => Size_yes big p k hp hk w
  have cI := fun w => isScalar_any k s w
  rw [hm] at cI
  have hn := siz_cases hp hk
  generalize hnn : sizN p k = n at *
  have cM := fun w => make_by n hn w
  have HP := Lib.hid hp
  have HN := Lib.hid hn
  obtain ⟨ps, sn, sb, so⟩ := s
  have cY := fun i w => part_any ps sn sb so i w
  have hput : ∀ i, putY big n ⟨ps, sn, sb, so⟩ i = parY sb so i := fun i => by unfold putY; rw [if_pos hs]
  have HY := Lib.hid hput
  unfold scV at *
  unfold byV parY at cY
  dsimp only at *
  have hd : decide (0 < sb) = true := by simpa using hs
  have hn4 : n ≤ 4 := by omega
  clear hm hnn hp hn hput hk
  have dS := At.new2 w (.cells #[.bool big, .int .i64 p] 38) #[.bool ps, .int .i64 sn, .int .i64 sb, .int .i64 so] 33
  have dA := At.alloc (At.new w #[.bool big, .int .i64 p] 38) (.cells #[.bool ps, .int .i64 sn, .int .i64 sb, .int .i64 so] 33)
  have hb0 := below_box2 w (.cells #[.bool big, .int .i64 p] 38) (.cells #[.bool ps, .int .i64 sn, .int .i64 sb, .int .i64 so] 33)
  go_enter Try.func39, Try.ntmps39
  go_wp2_with fail
  refine (cS _).mono ?_
  rintro e w1 ⟨rfl, hb1⟩
  replace dA := At.below' hb1 dA
  replace dS := At.below' hb1 dS
  replace hb0 := hb0.trans (hb1.mono hb0.size)
  clear hb1
  have s0 : w1.cell? ⟨w.heap.size + 1, 0, none⟩ = some (.bool ps) := dS.cell 0 rfl
  have s1 : w1.cell? ⟨w.heap.size + 1, 1, none⟩ = some (.int .i64 sn) := dS.cell 1 rfl
  have s2 : w1.cell? ⟨w.heap.size + 1, 2, none⟩ = some (.int .i64 sb) := dS.cell 2 rfl
  have s3 : w1.cell? ⟨w.heap.size + 1, 3, none⟩ = some (.int .i64 so) := dS.cell 3 rfl
  go_wp2_with fail
  refine (cI _).mono ?_
  rintro e w2 ⟨rfl, hb1⟩
  replace dA := At.below' hb1 dA
  have dS0 := At.below' hb1 dS
  replace dS := At.below' hb1 dS
  replace hb0 := hb0.trans (hb1.mono hb0.size)
  have hS2 : w.heap.size + 1 < w2.heap.size := dS0.lt
  clear hb1 s0 s1 s2 s3 dS0
  have dB := At.new w2 (byC (List.replicate n default)) 67
  replace dA := At.alloc dA (.cells (byC (List.replicate n default)) 67)
  replace dS := At.alloc dS (.cells (byC (List.replicate n default)) 67)
  have hbB := hb0.alloc hb0.size (.cells (byC (List.replicate n default)) 67)
  have hB1 := hb0.size
  go_wp2_with fail
  generalize w2.alloc (.cells (byC (List.replicate n default)) 67) = w3 at *
  generalize w2.heap.size = B at *
  have HT := Lib.hid (show PutTill big n ⟨ps, sn, sb, so⟩ (List.replicate n default) 0 from ⟨by simp, fun i hi => by omega⟩)
  clear cS cI cM hb0
  go_loopw [29] (fun v wr => RelPut big n ⟨ps, sn, sb, so⟩ w B w.heap.size (w.heap.size + 1) #[.bool big, .int .i64 p] #[.bool ps, .int .i64 sn, .int .i64 sb, .int .i64 so] v wr) (fun v _ => n - (intOf v).toNat)
  case atStart => exact ⟨0, _, by omega, rfl, HT.out, dB, dA, dS, hbB⟩
  case round =>
    clear dB dA dS hbB HT
    obtain ⟨j, L, hj, rfl, hT, dB, dA, dS, hbr⟩ := hrel
    by_cases hlt : j < n
    · have s0 : wr.cell? ⟨w.heap.size + 1, 0, none⟩ = some (.bool ps) := dS.cell 0 rfl
      have s1 : wr.cell? ⟨w.heap.size + 1, 1, none⟩ = some (.int .i64 sn) := dS.cell 1 rfl
      have s2 : wr.cell? ⟨w.heap.size + 1, 2, none⟩ = some (.int .i64 sb) := dS.cell 2 rfl
      have s3 : wr.cell? ⟨w.heap.size + 1, 3, none⟩ = some (.int .i64 so) := dS.cell 3 rfl
      have hj3 : (j : Int) < (n : Int) := by omega
      have HTT := Lib.hid hT
      have hLs : j * 5 + 4 < (byC L).size := by rw [byC_size, hT.1]; omega
      have hLl : j < L.length := by rw [hT.1]; omega
      clear hT
      go_wp2_with fail
      refine (cY j _).mono ?_
      rintro e w4 ⟨rfl, hb4⟩
      replace dA := At.below' hb4 dA
      replace dS := At.below' hb4 dS
      replace dB := At.below' hb4 dB
      replace hbr := hbr.trans (hb4.mono hbr.size)
      have st := store5 dB (j * 5) hLs (.int .i64 2) (.int .i64 0) (.int .i64 sb) (.int .i64 so) (.int .i64 (j : Nat))
      have hbW := store5_below (Below.refl B w4) (Nat.le_refl _) (j * 5) (.int .i64 2) (.int .i64 0) (.int .i64 sb) (.int .i64 so) (.int .i64 (j : Nat))
      have E1 := Lib.hid (store5_by dB j hLl (parY sb so (j : Nat)))
      have E2 := Lib.hid (dA.below hbW (by omega))
      have E3 := Lib.hid (dS.below hbW (by omega))
      have E4 := Lib.hid (store5_below (B := B) hbr (by omega) (j * 5) (.int .i64 2) (.int .i64 0) (.int .i64 sb) (.int .i64 so) (.int .i64 (j : Nat)))
      clear s0 s1 s2 s3 hb4 dA dS dB hbr hbW hLl
      go_wp2
      go_roundw
      case rel => exact ⟨j + 1, _, by omega, by go_num, by have := HTT.out.next hlt; rw [HY.out] at this; exact this, E1.out, E2.out, E3.out, E4.out⟩
      case measure => simp [intOf]; omega
    · obtain rfl : j = n := by omega
      have HD := Lib.hid hT.done
      clear hT
      go_wp2
      go_ret2
      exact ⟨B, rfl, by omega, by rw [← HD.out]; exact dB, hbr⟩
end Go.Proofs.Ytnhbaigagphpmaa

/- Package bytes: the bytes of a number, and of null. -/
namespace Go.Proofs.Ytnhbaigagphpmaa
open Go.ChangeShapes Go.WideShapes Go.ChangeAt Go.RowKit Go.Joins Go.Deep
set_option linter.unusedVariables false

set_option maxRecDepth 100000 in
set_option maxHeartbeats 3200000 in
theorem Put_n (big : Bool) (p k : Int) (hp : mayA p) (hk : 1 ≤ k ∧ k ≤ 7) (s : SC) (hm : mayS k s = true) (hs : ¬ 0 < s.b) (w : World) :
    Calls Try.prog 39 #[.agg #[.bool big, .int .i64 p], .int .i64 k, scV s] w (PutPost (putL big (sizN p k) s) (sizN p k) w) := by
  have cS := fun w => Size_yes big p k hp hk w
  have cI := fun w => isScalar_any k s w
  rw [hm] at cI
  have hn := siz_cases hp hk
  generalize hnn : sizN p k = n at *
  have cM := fun w => make_by n hn w
  have HP := Lib.hid hp
  have HN := Lib.hid hn
  obtain ⟨ps, sn, sb, so⟩ := s
  have cW := fun j hj w => weight_any big p n j hn hj w
  have hput : ∀ i, putY big n ⟨ps, sn, sb, so⟩ i = digY (digI sn (wtN big n i)) := fun i => by unfold putY; rw [if_neg hs]
  have HY := Lib.hid hput
  have HU := Lib.hid (fun j hj => wtN_cases big n j hn hj)
  unfold scV at *
  dsimp only at *
  have hd : decide (0 < sb) = false := by simpa using hs
  have hn4 : n ≤ 4 := by omega
  clear hm hnn hp hn hput hk
  have dS := At.new2 w (.cells #[.bool big, .int .i64 p] 38) #[.bool ps, .int .i64 sn, .int .i64 sb, .int .i64 so] 33
  have dA := At.alloc (At.new w #[.bool big, .int .i64 p] 38) (.cells #[.bool ps, .int .i64 sn, .int .i64 sb, .int .i64 so] 33)
  have hb0 := below_box2 w (.cells #[.bool big, .int .i64 p] 38) (.cells #[.bool ps, .int .i64 sn, .int .i64 sb, .int .i64 so] 33)
  go_enter Try.func39, Try.ntmps39
  go_wp2_with fail
  refine (cS _).mono ?_
  rintro e w1 ⟨rfl, hb1⟩
  replace dA := At.below' hb1 dA
  replace dS := At.below' hb1 dS
  replace hb0 := hb0.trans (hb1.mono hb0.size)
  clear hb1
  have s0 : w1.cell? ⟨w.heap.size + 1, 0, none⟩ = some (.bool ps) := dS.cell 0 rfl
  have s1 : w1.cell? ⟨w.heap.size + 1, 1, none⟩ = some (.int .i64 sn) := dS.cell 1 rfl
  have s2 : w1.cell? ⟨w.heap.size + 1, 2, none⟩ = some (.int .i64 sb) := dS.cell 2 rfl
  have s3 : w1.cell? ⟨w.heap.size + 1, 3, none⟩ = some (.int .i64 so) := dS.cell 3 rfl
  go_wp2_with fail
  refine (cI _).mono ?_
  rintro e w2 ⟨rfl, hb1⟩
  replace dA := At.below' hb1 dA
  have dS0 := At.below' hb1 dS
  replace dS := At.below' hb1 dS
  replace hb0 := hb0.trans (hb1.mono hb0.size)
  have hS2 : w.heap.size + 1 < w2.heap.size := dS0.lt
  clear hb1 s0 s1 s2 s3 dS0
  have dB := At.new w2 (byC (List.replicate n default)) 67
  replace dA := At.alloc dA (.cells (byC (List.replicate n default)) 67)
  replace dS := At.alloc dS (.cells (byC (List.replicate n default)) 67)
  have hbB := hb0.alloc hb0.size (.cells (byC (List.replicate n default)) 67)
  have hB1 := hb0.size
  go_wp2_with fail
  generalize w2.alloc (.cells (byC (List.replicate n default)) 67) = w3 at *
  generalize w2.heap.size = B at *
  have HT := Lib.hid (show PutTill big n ⟨ps, sn, sb, so⟩ (List.replicate n default) 0 from ⟨by simp, fun i hi => by omega⟩)
  clear cS cI cM hb0
  go_loopw [29] (fun v wr => RelPut big n ⟨ps, sn, sb, so⟩ w B w.heap.size (w.heap.size + 1) #[.bool big, .int .i64 p] #[.bool ps, .int .i64 sn, .int .i64 sb, .int .i64 so] v wr) (fun v _ => n - (intOf v).toNat)
  case atStart => exact ⟨0, _, by omega, rfl, HT.out, dB, dA, dS, hbB⟩
  case round =>
    clear dB dA dS hbB HT
    obtain ⟨j, L, hj, rfl, hT, dB, dA, dS, hbr⟩ := hrel
    by_cases hlt : j < n
    · have s0 : wr.cell? ⟨w.heap.size + 1, 0, none⟩ = some (.bool ps) := dS.cell 0 rfl
      have s1 : wr.cell? ⟨w.heap.size + 1, 1, none⟩ = some (.int .i64 sn) := dS.cell 1 rfl
      have s2 : wr.cell? ⟨w.heap.size + 1, 2, none⟩ = some (.int .i64 sb) := dS.cell 2 rfl
      have s3 : wr.cell? ⟨w.heap.size + 1, 3, none⟩ = some (.int .i64 so) := dS.cell 3 rfl
      have hj3 : (j : Int) < (n : Int) := by omega
      have HTT := Lib.hid hT
      have hLs : j * 5 + 4 < (byC L).size := by rw [byC_size, hT.1]; omega
      have hLl : j < L.length := by rw [hT.1]; omega
      have cV := fun w => cW j hlt w
      have cD := fun w => digit_any sn (wtN big n j) (HU.out j hlt) w
      have hEq := HY.out j
      generalize wtN big n j = u at *
      generalize digI sn u = m at *
      have HE := Lib.hid hEq
      unfold byV digY at cD
      dsimp only at cD
      have a0 : wr.cell? ⟨w.heap.size, 0, none⟩ = some (.bool big) := dA.cell 0 rfl
      have a1 : wr.cell? ⟨w.heap.size, 1, none⟩ = some (.int .i64 p) := dA.cell 1 rfl
      have DA := Lib.hid dA
      have DB := Lib.hid dB
      have DS := Lib.hid dS
      have HBR := Lib.hid hbr
      have hrs := hbr.size
      clear hT cW hEq dA dB dS hbr
      go_wp2
      go_region_with
        ((first
          | (go_at_call 61
             (with_reducible refine (cV _).mono ?_)
             rintro e w5 ⟨rfl, hb5⟩
             have dA5 := Lib.hid (At.below' hb5 DA.out.drew)
             have dS5 := Lib.hid (At.below' hb5 DS.out.drew)
             have dB5 := Lib.hid (At.below' hb5 DB.out.drew)
             have hbr5 := Lib.hid (HBR.out.drew.trans (hb5.mono hrs))
             have t1 : w5.cell? ⟨w.heap.size + 1, 1, none⟩ = some (.int .i64 sn) := dS5.out.cell 1 rfl)
          | (go_at_call 64
             (with_reducible refine (cD _).mono ?_)
             rintro e w6 ⟨rfl, hb6⟩
             have dA6 := Lib.hid (At.below' hb6 dA5.out)
             have dS6 := Lib.hid (At.below' hb6 dS5.out)
             have dB6 := At.below' hb6 dB5.out
             have hbr6 := hbr5.out.trans (hb6.mono hbr5.out.size)
             have st := store5 dB6 (j * 5) hLs (.int .i64 1) (.int .i64 m) (.int .i64 0) (.int .i64 0) (.int .i64 0)
             have hbW := store5_below (Below.refl B w6) (Nat.le_refl _) (j * 5) (.int .i64 1) (.int .i64 m) (.int .i64 0) (.int .i64 0) (.int .i64 0)
             have E1 := Lib.hid (store5_by dB6 j hLl (digY m))
             have E2 := Lib.hid (dA6.out.below hbW (by omega))
             have E3 := Lib.hid (dS6.out.below hbW (by omega))
             have E4 := Lib.hid (store5_below (B := B) hbr6 (by omega) (j * 5) (.int .i64 1) (.int .i64 m) (.int .i64 0) (.int .i64 0) (.int .i64 0)))))
      all_goals
        go_wp2
        go_roundw
        case rel => exact ⟨j + 1, _, by omega, by go_num, by have := HTT.out.next hlt; rw [HE.out] at this; exact this, E1.out, E2.out, E3.out, E4.out⟩
        case measure => simp [intOf]; omega
    · obtain rfl : j = n := by omega
      have HD := Lib.hid hT.done
      clear hT
      go_wp2
      go_ret2
      exact ⟨B, rfl, by omega, by rw [← HD.out]; exact dB, hbr⟩
end Go.Proofs.Ytnhbaigagphpmaa
