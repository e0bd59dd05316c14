/- Operators of two sets that are none: the law's walk over all kinds. -/
import Derived.Test.YtblahbmhbfcggaaGreatDoorMOnesOdd
namespace Go.Proofs.YtblahbmhbfcggaaGreatDoor
open Go.ChangeShapes Go.WideShapes Go.ChangeAt Go.RowKit Go.Joins Go.Deep
set_option linter.unusedVariables false

set_option maxRecDepth 100000 in
set_option maxHeartbeats 4000000 in
theorem twos_odd (op : Int) (ho : ¬ (8 ≤ op ∧ op ≤ 19)) (pv : Option Addr) (lv cv : Nat) (vs : List VI) (pn : Option Addr) (ln cn : Nat) (zs : List Int) (w : World) (hv : IsVals w pv lv vs) (hn : IsInts w pn ln zs) :
    Calls Tryz.prog 6 #[.agg #[.slice pv lv cv, .slice pn ln cn], .int .i64 op] w fun e w' => e = .returned (.bool true) ∧ Below w.heap.size w w' := by
  have d0 := At.new w #[.slice pv lv cv, .slice pn ln cn] 25
  have hb0 : Below w.heap.size w (w.alloc (.cells #[.slice pv lv cv, .slice pn ln cn] 25)) := (Below.refl _ _).alloc (Nat.le_refl _) _
  have cW := wakes4_holds
  unfold Wakes4 at cW
  go_enter Tryz.func6, Tryz.ntmps6
  go_wp2_with fail
  refine (heavy_any pv lv cv pn ln cn _).mono ?_
  rintro e w1 ⟨hvy, rfl, hle, hb1⟩
  replace d0 := At.below' hb1 d0
  replace hb0 := hb0.trans (hb1.mono hb0.size)
  clear hb1
  obtain ⟨BP, hBP⟩ : ∃ B, B = w.heap.size := ⟨_, rfl⟩
  have HBP := Lib.hid hBP
  rw [← hBP] at d0
  cases hvy
  · obtain ⟨hlv, hln⟩ := hle rfl
    rw [← hBP]
    clear hle hBP
    go_wp2_with fail
    go_loopw [5] (fun v5 wr => ∃ k : Nat, k ≤ 8 ∧ v5 = .int .i64 (k : Nat) ∧ Below w1.heap.size w1 wr) (fun v5 _ => 8 - (intOf v5).toNat)
    case atStart => exact ⟨0, by omega, rfl, Below.refl _ _⟩
    case round =>
      obtain ⟨k, hk, rfl, hbr⟩ := hrel
      have d1 := At.below' hbr d0
      have c0 : wr.cell? ⟨BP, 0, none⟩ = some (.slice pv lv cv) := d1.cell 0 rfl
      have c1 : wr.cell? ⟨BP, 1, none⟩ = some (.slice pn ln cn) := d1.cell 1 rfl
      have hbx := hb0.trans (hbr.mono hb0.size)
      by_cases hk7 : k ≤ 7
      · have t0 : decide ((k : Int) ≤ 7) = true := by simp; omega
        go_wp2_with fail
        refine (sets_any pv lv cv vs pn ln cn zs k _ (hv.below hbx) (hn.below hbx) hlv).mono ?_
        rintro e w2 ⟨p, len, cap, vs2, rfl, hI, hlen, hb2⟩
        have hbK := hbr.trans (hb2.mono hbr.size)
        clear c0 c1 d1 hbr hb2 hbx
        go_wp2_with fail
        go_loopw [7] (fun v7 wi => ∃ i : Nat, i ≤ len ∧ v7 = .int .i64 (i : Nat) ∧ Below w2.heap.size w2 wi) (fun v7 _ => len - (intOf v7).toNat)
        case atStart => exact ⟨0, by omega, rfl, Below.refl _ _⟩
        case round =>
          obtain ⟨i, hi, rfl, hbi⟩ := hrel
          obtain ⟨wo, rfl⟩ : ∃ wo : World, wo = wr := ⟨_, rfl⟩
          by_cases hil : i < len
          · have hil3 : (i : Int) < (len : Int) := by omega
            have hIo := hI.below hbi
            go_wp2_with fail
            go_loopw [8] (fun v8 wj => ∃ j : Nat, j ≤ len ∧ v8 = .int .i64 (j : Nat) ∧ Below wo.heap.size wo wj) (fun v8 _ => len - (intOf v8).toNat)
            case atStart => exact ⟨0, by omega, rfl, Below.refl _ _⟩
            case round =>
              obtain ⟨j, hj, rfl, hbj⟩ := hrel
              by_cases hjl : j < len
              · have hjl3 : (j : Int) < (len : Int) := by omega
                have i0 : (0 : Int) ≤ (i : Int) := by omega
                have j0 : (0 : Int) ≤ (j : Int) := by omega
                obtain ⟨bb, off, u, rfl, hcu⟩ := (hIo.below hbj).at hil
                obtain ⟨bb', off', v, hpe, hcv⟩ := (hIo.below hbj).at hjl
                obtain ⟨rfl, rfl⟩ : bb' = bb ∧ off' = off := by simp at hpe; exact ⟨hpe.1.symm, hpe.2.symm⟩
                clear hpe
                go_upto_region 13 with (fail)
                go_cut [9, 10] from 48 to 55 (fun v9 v10 wx => ∃ BA BB, v9 = .pointer (some ⟨BA, 0, none⟩) ∧ v10 = .pointer (some ⟨BB, 0, none⟩) ∧ At wx BA #[.int .i64 u.k, .bool u.no, .int .i64 u.l, .int .i64 u.h, .int .i64 u.f, .int .i64 u.b] 30 ∧ At wx BB #[.int .i64 v.k, .bool v.no, .int .i64 v.l, .int .i64 v.h, .int .i64 v.f, .int .i64 v.b] 30 ∧ Below wr.heap.size wr wx)
                case first =>
                  clear hI hIo hbj hbK hb0 d0 hv hn cW
                  obtain ⟨a0, a1, a2, a3, a4, a5⟩ := hcu
                  obtain ⟨b0, b1, b2, b3, b4, b5⟩ := hcv
                  have hab := two_boxes wr #[.int .i64 u.k, .bool u.no, .int .i64 u.l, .int .i64 u.h, .int .i64 u.f, .int .i64 u.b] #[.int .i64 v.k, .bool v.no, .int .i64 v.l, .int .i64 v.h, .int .i64 v.f, .int .i64 v.b] 30
                  have hba := two_boxes wr #[.int .i64 v.k, .bool v.no, .int .i64 v.l, .int .i64 v.h, .int .i64 v.f, .int .i64 v.b] #[.int .i64 u.k, .bool u.no, .int .i64 u.l, .int .i64 u.h, .int .i64 u.f, .int .i64 u.b] 30
                  have HAB := Lib.hid hab
                  have HBA := Lib.hid hba
                  clear hab hba
                  have a0Z := cell_alloc a0 (.cells #[.int .i64 0, .bool false, .int .i64 0, .int .i64 0, .int .i64 0, .int .i64 0] 30)
                  have a0ZZ := cell_alloc a0Z (.cells #[.int .i64 0, .bool false, .int .i64 0, .int .i64 0, .int .i64 0, .int .i64 0] 30)
                  have a0O := cell_alloc a0 (.cells #[.int .i64 v.k, .bool v.no, .int .i64 v.l, .int .i64 v.h, .int .i64 v.f, .int .i64 v.b] 30)
                  have a0OZ := cell_alloc a0O (.cells #[.int .i64 0, .bool false, .int .i64 0, .int .i64 0, .int .i64 0, .int .i64 0] 30)
                  have a0ZO := cell_alloc a0Z (.cells #[.int .i64 v.k, .bool v.no, .int .i64 v.l, .int .i64 v.h, .int .i64 v.f, .int .i64 v.b] 30)
                  have a1Z := cell_alloc a1 (.cells #[.int .i64 0, .bool false, .int .i64 0, .int .i64 0, .int .i64 0, .int .i64 0] 30)
                  have a1ZZ := cell_alloc a1Z (.cells #[.int .i64 0, .bool false, .int .i64 0, .int .i64 0, .int .i64 0, .int .i64 0] 30)
                  have a1O := cell_alloc a1 (.cells #[.int .i64 v.k, .bool v.no, .int .i64 v.l, .int .i64 v.h, .int .i64 v.f, .int .i64 v.b] 30)
                  have a1OZ := cell_alloc a1O (.cells #[.int .i64 0, .bool false, .int .i64 0, .int .i64 0, .int .i64 0, .int .i64 0] 30)
                  have a1ZO := cell_alloc a1Z (.cells #[.int .i64 v.k, .bool v.no, .int .i64 v.l, .int .i64 v.h, .int .i64 v.f, .int .i64 v.b] 30)
                  have a2Z := cell_alloc a2 (.cells #[.int .i64 0, .bool false, .int .i64 0, .int .i64 0, .int .i64 0, .int .i64 0] 30)
                  have a2ZZ := cell_alloc a2Z (.cells #[.int .i64 0, .bool false, .int .i64 0, .int .i64 0, .int .i64 0, .int .i64 0] 30)
                  have a2O := cell_alloc a2 (.cells #[.int .i64 v.k, .bool v.no, .int .i64 v.l, .int .i64 v.h, .int .i64 v.f, .int .i64 v.b] 30)
                  have a2OZ := cell_alloc a2O (.cells #[.int .i64 0, .bool false, .int .i64 0, .int .i64 0, .int .i64 0, .int .i64 0] 30)
                  have a2ZO := cell_alloc a2Z (.cells #[.int .i64 v.k, .bool v.no, .int .i64 v.l, .int .i64 v.h, .int .i64 v.f, .int .i64 v.b] 30)
                  have a3Z := cell_alloc a3 (.cells #[.int .i64 0, .bool false, .int .i64 0, .int .i64 0, .int .i64 0, .int .i64 0] 30)
                  have a3ZZ := cell_alloc a3Z (.cells #[.int .i64 0, .bool false, .int .i64 0, .int .i64 0, .int .i64 0, .int .i64 0] 30)
                  have a3O := cell_alloc a3 (.cells #[.int .i64 v.k, .bool v.no, .int .i64 v.l, .int .i64 v.h, .int .i64 v.f, .int .i64 v.b] 30)
                  have a3OZ := cell_alloc a3O (.cells #[.int .i64 0, .bool false, .int .i64 0, .int .i64 0, .int .i64 0, .int .i64 0] 30)
                  have a3ZO := cell_alloc a3Z (.cells #[.int .i64 v.k, .bool v.no, .int .i64 v.l, .int .i64 v.h, .int .i64 v.f, .int .i64 v.b] 30)
                  have a4Z := cell_alloc a4 (.cells #[.int .i64 0, .bool false, .int .i64 0, .int .i64 0, .int .i64 0, .int .i64 0] 30)
                  have a4ZZ := cell_alloc a4Z (.cells #[.int .i64 0, .bool false, .int .i64 0, .int .i64 0, .int .i64 0, .int .i64 0] 30)
                  have a4O := cell_alloc a4 (.cells #[.int .i64 v.k, .bool v.no, .int .i64 v.l, .int .i64 v.h, .int .i64 v.f, .int .i64 v.b] 30)
                  have a4OZ := cell_alloc a4O (.cells #[.int .i64 0, .bool false, .int .i64 0, .int .i64 0, .int .i64 0, .int .i64 0] 30)
                  have a4ZO := cell_alloc a4Z (.cells #[.int .i64 v.k, .bool v.no, .int .i64 v.l, .int .i64 v.h, .int .i64 v.f, .int .i64 v.b] 30)
                  have a5Z := cell_alloc a5 (.cells #[.int .i64 0, .bool false, .int .i64 0, .int .i64 0, .int .i64 0, .int .i64 0] 30)
                  have a5ZZ := cell_alloc a5Z (.cells #[.int .i64 0, .bool false, .int .i64 0, .int .i64 0, .int .i64 0, .int .i64 0] 30)
                  have a5O := cell_alloc a5 (.cells #[.int .i64 v.k, .bool v.no, .int .i64 v.l, .int .i64 v.h, .int .i64 v.f, .int .i64 v.b] 30)
                  have a5OZ := cell_alloc a5O (.cells #[.int .i64 0, .bool false, .int .i64 0, .int .i64 0, .int .i64 0, .int .i64 0] 30)
                  have a5ZO := cell_alloc a5Z (.cells #[.int .i64 v.k, .bool v.no, .int .i64 v.l, .int .i64 v.h, .int .i64 v.f, .int .i64 v.b] 30)
                  have b0Z := cell_alloc b0 (.cells #[.int .i64 0, .bool false, .int .i64 0, .int .i64 0, .int .i64 0, .int .i64 0] 30)
                  have b0ZZ := cell_alloc b0Z (.cells #[.int .i64 0, .bool false, .int .i64 0, .int .i64 0, .int .i64 0, .int .i64 0] 30)
                  have b0O := cell_alloc b0 (.cells #[.int .i64 u.k, .bool u.no, .int .i64 u.l, .int .i64 u.h, .int .i64 u.f, .int .i64 u.b] 30)
                  have b0OZ := cell_alloc b0O (.cells #[.int .i64 0, .bool false, .int .i64 0, .int .i64 0, .int .i64 0, .int .i64 0] 30)
                  have b0ZO := cell_alloc b0Z (.cells #[.int .i64 u.k, .bool u.no, .int .i64 u.l, .int .i64 u.h, .int .i64 u.f, .int .i64 u.b] 30)
                  have b1Z := cell_alloc b1 (.cells #[.int .i64 0, .bool false, .int .i64 0, .int .i64 0, .int .i64 0, .int .i64 0] 30)
                  have b1ZZ := cell_alloc b1Z (.cells #[.int .i64 0, .bool false, .int .i64 0, .int .i64 0, .int .i64 0, .int .i64 0] 30)
                  have b1O := cell_alloc b1 (.cells #[.int .i64 u.k, .bool u.no, .int .i64 u.l, .int .i64 u.h, .int .i64 u.f, .int .i64 u.b] 30)
                  have b1OZ := cell_alloc b1O (.cells #[.int .i64 0, .bool false, .int .i64 0, .int .i64 0, .int .i64 0, .int .i64 0] 30)
                  have b1ZO := cell_alloc b1Z (.cells #[.int .i64 u.k, .bool u.no, .int .i64 u.l, .int .i64 u.h, .int .i64 u.f, .int .i64 u.b] 30)
                  have b2Z := cell_alloc b2 (.cells #[.int .i64 0, .bool false, .int .i64 0, .int .i64 0, .int .i64 0, .int .i64 0] 30)
                  have b2ZZ := cell_alloc b2Z (.cells #[.int .i64 0, .bool false, .int .i64 0, .int .i64 0, .int .i64 0, .int .i64 0] 30)
                  have b2O := cell_alloc b2 (.cells #[.int .i64 u.k, .bool u.no, .int .i64 u.l, .int .i64 u.h, .int .i64 u.f, .int .i64 u.b] 30)
                  have b2OZ := cell_alloc b2O (.cells #[.int .i64 0, .bool false, .int .i64 0, .int .i64 0, .int .i64 0, .int .i64 0] 30)
                  have b2ZO := cell_alloc b2Z (.cells #[.int .i64 u.k, .bool u.no, .int .i64 u.l, .int .i64 u.h, .int .i64 u.f, .int .i64 u.b] 30)
                  have b3Z := cell_alloc b3 (.cells #[.int .i64 0, .bool false, .int .i64 0, .int .i64 0, .int .i64 0, .int .i64 0] 30)
                  have b3ZZ := cell_alloc b3Z (.cells #[.int .i64 0, .bool false, .int .i64 0, .int .i64 0, .int .i64 0, .int .i64 0] 30)
                  have b3O := cell_alloc b3 (.cells #[.int .i64 u.k, .bool u.no, .int .i64 u.l, .int .i64 u.h, .int .i64 u.f, .int .i64 u.b] 30)
                  have b3OZ := cell_alloc b3O (.cells #[.int .i64 0, .bool false, .int .i64 0, .int .i64 0, .int .i64 0, .int .i64 0] 30)
                  have b3ZO := cell_alloc b3Z (.cells #[.int .i64 u.k, .bool u.no, .int .i64 u.l, .int .i64 u.h, .int .i64 u.f, .int .i64 u.b] 30)
                  have b4Z := cell_alloc b4 (.cells #[.int .i64 0, .bool false, .int .i64 0, .int .i64 0, .int .i64 0, .int .i64 0] 30)
                  have b4ZZ := cell_alloc b4Z (.cells #[.int .i64 0, .bool false, .int .i64 0, .int .i64 0, .int .i64 0, .int .i64 0] 30)
                  have b4O := cell_alloc b4 (.cells #[.int .i64 u.k, .bool u.no, .int .i64 u.l, .int .i64 u.h, .int .i64 u.f, .int .i64 u.b] 30)
                  have b4OZ := cell_alloc b4O (.cells #[.int .i64 0, .bool false, .int .i64 0, .int .i64 0, .int .i64 0, .int .i64 0] 30)
                  have b4ZO := cell_alloc b4Z (.cells #[.int .i64 u.k, .bool u.no, .int .i64 u.l, .int .i64 u.h, .int .i64 u.f, .int .i64 u.b] 30)
                  have b5Z := cell_alloc b5 (.cells #[.int .i64 0, .bool false, .int .i64 0, .int .i64 0, .int .i64 0, .int .i64 0] 30)
                  have b5ZZ := cell_alloc b5Z (.cells #[.int .i64 0, .bool false, .int .i64 0, .int .i64 0, .int .i64 0, .int .i64 0] 30)
                  have b5O := cell_alloc b5 (.cells #[.int .i64 u.k, .bool u.no, .int .i64 u.l, .int .i64 u.h, .int .i64 u.f, .int .i64 u.b] 30)
                  have b5OZ := cell_alloc b5O (.cells #[.int .i64 0, .bool false, .int .i64 0, .int .i64 0, .int .i64 0, .int .i64 0] 30)
                  have b5ZO := cell_alloc b5Z (.cells #[.int .i64 u.k, .bool u.no, .int .i64 u.l, .int .i64 u.h, .int .i64 u.f, .int .i64 u.b] 30)
                  go_region
                  all_goals clear a0 a0Z a0ZZ a0O a0OZ a0ZO a1 a1Z a1ZZ a1O a1OZ a1ZO a2 a2Z a2ZZ a2O a2OZ a2ZO a3 a3Z a3ZZ a3O a3OZ a3ZO a4 a4Z a4ZZ a4O a4OZ a4ZO a5 a5Z a5ZZ a5O a5OZ a5ZO b0 b0Z b0ZZ b0O b0OZ b0ZO b1 b1Z b1ZZ b1O b1OZ b1ZO b2 b2Z b2ZZ b2O b2OZ b2ZO b3 b3Z b3ZZ b3O b3OZ b3ZO b4 b4Z b4ZZ b4O b4OZ b4ZO b5 b5Z b5ZZ b5O b5OZ b5ZO
                  all_goals
                    go_wp2_with fail
                    go_meet
                    first
                      | exact ⟨_, _, rfl, rfl, HAB.out.1.drew, HAB.out.2.1.drew, (HAB.out.2.2).drew⟩
                      | exact ⟨_, _, rfl, rfl, HBA.out.2.1.drew, HBA.out.1.drew, (HBA.out.2.2).drew⟩
                case rest =>
                obtain ⟨BA, BB, rfl, rfl, dA, dB, hbx⟩ := hcut
                generalize wc = w3 at *
                have hbm := hbj.trans (hbx.mono hbj.size)
                have cO := fun w => MTwo_no op k (fun w => Al.Two_no_o op k 0 0 ho w) u.k u.no u.l u.h u.f u.b v.k v.no v.l v.h v.f v.b w
                have cM := fun w => Al.rMayTwo_no_o op k ho w
                have p0 : w3.cell? ⟨BA, 0, none⟩ = some (.int .i64 u.k) := dA.cell 0 rfl
                have p1 : w3.cell? ⟨BA, 1, none⟩ = some (.bool u.no) := dA.cell 1 rfl
                have p2 : w3.cell? ⟨BA, 2, none⟩ = some (.int .i64 u.l) := dA.cell 2 rfl
                have p3 : w3.cell? ⟨BA, 3, none⟩ = some (.int .i64 u.h) := dA.cell 3 rfl
                have p4 : w3.cell? ⟨BA, 4, none⟩ = some (.int .i64 u.f) := dA.cell 4 rfl
                have p5 : w3.cell? ⟨BA, 5, none⟩ = some (.int .i64 u.b) := dA.cell 5 rfl
                have q0 : w3.cell? ⟨BB, 0, none⟩ = some (.int .i64 v.k) := dB.cell 0 rfl
                have q1 : w3.cell? ⟨BB, 1, none⟩ = some (.bool v.no) := dB.cell 1 rfl
                have q2 : w3.cell? ⟨BB, 2, none⟩ = some (.int .i64 v.l) := dB.cell 2 rfl
                have q3 : w3.cell? ⟨BB, 3, none⟩ = some (.int .i64 v.h) := dB.cell 3 rfl
                have q4 : w3.cell? ⟨BB, 4, none⟩ = some (.int .i64 v.f) := dB.cell 4 rfl
                have q5 : w3.cell? ⟨BB, 5, none⟩ = some (.int .i64 v.b) := dB.cell 5 rfl
                clear hI hIo hbj hbx hcu hcv
                go_wp2_with fail
                refine (cO _).mono ?_
                rintro e w4 ⟨rfl, hb4⟩
                replace hbm := hbm.trans (hb4.mono hbm.size)
                have hbl := hbm.alloc hbm.size (.cells #[.int .i64 0, .bool false, .int .i64 0, .int .i64 0, .int .i64 0, .int .i64 0] 30)
                clear hb4 dA dB p0 p1 p2 p3 p4 p5 q0 q1 q2 q3 q4 q5 cO hbm
                go_upto_region 16 with (fail)
                generalize w4.alloc (.cells #[.int .i64 0, .bool false, .int .i64 0, .int .i64 0, .int .i64 0, .int .i64 0] 30) = w5 at *
                go_quiet ((go_at_call 11; exact Calls.quiet_of_same (Al.calls_flip (cM _))))
                have hbn := hbl.trans ((Joins.below_draws w5.heap.size w5 nq).mono hbl.size)
                generalize w5.drewN nq = w6 at *
                clear hbl cM
                go_wp2_with (go_at_call 14; refine (num4_any _ _).mono ?_; rintro e w' ⟨rfl, rfl⟩)
                go_roundw
                case rel => exact ⟨j + 1, by omega, by go_num, hbn⟩
                case measure => simp [intOf]; omega
              · have hjl3 : decide ((j : Int) < (len : Int)) = false := by simp; omega
                have hbk := hbi.trans (hbj.mono hbi.size)
                clear hI hIo hbi hbK hbj
                go_wp2_with fail
                go_roundw
                case rel => exact ⟨i + 1, by omega, by go_num, hbk⟩
                case measure => simp [intOf]; omega
          · have hil3 : decide ((i : Int) < (len : Int)) = false := by simp; omega
            have hbk := hbK.trans (hbi.mono hbK.size)
            clear hI hbi hbK
            go_wp2_with fail
            go_roundw
            case rel => exact ⟨k + 1, by omega, by go_num, hbk⟩
            case measure => simp [intOf]; omega
      · have t0 : decide ((k : Int) ≤ 7) = false := by simp; omega
        clear c0 c1 d1
        go_wp2_with fail
        refine (cW _).mono ?_
        rintro e w2 ⟨rfl, hb2⟩
        have hbF := hbx.trans (hb2.mono hbx.size)
        clear hb2 hbx hbr cW
        go_wp2_with fail
        go_ret
        rw [HBP.out] at *
        exact ⟨rfl, hbF⟩
  · clear cW hBP
    go_wp2_with fail
    go_ret
    exact ⟨rfl, hb0⟩
end Go.Proofs.YtblahbmhbfcggaaGreatDoor

/- MathsOdd's walk: six operators that are none. -/
namespace Go.Proofs.YtblahbmhbfcggaaGreatDoor
open Go.ChangeShapes Go.WideShapes Go.ChangeAt Go.RowKit Go.Joins Go.Deep
set_option linter.unusedVariables false

set_option maxRecDepth 100000 in
set_option maxHeartbeats 1600000 in
theorem odd_holds (pv : Option Addr) (lv cv : Nat) (vs : List VI) (pn : Option Addr) (ln cn : Nat) (zs : List Int) (w : World) (hv : IsVals w pv lv vs) (hn : IsInts w pn ln zs) :
    Calls Tryz.prog 3 #[.agg #[.slice pv lv cv, .slice pn ln cn]] w fun e w' => e = .returned (.bool true) ∧ Below w.heap.size w w' := by
  have d0 := At.new w #[.slice pv lv cv, .slice pn ln cn] 25
  have hb0 : Below w.heap.size w (w.alloc (.cells #[.slice pv lv cv, .slice pn ln cn] 25)) := (Below.refl _ _).alloc (Nat.le_refl _) _
  go_enter Tryz.func3, Tryz.ntmps3
  go_upto_region 1 with (fail)
  generalize w.alloc (.cells #[.slice pv lv cv, .slice pn ln cn] 25) = w0 at *
  have c0 : w0.cell? ⟨w.heap.size, 0, none⟩ = some (.slice pv lv cv) := d0.cell 0 rfl
  have c1 : w0.cell? ⟨w.heap.size, 1, none⟩ = some (.slice pn ln cn) := d0.cell 1 rfl
  go_wp2_with fail
  refine (twos_odd 0 (by omega) pv lv cv vs pn ln cn zs _ (hv.below hb0) (hn.below hb0)).mono ?_
  rintro e w1 ⟨rfl, hb⟩
  replace d0 := At.below' hb d0
  replace hb0 := hb0.trans (hb.mono hb0.size)
  clear c0 c1 hb
  have c0 : w1.cell? ⟨w.heap.size, 0, none⟩ = some (.slice pv lv cv) := d0.cell 0 rfl
  have c1 : w1.cell? ⟨w.heap.size, 1, none⟩ = some (.slice pn ln cn) := d0.cell 1 rfl
  go_wp2_with fail
  refine (twos_odd 7 (by omega) pv lv cv vs pn ln cn zs _ (hv.below hb0) (hn.below hb0)).mono ?_
  rintro e w2 ⟨rfl, hb⟩
  replace d0 := At.below' hb d0
  replace hb0 := hb0.trans (hb.mono hb0.size)
  clear c0 c1 hb
  have c0 : w2.cell? ⟨w.heap.size, 0, none⟩ = some (.slice pv lv cv) := d0.cell 0 rfl
  have c1 : w2.cell? ⟨w.heap.size, 1, none⟩ = some (.slice pn ln cn) := d0.cell 1 rfl
  go_wp2_with fail
  refine (twos_odd 20 (by omega) pv lv cv vs pn ln cn zs _ (hv.below hb0) (hn.below hb0)).mono ?_
  rintro e w3 ⟨rfl, hb⟩
  replace d0 := At.below' hb d0
  replace hb0 := hb0.trans (hb.mono hb0.size)
  clear c0 c1 hb
  have c0 : w3.cell? ⟨w.heap.size, 0, none⟩ = some (.slice pv lv cv) := d0.cell 0 rfl
  have c1 : w3.cell? ⟨w.heap.size, 1, none⟩ = some (.slice pn ln cn) := d0.cell 1 rfl
  go_wp2_with fail
  refine (ones_odd 4 (by omega) pv lv cv vs pn ln cn zs _ (hv.below hb0) (hn.below hb0)).mono ?_
  rintro e w4 ⟨rfl, hb⟩
  replace d0 := At.below' hb d0
  replace hb0 := hb0.trans (hb.mono hb0.size)
  clear c0 c1 hb
  have c0 : w4.cell? ⟨w.heap.size, 0, none⟩ = some (.slice pv lv cv) := d0.cell 0 rfl
  have c1 : w4.cell? ⟨w.heap.size, 1, none⟩ = some (.slice pn ln cn) := d0.cell 1 rfl
  go_wp2_with fail
  refine (ones_odd 8 (by omega) pv lv cv vs pn ln cn zs _ (hv.below hb0) (hn.below hb0)).mono ?_
  rintro e w5 ⟨rfl, hb⟩
  replace d0 := At.below' hb d0
  replace hb0 := hb0.trans (hb.mono hb0.size)
  clear c0 c1 hb
  have c0 : w5.cell? ⟨w.heap.size, 0, none⟩ = some (.slice pv lv cv) := d0.cell 0 rfl
  have c1 : w5.cell? ⟨w.heap.size, 1, none⟩ = some (.slice pn ln cn) := d0.cell 1 rfl
  go_wp2_with fail
  refine (ones_odd (-1) (by omega) pv lv cv vs pn ln cn zs _ (hv.below hb0) (hn.below hb0)).mono ?_
  rintro e w6 ⟨rfl, hb⟩
  replace d0 := At.below' hb d0
  replace hb0 := hb0.trans (hb.mono hb0.size)
  clear c0 c1 hb
  clear d0
  go_wp2_with fail
  go_ret
  exact ⟨rfl, hb0⟩
end Go.Proofs.YtblahbmhbfcggaaGreatDoor
