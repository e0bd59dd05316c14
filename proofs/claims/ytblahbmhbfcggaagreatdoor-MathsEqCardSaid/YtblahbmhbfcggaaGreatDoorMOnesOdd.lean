/- Operators of one set that are none: the law's walk over all kinds. -/
import Derived.Test.YtblahbmhbfcggaaGreatDoorSets2
import Derived.Test.YtblahbmhbfcggaaGreatDoorMRefused
import Derived.Test.YtblahbmhbfcggaaGreatDoorMWakes
namespace Go.Proofs.YtblahbmhbfcggaaGreatDoor
open Go.ChangeShapes Go.WideShapes Go.ChangeAt Go.RowKit Go.Joins Go.Deep
set_option linter.unusedVariables false

theorem IsVals.below {w w' : World} {p : Option Addr} {len : Nat} {vs : List VI} (h : IsVals w p len vs) (hb : Below w.heap.size w w') : IsVals w' p len vs := by
  refine ⟨h.1, fun hl => ?_⟩
  obtain ⟨b, off, rfl, hbb, hc⟩ := h.2 hl
  exact ⟨b, off, rfl, by have := hb.size; omega, fun i hi => (hc i hi).below hb⟩
/-- one set of a row that came in -/
theorem IsVals.at {w : World} {p : Option Addr} {len : Nat} {vs : List VI} (h : IsVals w p len vs) {i : Nat} (hi : i < len) : ∃ b off v, p = some ⟨b, off, none⟩ ∧ ValCells w b (off + i * 6) v := by
  obtain ⟨b, off, hp, _, hc⟩ := h.2 (by omega)
  exact ⟨b, off, vs[i]'(by have := h.1; omega), hp, hc i (by have := h.1; omega)⟩
set_option maxRecDepth 100000 in
set_option maxHeartbeats 4000000 in
theorem ones_odd (op : Int) (ho : ¬ (5 ≤ op ∧ op ≤ 7)) (pv : Option Addr) (lv cv : Nat) (vs : List VI) (pn : Option Addr) (ln cn : Nat) (zs : List Int) (w : World) (hv : IsVals w pv lv vs) (hn : IsInts w pn ln zs) :
    Calls Tryz.prog 7 #[.agg #[.slice pv lv cv, .slice pn ln cn], .int .i64 op] w fun e w' => e = .returned (.bool true) ∧ Below w.heap.size w w' := by
  have d0 := At.new w #[.slice pv lv cv, .slice pn ln cn] 25
  have hb0 : Below w.heap.size w (w.alloc (.cells #[.slice pv lv cv, .slice pn ln cn] 25)) := (Below.refl _ _).alloc (Nat.le_refl _) _
  have cW := wakes4_holds
  unfold Wakes4 at cW
  go_enter Tryz.func7, Tryz.ntmps7
  go_wp2_with fail
  refine (heavy_any pv lv cv pn ln cn _).mono ?_
  rintro e w1 ⟨hvy, rfl, hle, hb1⟩
  replace d0 := At.below' hb1 d0
  replace hb0 := hb0.trans (hb1.mono hb0.size)
  clear hb1
  obtain ⟨BP, hBP⟩ : ∃ B, B = w.heap.size := ⟨_, rfl⟩
  have HBP := Lib.hid hBP
  rw [← hBP] at d0
  cases hvy
  · obtain ⟨hlv, hln⟩ := hle rfl
    rw [← hBP]
    clear hle hBP
    go_wp2_with fail
    go_loopw [5] (fun v5 wr => ∃ k : Nat, k ≤ 8 ∧ v5 = .int .i64 (k : Nat) ∧ Below w1.heap.size w1 wr) (fun v5 _ => 8 - (intOf v5).toNat)
    case atStart => exact ⟨0, by omega, rfl, Below.refl _ _⟩
    case round =>
      obtain ⟨k, hk, rfl, hbr⟩ := hrel
      have d1 := At.below' hbr d0
      have c0 : wr.cell? ⟨BP, 0, none⟩ = some (.slice pv lv cv) := d1.cell 0 rfl
      have c1 : wr.cell? ⟨BP, 1, none⟩ = some (.slice pn ln cn) := d1.cell 1 rfl
      have hbx := hb0.trans (hbr.mono hb0.size)
      by_cases hk7 : k ≤ 7
      · have t0 : decide ((k : Int) ≤ 7) = true := by simp; omega
        go_wp2_with fail
        refine (sets_any pv lv cv vs pn ln cn zs k _ (hv.below hbx) (hn.below hbx) hlv).mono ?_
        rintro e w2 ⟨p, len, cap, vs2, rfl, hI, hlen, hb2⟩
        have hbK := hbr.trans (hb2.mono hbr.size)
        clear c0 c1 d1 hbr hb2 hbx
        go_wp2_with fail
        go_loopw [7] (fun v7 wi => ∃ i : Nat, i ≤ len ∧ v7 = .int .i64 (i : Nat) ∧ Below w2.heap.size w2 wi) (fun v7 _ => len - (intOf v7).toNat)
        case atStart => exact ⟨0, by omega, rfl, Below.refl _ _⟩
        case round =>
          obtain ⟨i, hi, rfl, hbi⟩ := hrel
          by_cases hil : i < len
          · have hil3 : (i : Int) < (len : Int) := by omega
            obtain ⟨bb, off, v, rfl, p0, p1, p2, p3, p4, p5⟩ := (hI.below hbi).at hil
            have dA := At.new wr #[.int .i64 v.k, .bool v.no, .int .i64 v.l, .int .i64 v.h, .int .i64 v.f, .int .i64 v.b] 30
            have hbj := hbi.alloc hbi.size (.cells #[.int .i64 v.k, .bool v.no, .int .i64 v.l, .int .i64 v.h, .int .i64 v.f, .int .i64 v.b] 30)
            have cO := fun w => MOne_no op k (fun w => Al.One_no_o op k 0 ho w) v.k v.no v.l v.h v.f v.b w
            have cM := fun w => Al.rMayOne_no_o op k ho w
            clear hI
            go_wp2_with fail
            refine (cO _).mono ?_
            rintro e w3 ⟨rfl, hb3⟩
            replace hbj := hbj.trans (hb3.mono hbj.size)
            have hbl := hbj.alloc hbj.size (.cells #[.int .i64 0, .bool false, .int .i64 0, .int .i64 0, .int .i64 0, .int .i64 0] 30)
            clear hb3 hbi dA p0 p1 p2 p3 p4 p5 cO hbj
            go_upto_region 13 with (fail)
            generalize w3.alloc (.cells #[.int .i64 0, .bool false, .int .i64 0, .int .i64 0, .int .i64 0, .int .i64 0] 30) = w4 at *
            go_quiet ((go_at_call 24; exact Calls.quiet_of_same (Al.calls_flip (cM _))))
            have hbm := hbl.trans ((Joins.below_draws w4.heap.size w4 nq).mono hbl.size)
            generalize w4.drewN nq = w5 at *
            clear hbl cM
            go_wp2_with (go_at_call 14; refine (num4_any _ _).mono ?_; rintro e w' ⟨rfl, rfl⟩)
            go_roundw
            case rel => exact ⟨i + 1, by omega, by go_num, hbm⟩
            case measure => simp [intOf]; omega
          · have hil3 : decide ((i : Int) < (len : Int)) = false := by simp; omega
            have hbk := hbK.trans (hbi.mono hbK.size)
            clear hI hbi hbK
            go_wp2_with fail
            go_roundw
            case rel => exact ⟨k + 1, by omega, by go_num, hbk⟩
            case measure => simp [intOf]; omega
      · have t0 : decide ((k : Int) ≤ 7) = false := by simp; omega
        clear c0 c1 d1
        go_wp2_with fail
        refine (cW _).mono ?_
        rintro e w2 ⟨rfl, hb2⟩
        have hbF := hbx.trans (hb2.mono hbx.size)
        clear hb2 hbx hbr cW
        go_wp2_with fail
        go_ret
        rw [HBP.out] at *
        exact ⟨rfl, hbF⟩
  · clear cW hBP
    go_wp2_with fail
    go_ret
    exact ⟨rfl, hb0⟩
end Go.Proofs.YtblahbmhbfcggaaGreatDoor
