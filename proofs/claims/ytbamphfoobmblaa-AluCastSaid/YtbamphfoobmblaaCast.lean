/- AluCast: its walk. -/
import Derived.Test.YtbamphfoobmblaaLaws
namespace Go.Proofs.Ytbamphfoobmblaa
open Go.ChangeShapes Go.WideShapes Go.ChangeAt Go.RowKit Go.Joins Go.Deep
set_option linter.unusedVariables false

def CastRes (k t a n er : Int) : Prop :=
  (((1 ≤ k ∧ k ≤ 6) ∧ (1 ≤ t ∧ t ≤ 6) ∧ isN a (widthI k)) ∧ er = 0 ∧ n = wrapI (seeI k a) (widthI t)) ∨
  (¬ ((1 ≤ k ∧ k ≤ 6) ∧ (1 ≤ t ∧ t ≤ 6) ∧ isN a (widthI k)) ∧ er = 1 ∧ n = 0)
def CastOut (k t a : Int) (w : World) (e : Ending) (w' : World) : Prop := ∃ n er, e = .returned (.tuple #[.int .i64 n, .int .i64 er]) ∧ Below w.heap.size w w' ∧ CastRes k t a n er
theorem cast_all (k t a : Int) (w : World) : Calls Try.prog 25 #[.int .i64 k, .int .i64 t, .int .i64 a] w (CastOut k t a w) := by
  by_cases hk : 1 ≤ k ∧ k ≤ 6
  · by_cases ha : isN a (widthI k)
    · by_cases ht : 1 ≤ t ∧ t ≤ 6
      · exact (Cast_yes k t a hk ha ht w).mono fun e w' ⟨he, hb⟩ => ⟨_, _, he, hb, Or.inl ⟨⟨hk, ht, ha⟩, rfl, rfl⟩⟩
      · exact (Cast_no_t k t a hk ha ht w).mono fun e w' ⟨he, hb⟩ => ⟨_, _, he, hb, Or.inr ⟨fun h => ht h.2.1, rfl, rfl⟩⟩
    · exact (Cast_no_a k t a hk ha w).mono fun e w' ⟨he, hb⟩ => ⟨_, _, he, hb, Or.inr ⟨fun h => ha h.2.2, rfl, rfl⟩⟩
  · exact (Cast_no_k k t a hk w).mono fun e w' ⟨he, hb⟩ => ⟨_, _, he, hb, Or.inr ⟨fun h => hk h.1, rfl, rfl⟩⟩

set_option maxHeartbeats 4000000 in
set_option maxRecDepth 100000 in
theorem AluCast_any (pn : Option Addr) (ln cn : Nat) (zs : List Int) (ps : Option Addr) (ls cs : Nat) (ss : List ByteArray) (pa : Option Addr) (la ca : Nat) (w : World) (hn : IsInts w pn ln zs) (hs : IsStrs w ps ls ss) (hcn : pn = none → cn = 0) (r1 : ln ≤ 17592186044416) (r2 : la ≤ 17592186044416) :
    Calls Try.prog 4 #[.agg #[.slice pn ln cn, .slice ps ls cs, .slice pa la ca]] w fun e w' => e = .returned (.bool true) ∧ Below w.heap.size w w' := by
  have hb1 := below_box w (.cells #[.slice pn ln cn, .slice ps ls cs, .slice pa la ca] 26)
  have hs1 := hs.below hb1
  go_enter Try.func4, Try.ntmps4
  go_wp2_with fail
  refine (heavy_out _ _ _ _ _ _ ss _ _ _ _ hs1 r1 r2).mono ?_
  rintro e w' ⟨b, rfl, hle, rfl⟩
  cases b
  · have hle' := hle rfl
    clear hle
    go_wp2_with fail
    go_loopw [3] (fun i wr => RelKind (w.alloc (.cells #[.slice pn ln cn, .slice ps ls cs, .slice pa la ca] 26)) i wr) (fun i _ => (12 - intOf i).toNat)
    case atStart => exact ⟨-1, by omega, by omega, rfl, (Below.refl _ _).alloc (by simp) _⟩
    case round =>
      obtain ⟨k, hk1, hk2, rfl, hb⟩ := hrel
      have hbw : Below w.heap.size w wr := hb1.trans (hb.mono (by simp))
      have hsz : w.heap.size + 1 ≤ wr.heap.size := by have := hb.size; simpa using this
      by_cases hk3 : k ≤ 11
      · have hc0 : wr.cell? ⟨w.heap.size, 0, none⟩ = some (.slice pn ln cn) := (hb.cell (p := ⟨w.heap.size, 0, none⟩) (by simp)).trans (by simp)
        have hc1 : wr.cell? ⟨w.heap.size, 1, none⟩ = some (.slice ps ls cs) := (hb.cell (p := ⟨w.heap.size, 1, none⟩) (by simp)).trans (by simp)
        have hc2 : wr.cell? ⟨w.heap.size, 2, none⟩ = some (.slice pa la ca) := (hb.cell (p := ⟨w.heap.size, 2, none⟩) (by simp)).trans (by simp)
        go_wp2_with (first | (go_at_call 24; refine (numbers_any pn ln cn zs ps ls cs pa la ca k _ (hn.below hbw) hcn (by omega)).mono ?_; rintro e wn ⟨pm, lm, cm, ms, rfl, hI, hbn⟩))
        have hlm := len_max hI
        have hszn := hbn.size
        clear hc0 hc1 hc2
        have hbn2 : Below (w.alloc (.cells #[.slice pn ln cn, .slice ps ls cs, .slice pa la ca] 26)).heap.size (w.alloc (.cells #[.slice pn ln cn, .slice ps ls cs, .slice pa la ca] 26)) wn := hb.trans (hbn.mono (by simp; omega))
        clear hbn hb
        go_loopw [5] (fun i wr => RelKind wn i wr) (fun i _ => (12 - intOf i).toNat)
        case atStart => exact ⟨-1, by omega, by omega, rfl, Below.refl _ _⟩
        case round =>
          obtain ⟨t, ht1, ht2, rfl, hbt⟩ := hrel
          have hszt := hbt.size
          by_cases ht3 : t ≤ 11
          · obtain ⟨wo, rfl⟩ : ∃ wo : World, wo = wr := ⟨_, rfl⟩
            have hI2 := hI.below hbt
            go_wp2_with fail
            go_loopw [6] (fun i wr => RelQ wo lm i wr) (fun i _ => lm - (intOf i).toNat)
            case atStart => exact ⟨0, by omega, rfl, Below.refl _ _⟩
            case round =>
              obtain ⟨i, hi, rfl, hbi⟩ := hrel
              have hszi := hbi.size
              by_cases hil : i < lm
              · have hil3 : decide ((i : Int) < lm) = true := by simp; omega
                obtain ⟨bm, offm, M, rfl, hbm, hcm, M0, M1⟩ := ints_at (hI2.below hbi) hil
                clear hI2
                have hbwk := hbw
                have ii0 : (0 : Int) ≤ i := by omega
                have ii1 : (i : Int) < lm := by omega
                clear hI hbwk hbw hs hs1 hb1 hn
                go_wp2_with (go_at_call 25; refine (cast_all _ _ _ _).mono ?_; rintro e wT ⟨n, er, rfl, hbT, hR⟩)
                have hcm3 := (hbT.cell (p := ⟨bm, offm + i, none⟩) hbm).trans hcm
                have hszT := hbT.size
                clear hcm
                have hbT2 : Below wo.heap.size wo wT := hbi.trans (hbT.mono (by omega))
                clear hbT
                rcases hR with ⟨⟨hK, hT, hC⟩, rfl, rfl⟩ | ⟨hbad, rfl, rfl⟩
                · have hpk := width_pos hK
                  have hpt := width_pos hT
                  have cC := fun w => rNumber_yes M _ (width_isW hK) hC w
                  have cR := fun w => rCast_any k t M hK hT hC w
                  generalize wrapI (seeI k M) (widthI t) = n at *
                  have q1 : (n != n) = false := by simp
                  go_quiet ((first | (go_at_call 26; (with_reducible exact Calls.quiet_of_same (calls_flip (rWidth_any _ _)))) | (go_at_call 27; (with_reducible exact Calls.quiet_of_same (calls_flip (cC _))))))
                  go_wp2_with (first | (go_at_call 28; refine (cR _).mono ?_; rintro e w' ⟨rfl, rfl⟩) | (go_at_call 29; refine (num_any _ _).mono ?_; rintro e w' ⟨rfl, rfl⟩))
                  go_roundw
                  case rel => exact ⟨i + 1, by omega, by go_num, hbT2.trans (Joins.below_draws _ _ _)⟩
                  case measure => simp [intOf]; omega
                · by_cases hK : 1 ≤ k ∧ k ≤ 6
                  · have hpk := width_pos hK
                    by_cases hT : 1 ≤ t ∧ t ≤ 6
                    · have hpt := width_pos hT
                      have hC : ¬ isN M (widthI k) := fun h => hbad ⟨hK, hT, h⟩
                      have cC := fun w => rNumber_no M _ (width_isW hK) hC w
                      go_quiet ((first | (go_at_call 26; (with_reducible exact Calls.quiet_of_same (calls_flip (rWidth_any _ _)))) | (go_at_call 27; (with_reducible exact Calls.quiet_of_same (calls_flip (cC _))))))
                      go_wp2_with (first | (go_at_call 29; refine (num_any _ _).mono ?_; rintro e w' ⟨rfl, rfl⟩))
                      go_roundw
                      case rel => exact ⟨i + 1, by omega, by go_num, hbT2.trans (Joins.below_draws _ _ _)⟩
                      case measure => simp [intOf]; omega
                    · have cT := fun w => rWidth_any t w
                      rw [width_no hT] at cT
                      have cK := fun w => rWidth_any k w
                      generalize widthI k = W at *
                      go_quiet ((first | (go_at_call 26; (with_reducible exact Calls.quiet_of_same (calls_flip (cK _)))) | (go_at_call 26; (with_reducible exact Calls.quiet_of_same (calls_flip (cT _)))) | (go_at_call 27; (with_reducible exact Calls.quiet_of_same (calls_flip (cT _))))))
                      go_wp2_with (first | (go_at_call 29; refine (num_any _ _).mono ?_; rintro e w' ⟨rfl, rfl⟩))
                      go_roundw
                      case rel => exact ⟨i + 1, by omega, by go_num, hbT2.trans (Joins.below_draws _ _ _)⟩
                      case measure => simp [intOf]; omega
                  · have cK := fun w => rWidth_any k w
                    rw [width_no hK] at cK
                    go_quiet ((first | (go_at_call 26; (with_reducible exact Calls.quiet_of_same (calls_flip (cK _)))) | (go_at_call 27; (with_reducible exact Calls.quiet_of_same (calls_flip (cK _))))))
                    go_wp2_with (first | (go_at_call 29; refine (num_any _ _).mono ?_; rintro e w' ⟨rfl, rfl⟩))
                    go_roundw
                    case rel => exact ⟨i + 1, by omega, by go_num, hbT2.trans (Joins.below_draws _ _ _)⟩
                    case measure => simp [intOf]; omega
              · have hil3 : decide ((i : Int) < lm) = false := by simp; omega
                go_wp2_with fail
                go_roundw
                case rel => exact ⟨t + 1, by omega, by omega, by go_num, hbt.trans (hbi.mono (by omega))⟩
                case measure => simp [intOf]; omega
          · have ht3d : decide (t ≤ 11) = false := by simp; omega
            go_wp2_with fail
            go_roundw
            case rel => exact ⟨k + 1, by omega, by omega, by go_num, hbn2.trans (hbt.mono (by simp; omega))⟩
            case measure => simp [intOf]; omega
      · have hk3d : decide (k ≤ 11) = false := by simp; omega
        go_wp2_with (go_at_call 30; refine (wakes_any _).mono ?_; rintro e w' ⟨rfl, hwk⟩)
        go_ret
        exact ⟨rfl, hbw.trans (hwk.mono (by omega))⟩
  · go_wp2_with fail
    go_ret
    exact ⟨rfl, (hb1.trans ((Below.refl _ _).alloc (by simp) _))⟩
end Go.Proofs.Ytbamphfoobmblaa
