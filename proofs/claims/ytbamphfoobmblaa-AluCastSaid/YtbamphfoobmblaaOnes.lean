/- ones: operators of one number over all kinds. -/
import Derived.Test.YtbamphfoobmblaaTwos
namespace Go.Proofs.Ytbamphfoobmblaa
open Go.ChangeShapes Go.WideShapes Go.ChangeAt Go.RowKit Go.Joins Go.Deep
set_option linter.unusedVariables false

def OneRes (o k c n bd er : Int) : Prop :=
  (((5 ≤ o ∧ o ≤ 7) ∧ (1 ≤ k ∧ k ≤ 6) ∧ isN c (widthI k)) ∧ er = 0 ∧ n = (oneI o k c).1 ∧ bd = (oneI o k c).2) ∨
  (¬ ((5 ≤ o ∧ o ≤ 7) ∧ (1 ≤ k ∧ k ≤ 6) ∧ isN c (widthI k)) ∧ er = 1 ∧ n = 0 ∧ bd = 0)
def OneOut (o k c : Int) (w : World) (e : Ending) (w' : World) : Prop := ∃ n bd er, e = .returned (.tuple #[.int .i64 n, .int .i64 bd, .int .i64 er]) ∧ Below w.heap.size w w' ∧ OneRes o k c n bd er
theorem one_all (o k c : Int) (w : World) : Calls Try.prog 32 #[.int .i64 o, .int .i64 k, .int .i64 c] w (OneOut o k c w) := by
  by_cases ho : 5 ≤ o ∧ o ≤ 7
  · by_cases hk : 1 ≤ k ∧ k ≤ 6
    · by_cases hc : isN c (widthI k)
      · exact (One_yes o k c ho hk hc w).mono fun e w' ⟨he, hb⟩ => ⟨_, _, _, he, hb, Or.inl ⟨⟨ho, hk, hc⟩, rfl, rfl, rfl⟩⟩
      · exact (One_no_c o k c ho hk hc w).mono fun e w' ⟨he, hb⟩ => ⟨_, _, _, he, by rw [hb]; exact Below.refl _ _, Or.inr ⟨fun h => hc h.2.2, rfl, rfl, rfl⟩⟩
    · exact (One_no_k o k c ho hk w).mono fun e w' ⟨he, hb⟩ => ⟨_, _, _, he, by rw [hb]; exact Below.refl _ _, Or.inr ⟨fun h => hk h.2.1, rfl, rfl, rfl⟩⟩
  · exact (One_no_o o k c ho w).mono fun e w' ⟨he, hb⟩ => ⟨_, _, _, he, by rw [hb]; exact Below.refl _ _, Or.inr ⟨fun h => ho h.1, rfl, rfl, rfl⟩⟩

set_option maxHeartbeats 4000000 in
set_option maxRecDepth 100000 in
theorem ones_any (pn : Option Addr) (ln cn : Nat) (zs : List Int) (ps : Option Addr) (ls cs : Nat) (ss : List ByteArray) (pa : Option Addr) (la ca : Nat) (po : Option Addr) (lo co : Nat) (os : List Int) (w : World) (hn : IsInts w pn ln zs) (hs : IsStrs w ps ls ss) (hcn : pn = none → cn = 0) (r1 : ln ≤ 17592186044416) (r2 : la ≤ 17592186044416) (ho : IsInts w po lo os) :
    Calls Try.prog 22 #[.agg #[.slice pn ln cn, .slice ps ls cs, .slice pa la ca], .slice po lo co] w fun e w' => e = .returned (.bool true) ∧ Below w.heap.size w w' := by
  have hb1 := below_box w (.cells #[.slice pn ln cn, .slice ps ls cs, .slice pa la ca] 26)
  have hs1 := hs.below hb1
  have hlo := len_max ho
  go_enter Try.func22, Try.ntmps22
  go_wp2_with fail
  refine (heavy_out _ _ _ _ _ _ ss _ _ _ _ hs1 r1 r2).mono ?_
  rintro e w' ⟨b, rfl, hle, rfl⟩
  cases b
  · have hle' := hle rfl
    clear hle
    go_wp2_with fail
    go_loopw [5] (fun i wr => RelQ (w.alloc (.cells #[.slice pn ln cn, .slice ps ls cs, .slice pa la ca] 26)) lo i wr) (fun i _ => lo - (intOf i).toNat)
    case atStart => exact ⟨0, by omega, rfl, (Below.refl _ _).alloc (by simp) _⟩
    case round =>
      obtain ⟨q, hq, rfl, hb⟩ := hrel
      have hbw : Below w.heap.size w wr := hb1.trans (hb.mono (by simp))
      have hsz : w.heap.size + 1 ≤ wr.heap.size := by have := hb.size; simpa using this
      by_cases hql : q < lo
      · obtain ⟨bo, offo, O, rfl, hbo, hco, O0, O1⟩ := ints_at (ho.below hbw) hql
        have hql3 : decide ((q : Int) < lo) = true := by simp; omega
        obtain ⟨wo, rfl⟩ : ∃ wo : World, wo = wr := ⟨_, rfl⟩
        go_wp2_with fail
        go_loopw [6] (fun i wr => RelKind wo i wr) (fun i _ => (12 - intOf i).toNat)
        case atStart => exact ⟨-1, by omega, by omega, rfl, Below.refl _ _⟩
        case round =>
          obtain ⟨k, hk1, hk2, rfl, hbk⟩ := hrel
          have hbwk : Below w.heap.size w wr := hbw.trans (hbk.mono (by omega))
          have hszk : wo.heap.size ≤ wr.heap.size := hbk.size
          by_cases hk3 : k ≤ 11
          · have hc0 : wr.cell? ⟨w.heap.size, 0, none⟩ = some (.slice pn ln cn) := (hbk.cell (p := ⟨w.heap.size, 0, none⟩) (by simp; omega)).trans ((hb.cell (p := ⟨w.heap.size, 0, none⟩) (by simp)).trans (by simp))
            have hc1 : wr.cell? ⟨w.heap.size, 1, none⟩ = some (.slice ps ls cs) := (hbk.cell (p := ⟨w.heap.size, 1, none⟩) (by simp; omega)).trans ((hb.cell (p := ⟨w.heap.size, 1, none⟩) (by simp)).trans (by simp))
            have hc2 : wr.cell? ⟨w.heap.size, 2, none⟩ = some (.slice pa la ca) := (hbk.cell (p := ⟨w.heap.size, 2, none⟩) (by simp; omega)).trans ((hb.cell (p := ⟨w.heap.size, 2, none⟩) (by simp)).trans (by simp))
            go_wp2_with (first | (go_at_call 24; refine (numbers_any pn ln cn zs ps ls cs pa la ca k _ (hn.below hbwk) hcn (by omega)).mono ?_; rintro e wn ⟨pm, lm, cm, ms, rfl, hI, hbn⟩))
            have hlm := len_max hI
            have hszn := hbn.size
            have hcoN := (hbn.cell (p := ⟨bo, offo + q, none⟩) (by simp; omega)).trans ((hbk.cell (p := ⟨bo, offo + q, none⟩) (by simp; omega)).trans hco)
            clear hc0 hc1 hc2
            go_loopw [8] (fun i wr => RelQ wn lm i wr) (fun i _ => lm - (intOf i).toNat)
            case atStart => exact ⟨0, by omega, rfl, Below.refl _ _⟩
            case round =>
              obtain ⟨i, hi, rfl, hbi⟩ := hrel
              have hszi := hbi.size
              by_cases hil : i < lm
              · have hil3 : decide ((i : Int) < lm) = true := by simp; omega
                obtain ⟨bm, offm, M, rfl, hbm, hcm, M0, M1⟩ := ints_at (hI.below hbi) hil
                have hco2 := (hbi.cell (p := ⟨bo, offo + q, none⟩) (by simp; omega)).trans hcoN
                go_wp2_with fail
                have iq0 : (0 : Int) ≤ q := by omega
                have iq1 : (q : Int) < lo := by omega
                have ii0 : (0 : Int) ≤ i := by omega
                have ii1 : (i : Int) < lm := by omega
                have hbo2 : bo < wr.heap.size := by omega
                clear hcoN hI hbk hbwk hbw hb ho hs hs1 hb1 hn
                go_region_held3 (fun w' => w'.cell? ⟨bo, offo + q, none⟩ = some (.int .i64 O) ∧ w'.cell? ⟨bm, offm + i, none⟩ = some (.int .i64 M))
                  (first
                    | exact ⟨hco2, hcm⟩
                    | exact ⟨(hbT.cell (p := ⟨bo, offo + q, none⟩) hbo2).trans hco2, (hbT.cell (p := ⟨bm, offm + i, none⟩) hbm).trans hcm⟩)
                  ((go_at_call 32; refine (one_all _ _ _ _).mono ?_; rintro e wT ⟨n, bd, er, rfl, hbT, hR⟩))
                have hbw2 := hbT.size
                have hco3 := (hbT.cell (p := ⟨bo, offo + q, none⟩) hbo2).trans hco2
                have hcm3 := (hbT.cell (p := ⟨bm, offm + i, none⟩) hbm).trans hcm
                simp only [World.size_drew] at hbw2
                clear hco2 hcm hco
                have hbT2 : Below wn.heap.size wn wT := hbi.trans ((((Below.refl wr.heap.size wr).drew).trans hbT).mono (by omega))
                clear hbT
                rcases hR with ⟨⟨hO, hK, hC⟩, rfl, rfl, rfl⟩ | ⟨hbad, rfl, rfl, rfl⟩
                · have cOne := fun w => rOne_any O k M hO hK hC w
                  generalize oneI O k M = r at *
                  obtain ⟨n, bd⟩ := r
                  have cM := fun w => rMayOne_yes O k hO hK w
                  have cC := fun w => rNumber_yes M _ (width_isW hK) hC w
                  have q1 : (n != n) = false := by simp
                  have q2 : (bd != bd) = false := by simp
                  go_wp2_with fail
                  go_quiet ((first | (go_at_call 35; exact Calls.quiet_of_same (calls_flip (cM _))) | (go_at_call 26; exact Calls.quiet_of_same (calls_flip (rWidth_any _ _))) | (go_at_call 27; exact Calls.quiet_of_same (calls_flip (cC _)))))
                  have hco4 : (wT.drewN nq).cell? ⟨bo, offo + q, none⟩ = some (.int .i64 O) := hco3
                  have hcm4 : (wT.drewN nq).cell? ⟨bm, offm + i, none⟩ = some (.int .i64 M) := hcm3
                  have hbT3 : Below wn.heap.size wn (wT.drewN nq) := hbT2.trans (Joins.below_draws _ _ _)
                  generalize wT.drewN nq = wU at hco4 hcm4 hbT3 ⊢
                  clear hco3 hcm3 hbT2
                  go_wp2_with fail
                  go_quiet ((go_at_call 36; exact Calls.quiet_of (cOne _)))
                  go_wp2_with (first | (go_at_call 29; refine (num_any _ _).mono ?_; rintro e w' ⟨rfl, rfl⟩))
                  go_roundw
                  case rel => exact ⟨i + 1, by omega, by go_num, hbT3.trans (Joins.below_draws _ _ _)⟩
                  case measure => simp [intOf]; omega
                · by_cases hO : 5 ≤ O ∧ O ≤ 7
                  · by_cases hK : 1 ≤ k ∧ k ≤ 6
                    · have hC : ¬ isN M (widthI k) := fun h => hbad ⟨hO, hK, h⟩
                      have cM := fun w => rMayOne_yes O k hO hK w
                      have cC := fun w => rNumber_no M _ (width_isW hK) hC w
                      go_wp2_with fail
                      go_quiet ((first | (go_at_call 35; exact Calls.quiet_of_same (calls_flip (cM _))) | (go_at_call 26; exact Calls.quiet_of_same (calls_flip (rWidth_any _ _))) | (go_at_call 27; exact Calls.quiet_of_same (calls_flip (cC _)))))
                      go_wp2_with (first | (go_at_call 29; refine (num_any _ _).mono ?_; rintro e w' ⟨rfl, rfl⟩))
                      go_roundw
                      case rel => exact ⟨i + 1, by omega, by go_num, hbT2.trans (Joins.below_draws _ _ _)⟩
                      case measure => simp [intOf]; omega
                    · have cM := fun w => rMayOne_no_k O k hO hK w
                      go_wp2_with fail
                      go_quiet ((first | (go_at_call 35; exact Calls.quiet_of_same (calls_flip (cM _))) | (go_at_call 26; exact Calls.quiet_of_same (calls_flip (rWidth_any _ _))) | (go_at_call 27; exact Calls.quiet_of_same (calls_flip (cM _)))))
                      go_wp2_with (first | (go_at_call 29; refine (num_any _ _).mono ?_; rintro e w' ⟨rfl, rfl⟩))
                      go_roundw
                      case rel => exact ⟨i + 1, by omega, by go_num, hbT2.trans (Joins.below_draws _ _ _)⟩
                      case measure => simp [intOf]; omega
                  · have cM := fun w => rMayOne_no_o O k hO w
                    go_wp2_with fail
                    go_quiet ((first | (go_at_call 35; exact Calls.quiet_of_same (calls_flip (cM _))) | (go_at_call 26; exact Calls.quiet_of_same (calls_flip (rWidth_any _ _))) | (go_at_call 27; exact Calls.quiet_of_same (calls_flip (cM _)))))
                    go_wp2_with (first | (go_at_call 29; refine (num_any _ _).mono ?_; rintro e w' ⟨rfl, rfl⟩))
                    go_roundw
                    case rel => exact ⟨i + 1, by omega, by go_num, hbT2.trans (Joins.below_draws _ _ _)⟩
                    case measure => simp [intOf]; omega
              · have hil3 : decide ((i : Int) < lm) = false := by simp; omega
                go_wp2_with fail
                go_roundw
                case rel => exact ⟨k + 1, by omega, by omega, by go_num, hbk.trans ((hbn.mono (by omega)).trans (hbi.mono (by omega)))⟩
                case measure => simp [intOf]; omega
          · have hk3d : decide (k ≤ 11) = false := by simp; omega
            go_wp2_with fail
            go_roundw
            case rel => exact ⟨q + 1, by omega, by go_num, by simp only [World.size_alloc] at hb ⊢; exact hb.trans (hbk.mono (by omega))⟩
            case measure => simp [intOf]; omega
      · have hql3 : decide ((q : Int) < lo) = false := by simp; omega
        go_wp2_with (go_at_call 30; refine (wakes_any _).mono ?_; rintro e w' ⟨rfl, hwk⟩)
        go_ret
        exact ⟨rfl, hbw.trans (hwk.mono (by omega))⟩
  · go_wp2_with fail
    go_ret
    exact ⟨rfl, (hb1.trans ((Below.refl _ _).alloc (by simp) _))⟩
end Go.Proofs.Ytbamphfoobmblaa
