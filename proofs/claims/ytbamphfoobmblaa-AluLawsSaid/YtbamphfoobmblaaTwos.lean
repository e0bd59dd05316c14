/- twos: operators of two numbers over all kinds. -/
import Derived.Test.YtbamphfoobmblaaNums
import Derived.StillTailTactics
import Derived.Deep.RegionHeld3
namespace Go.Proofs.Ytbamphfoobmblaa
open Go.ChangeShapes Go.WideShapes Go.ChangeAt Go.RowKit Go.Joins Go.Deep
set_option linter.unusedVariables false

def RelQ (w0 : World) (lo : Nat) (i : Value) (wr : World) : Prop := ∃ j : Nat, j ≤ lo ∧ i = .int .i64 j ∧ Below w0.heap.size w0 wr
def RelKind (w0 : World) (i : Value) (wr : World) : Prop := ∃ k : Int, -1 ≤ k ∧ k ≤ 12 ∧ i = .int .i64 k ∧ Below w0.heap.size w0 wr
/-- what a row of integers holds at a place -/
theorem ints_at {w : World} {p : Option Addr} {len : Nat} {zs : List Int} (h : IsInts w p len zs) {i : Nat} (hi : i < len) :
    ∃ b off N, p = some ⟨b, off, none⟩ ∧ b < w.heap.size ∧ w.cell? ⟨b, off + i, none⟩ = some (.int .i64 N) ∧ -9223372036854775808 ≤ N ∧ N ≤ 9223372036854775807 := by
  obtain ⟨hm, ⟨hl, hw⟩, hp⟩ := h
  obtain ⟨b, off, rfl, hb, hc⟩ := hp (by omega)
  have := wf_of_mem hw i
  exact ⟨b, off, _, rfl, hb, hc i hi, this.1, this.2⟩
theorem len_max {w : World} {p : Option Addr} {len : Nat} {zs : List Int} (h : IsInts w p len zs) : len ≤ 9223372036854775807 := by
  have := h.1; unfold maxLen at this; exact this

def TwoRes (o k a c n bd er : Int) : Prop :=
  (((8 ≤ o ∧ o ≤ 19) ∧ (1 ≤ k ∧ k ≤ 6) ∧ isN a (widthI k) ∧ isN c (widthI k)) ∧ er = 0 ∧ n = (twoI o k a c).1 ∧ bd = (twoI o k a c).2) ∨
  (¬ ((8 ≤ o ∧ o ≤ 19) ∧ (1 ≤ k ∧ k ≤ 6) ∧ isN a (widthI k) ∧ isN c (widthI k)) ∧ er = 1 ∧ n = 0 ∧ bd = 0)
def TwoOut (o k a c : Int) (w : World) (e : Ending) (w' : World) : Prop := ∃ n bd er, e = .returned (.tuple #[.int .i64 n, .int .i64 bd, .int .i64 er]) ∧ Below w.heap.size w w' ∧ TwoRes o k a c n bd er
theorem two_all (o k a c : Int) (w : World) : Calls Try.prog 31 #[.int .i64 o, .int .i64 k, .int .i64 a, .int .i64 c] w (TwoOut o k a c w) := by
  by_cases ho : 8 ≤ o ∧ o ≤ 19
  · by_cases hk : 1 ≤ k ∧ k ≤ 6
    · by_cases ha : isN a (widthI k)
      · by_cases hc : isN c (widthI k)
        · exact (Two_yes o k a c ho hk ha hc w).mono fun e w' ⟨he, hb⟩ => ⟨_, _, _, he, hb, Or.inl ⟨⟨ho, hk, ha, hc⟩, rfl, rfl, rfl⟩⟩
        · exact (Two_no_c o k a c ho hk ha hc w).mono fun e w' ⟨he, hb⟩ => ⟨_, _, _, he, by rw [hb]; exact Below.refl _ _, Or.inr ⟨fun h => hc h.2.2.2, rfl, rfl, rfl⟩⟩
      · exact (Two_no_a o k a c ho hk ha w).mono fun e w' ⟨he, hb⟩ => ⟨_, _, _, he, by rw [hb]; exact Below.refl _ _, Or.inr ⟨fun h => ha h.2.2.1, rfl, rfl, rfl⟩⟩
    · exact (Two_no_k o k a c ho hk w).mono fun e w' ⟨he, hb⟩ => ⟨_, _, _, he, by rw [hb]; exact Below.refl _ _, Or.inr ⟨fun h => hk h.2.1, rfl, rfl, rfl⟩⟩
  · exact (Two_no_o o k a c ho w).mono fun e w' ⟨he, hb⟩ => ⟨_, _, _, he, by rw [hb]; exact Below.refl _ _, Or.inr ⟨fun h => ho h.1, rfl, rfl, rfl⟩⟩

set_option maxHeartbeats 4000000 in
set_option maxRecDepth 100000 in
theorem twos_any (pn : Option Addr) (ln cn : Nat) (zs : List Int) (ps : Option Addr) (ls cs : Nat) (ss : List ByteArray) (pa : Option Addr) (la ca : Nat) (po : Option Addr) (lo co : Nat) (os : List Int) (w : World) (hn : IsInts w pn ln zs) (hs : IsStrs w ps ls ss) (hcn : pn = none → cn = 0) (r1 : ln ≤ 17592186044416) (r2 : la ≤ 17592186044416) (ho : IsInts w po lo os) :
    Calls Try.prog 21 #[.agg #[.slice pn ln cn, .slice ps ls cs, .slice pa la ca], .slice po lo co] w fun e w' => e = .returned (.bool true) ∧ Below w.heap.size w w' := by
  have hb1 := below_box w (.cells #[.slice pn ln cn, .slice ps ls cs, .slice pa la ca] 26)
  have hs1 := hs.below hb1
  have hlo := len_max ho
  go_enter Try.func21, Try.ntmps21
  go_wp2_with fail
  refine (heavy_out _ _ _ _ _ _ ss _ _ _ _ hs1 r1 r2).mono ?_
  rintro e w' ⟨b, rfl, hle, rfl⟩
  cases b
  · have hle' := hle rfl
    clear hle
    go_wp2_with fail
    go_loopw [5] (fun i wr => RelQ (w.alloc (.cells #[.slice pn ln cn, .slice ps ls cs, .slice pa la ca] 26)) lo i wr) (fun i _ => lo - (intOf i).toNat)
    case atStart => exact ⟨0, by omega, rfl, (Below.refl _ _).alloc (by simp) _⟩
    case round =>
      obtain ⟨q, hq, rfl, hb⟩ := hrel
      have hbw : Below w.heap.size w wr := hb1.trans (hb.mono (by simp))
      have hsz : w.heap.size + 1 ≤ wr.heap.size := by have := hb.size; simpa using this
      by_cases hql : q < lo
      · obtain ⟨bo, offo, O, rfl, hbo, hco, O0, O1⟩ := ints_at (ho.below hbw) hql
        have hql3 : decide ((q : Int) < lo) = true := by simp; omega
        obtain ⟨wo, rfl⟩ : ∃ wo : World, wo = wr := ⟨_, rfl⟩
        go_wp2_with fail
        go_loopw [6] (fun i wr => RelKind wo i wr) (fun i _ => (12 - intOf i).toNat)
        case atStart => exact ⟨-1, by omega, by omega, rfl, Below.refl _ _⟩
        case round =>
          obtain ⟨k, hk1, hk2, rfl, hbk⟩ := hrel
          have hbwk : Below w.heap.size w wr := hbw.trans (hbk.mono (by omega))
          have hszk : wo.heap.size ≤ wr.heap.size := hbk.size
          by_cases hk3 : k ≤ 11
          · have hc0 : wr.cell? ⟨w.heap.size, 0, none⟩ = some (.slice pn ln cn) := (hbk.cell (p := ⟨w.heap.size, 0, none⟩) (by simp; omega)).trans ((hb.cell (p := ⟨w.heap.size, 0, none⟩) (by simp)).trans (by simp))
            have hc1 : wr.cell? ⟨w.heap.size, 1, none⟩ = some (.slice ps ls cs) := (hbk.cell (p := ⟨w.heap.size, 1, none⟩) (by simp; omega)).trans ((hb.cell (p := ⟨w.heap.size, 1, none⟩) (by simp)).trans (by simp))
            have hc2 : wr.cell? ⟨w.heap.size, 2, none⟩ = some (.slice pa la ca) := (hbk.cell (p := ⟨w.heap.size, 2, none⟩) (by simp; omega)).trans ((hb.cell (p := ⟨w.heap.size, 2, none⟩) (by simp)).trans (by simp))
            go_wp2_with (first | (go_at_call 24; refine (numbers_any pn ln cn zs ps ls cs pa la ca k _ (hn.below hbwk) hcn (by omega)).mono ?_; rintro e wn ⟨pm, lm, cm, ms, rfl, hI, hbn⟩) | (go_at_call 26; refine (rWidth_any _ _).mono ?_; rintro e w' ⟨rfl, rfl⟩))
            have hlm := len_max hI
            have hszn := hbn.size
            have hcoN := (hbn.cell (p := ⟨bo, offo + q, none⟩) (by simp; omega)).trans ((hbk.cell (p := ⟨bo, offo + q, none⟩) (by simp; omega)).trans hco)
            clear hc0 hc1 hc2
            go_loopw [9] (fun i wr => RelQ wn lm i wr) (fun i _ => lm - (intOf i).toNat)
            case atStart => exact ⟨0, by omega, rfl, Below.refl _ _⟩
            case round =>
              obtain ⟨i, hi, rfl, hbi⟩ := hrel
              have hszi := hbi.size
              by_cases hil : i < lm
              · have hil3 : decide ((i : Int) < lm) = true := by simp; omega
                obtain ⟨wi, rfl⟩ : ∃ wi : World, wi = wr := ⟨_, rfl⟩
                go_wp2_with fail
                go_loopw [10] (fun i wr => RelQ wi lm i wr) (fun i _ => lm - (intOf i).toNat)
                case atStart => exact ⟨0, by omega, rfl, Below.refl _ _⟩
                case round =>
                  obtain ⟨j, hj, rfl, hbj⟩ := hrel
                  have hszj := hbj.size
                  by_cases hjl : j < lm
                  · have hjl3 : decide ((j : Int) < lm) = true := by simp; omega
                    have hbnj : Below wn.heap.size wn wr := hbi.trans (hbj.mono (by omega))
                    obtain ⟨bm, offm, M, rfl, hbm, hcm, M0, M1⟩ := ints_at (hI.below hbnj) hil
                    obtain ⟨bm', offm', C, hpe, hbm', hcm', C0, C1⟩ := ints_at (hI.below hbnj) hjl
                    obtain ⟨rfl, rfl⟩ : bm' = bm ∧ offm' = offm := by simp at hpe; exact ⟨hpe.1.symm, hpe.2.symm⟩
                    clear hpe
                    have hco2 := (hbnj.cell (p := ⟨bo, offo + q, none⟩) (by simp; omega)).trans hcoN
                    go_wp2_with fail
                    have iq0 : (0 : Int) ≤ q := by omega
                    have iq1 : (q : Int) < lo := by omega
                    have ii0 : (0 : Int) ≤ i := by omega
                    have ii1 : (i : Int) < lm := by omega
                    have ij0 : (0 : Int) ≤ j := by omega
                    have ij1 : (j : Int) < lm := by omega
                    have hbo2 : bo < wr.heap.size := by omega
                    clear hcoN hI hbn hbk hbwk hbw hb ho hs hs1 hb1 hn
                    go_region_held3 (fun w' => w'.cell? ⟨bo, offo + q, none⟩ = some (.int .i64 O) ∧ w'.cell? ⟨bm', offm' + i, none⟩ = some (.int .i64 M) ∧ w'.cell? ⟨bm', offm' + j, none⟩ = some (.int .i64 C))
                      (first
                        | exact ⟨hco2, hcm, hcm'⟩
                        | exact ⟨(hbT.cell (p := ⟨bo, offo + q, none⟩) hbo2).trans hco2, (hbT.cell (p := ⟨bm', offm' + i, none⟩) hbm).trans hcm, (hbT.cell (p := ⟨bm', offm' + j, none⟩) hbm).trans hcm'⟩)
                      ((go_at_call 31; refine (two_all _ _ _ _ _).mono ?_; rintro e wT ⟨n, bd, er, rfl, hbT, hR⟩))
                    have hbw2 := hbT.size
                    have hco3 := (hbT.cell (p := ⟨bo, offo + q, none⟩) hbo2).trans hco2
                    have hcm3 := (hbT.cell (p := ⟨bm', offm' + i, none⟩) hbm).trans hcm
                    have hcm3' := (hbT.cell (p := ⟨bm', offm' + j, none⟩) hbm).trans hcm'
                    simp only [World.size_drew] at hbw2
                    clear hco2 hcm hcm' hco
                    have hbT2 : Below wi.heap.size wi wT := hbj.trans ((((Below.refl wr.heap.size wr).drew).trans hbT).mono (by omega))
                    clear hbT
                    rcases hR with ⟨⟨hO, hK, hA, hC⟩, rfl, rfl, rfl⟩ | ⟨hbad, rfl, rfl, rfl⟩
                    · have cTwo := fun w => rTwo_any O k M C hO hK hA hC w
                      generalize twoI O k M C = r at *
                      obtain ⟨n, bd⟩ := r
                      have cA := fun w => rNumber_yes M _ (width_isW hK) hA w
                      have cC := fun w => rNumber_yes C _ (width_isW hK) hC w
                      have q1 : (n != n) = false := by simp
                      have q2 : (bd != bd) = false := by simp
                      go_wp2_with (first | (go_at_call 33; refine (rMayTwo_yes _ _ hO hK _).mono ?_; rintro e w' ⟨rfl, rfl⟩) | (go_at_call 27; ((with_reducible refine (cA _).mono ?_); rintro e w' ⟨rfl, rfl⟩)) | (go_at_call 27; ((with_reducible refine (cC _).mono ?_); rintro e w' ⟨rfl, rfl⟩)))
                      go_quiet ((go_at_call 34; exact Calls.quiet_of (cTwo _)))
                      go_wp2_with (first | (go_at_call 29; refine (num_any _ _).mono ?_; rintro e w' ⟨rfl, rfl⟩))
                      go_roundw
                      case rel => exact ⟨j + 1, by omega, by go_num, hbT2.trans (Joins.below_draws _ _ _)⟩
                      case measure => simp [intOf]; omega
                    · by_cases hO : 8 ≤ O ∧ O ≤ 19
                      · by_cases hK : 1 ≤ k ∧ k ≤ 6
                        · by_cases hA : isN M (widthI k)
                          · have hC : ¬ isN C (widthI k) := fun h => hbad ⟨hO, hK, hA, h⟩
                            have cA := fun w => rNumber_yes M _ (width_isW hK) hA w
                            have cC := fun w => rNumber_no C _ (width_isW hK) hC w
                            go_wp2_with (first | (go_at_call 33; refine (rMayTwo_yes _ _ hO hK _).mono ?_; rintro e w' ⟨rfl, rfl⟩) | (go_at_call 27; ((with_reducible refine (cA _).mono ?_); rintro e w' ⟨rfl, rfl⟩)) | (go_at_call 27; ((with_reducible refine (cC _).mono ?_); rintro e w' ⟨rfl, rfl⟩)) | (go_at_call 29; refine (num_any _ _).mono ?_; rintro e w' ⟨rfl, rfl⟩))
                            go_roundw
                            case rel => exact ⟨j + 1, by omega, by go_num, hbT2⟩
                            case measure => simp [intOf]; omega
                          · have cA := fun w => rNumber_no M _ (width_isW hK) hA w
                            go_wp2_with (first | (go_at_call 33; refine (rMayTwo_yes _ _ hO hK _).mono ?_; rintro e w' ⟨rfl, rfl⟩) | (go_at_call 27; ((with_reducible refine (cA _).mono ?_); rintro e w' ⟨rfl, rfl⟩)) | (go_at_call 29; refine (num_any _ _).mono ?_; rintro e w' ⟨rfl, rfl⟩))
                            go_roundw
                            case rel => exact ⟨j + 1, by omega, by go_num, hbT2⟩
                            case measure => simp [intOf]; omega
                        · go_wp2_with (first | (go_at_call 33; refine (rMayTwo_no_k _ _ hO hK _).mono ?_; rintro e w' ⟨rfl, rfl⟩) | (go_at_call 29; refine (num_any _ _).mono ?_; rintro e w' ⟨rfl, rfl⟩))
                          go_roundw
                          case rel => exact ⟨j + 1, by omega, by go_num, hbT2⟩
                          case measure => simp [intOf]; omega
                      · go_wp2_with (first | (go_at_call 33; refine (rMayTwo_no_o _ _ hO _).mono ?_; rintro e w' ⟨rfl, rfl⟩) | (go_at_call 29; refine (num_any _ _).mono ?_; rintro e w' ⟨rfl, rfl⟩))
                        go_roundw
                        case rel => exact ⟨j + 1, by omega, by go_num, hbT2⟩
                        case measure => simp [intOf]; omega
                  · have hjl3 : decide ((j : Int) < lm) = false := by simp; omega
                    go_wp2_with fail
                    go_roundw
                    case rel => exact ⟨i + 1, by omega, by go_num, hbi.trans (hbj.mono (by omega))⟩
                    case measure => simp [intOf]; omega
              · have hil3 : decide ((i : Int) < lm) = false := by simp; omega
                go_wp2_with fail
                go_roundw
                case rel => exact ⟨k + 1, by omega, by omega, by go_num, hbk.trans ((hbn.mono (by omega)).trans (hbi.mono (by omega)))⟩
                case measure => simp [intOf]; omega
          · have hk3d : decide (k ≤ 11) = false := by simp; omega
            go_wp2_with fail
            go_roundw
            case rel => exact ⟨q + 1, by omega, by go_num, by simp only [World.size_alloc] at hb ⊢; exact hb.trans (hbk.mono (by omega))⟩
            case measure => simp [intOf]; omega
      · have hql3 : decide ((q : Int) < lo) = false := by simp; omega
        go_wp2_with (go_at_call 30; refine (wakes_any _).mono ?_; rintro e w' ⟨rfl, hwk⟩)
        go_ret
        exact ⟨rfl, hbw.trans (hwk.mono (by omega))⟩
  · go_wp2_with fail
    go_ret
    exact ⟨rfl, (hb1.trans ((Below.refl _ _).alloc (by simp) _))⟩
end Go.Proofs.Ytbamphfoobmblaa
