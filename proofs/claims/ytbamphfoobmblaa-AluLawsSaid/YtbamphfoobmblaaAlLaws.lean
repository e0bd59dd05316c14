/- AluLaws: its walk. -/
import Derived.Test.YtbamphfoobmblaaLaws
import Derived.Test.YtbamphfoobmblaaSums
namespace Go.Proofs.Ytbamphfoobmblaa
open Go.ChangeShapes Go.WideShapes Go.ChangeAt Go.RowKit Go.Joins Go.Deep
set_option linter.unusedVariables false

def RelOdd (w0 : World) (i : Value) (wr : World) : Prop := ∃ k : Int, (k = 1 ∨ k = 3 ∨ k = 5 ∨ k = 7) ∧ i = .int .i64 k ∧ Below w0.heap.size w0 wr

set_option maxHeartbeats 8000000 in
set_option maxRecDepth 100000 in
theorem AluLaws_any (pn : Option Addr) (ln cn : Nat) (zs : List Int) (ps : Option Addr) (ls cs : Nat) (ss : List ByteArray) (pa : Option Addr) (la ca : Nat) (w : World) (hn : IsInts w pn ln zs) (hs : IsStrs w ps ls ss) (hcn : pn = none → cn = 0) (r1 : ln ≤ 17592186044416) (r2 : la ≤ 17592186044416) :
    Calls Try.prog 5 #[.agg #[.slice pn ln cn, .slice ps ls cs, .slice pa la ca]] w fun e w' => e = .returned (.bool true) ∧ Below w.heap.size w w' := by
  have hb1 := below_box w (.cells #[.slice pn ln cn, .slice ps ls cs, .slice pa la ca] 26)
  have hs1 := hs.below hb1
  go_enter Try.func5, Try.ntmps5
  go_wp2_with fail
  refine (heavy_out _ _ _ _ _ _ ss _ _ _ _ hs1 r1 r2).mono ?_
  rintro e w' ⟨b, rfl, hle, rfl⟩
  cases b
  · have hle' := hle rfl
    clear hle
    go_wp2_with fail
    go_loopw [3] (fun i wr => RelOdd (w.alloc (.cells #[.slice pn ln cn, .slice ps ls cs, .slice pa la ca] 26)) i wr) (fun i _ => (7 - intOf i).toNat)
    case atStart => exact ⟨1, Or.inl rfl, rfl, (Below.refl _ _).alloc (by simp) _⟩
    case round =>
      obtain ⟨k, hk4, rfl, hb⟩ := hrel
      have hbw : Below w.heap.size w wr := hb1.trans (hb.mono (by simp))
      have hsz : w.heap.size + 1 ≤ wr.heap.size := by have := hb.size; simpa using this
      by_cases hk3 : k ≤ 5
      · have hk : unsK k := by unfold unsK; omega
        have hK := uns_num hk
        have hc0 : wr.cell? ⟨w.heap.size, 0, none⟩ = some (.slice pn ln cn) := (hb.cell (p := ⟨w.heap.size, 0, none⟩) (by simp)).trans (by simp)
        have hc1 : wr.cell? ⟨w.heap.size, 1, none⟩ = some (.slice ps ls cs) := (hb.cell (p := ⟨w.heap.size, 1, none⟩) (by simp)).trans (by simp)
        have hc2 : wr.cell? ⟨w.heap.size, 2, none⟩ = some (.slice pa la ca) := (hb.cell (p := ⟨w.heap.size, 2, none⟩) (by simp)).trans (by simp)
        go_wp2_with (first | (go_at_call 24; refine (numbers_any pn ln cn zs ps ls cs pa la ca k _ (hn.below hbw) hcn (by omega)).mono ?_; rintro e wn ⟨pm, lm, cm, ms, rfl, hI, hbn⟩) | (go_at_call 26; refine (rWidth_any _ _).mono ?_; rintro e w' ⟨rfl, rfl⟩))
        have hlm := len_max hI
        have hszn := hbn.size
        clear hc0 hc1 hc2
        have hbn2 : Below (w.alloc (.cells #[.slice pn ln cn, .slice ps ls cs, .slice pa la ca] 26)).heap.size (w.alloc (.cells #[.slice pn ln cn, .slice ps ls cs, .slice pa la ca] 26)) wn := hb.trans (hbn.mono (by simp; omega))
        clear hbn hb
        go_loopw [6] (fun i wr => RelQ wn lm i wr) (fun i _ => lm - (intOf i).toNat)
        case atStart => exact ⟨0, by omega, rfl, Below.refl _ _⟩
        case round =>
          obtain ⟨i, hi, rfl, hbi⟩ := hrel
          have hszi := hbi.size
          by_cases hil : i < lm
          · have hil3 : decide ((i : Int) < lm) = true := by simp; omega
            obtain ⟨wi, rfl⟩ : ∃ wi : World, wi = wr := ⟨_, rfl⟩
            go_wp2_with fail
            go_loopw [7] (fun i wr => RelQ wi lm i wr) (fun i _ => lm - (intOf i).toNat)
            case atStart => exact ⟨0, by omega, rfl, Below.refl _ _⟩
            case round =>
              obtain ⟨j, hj, rfl, hbj⟩ := hrel
              have hszj := hbj.size
              by_cases hjl : j < lm
              · have hjl3 : decide ((j : Int) < lm) = true := by simp; omega
                have hbnj : Below wn.heap.size wn wr := hbi.trans (hbj.mono (by omega))
                obtain ⟨bm, offm, M, rfl, hbm, hcm, M0, M1⟩ := ints_at (hI.below hbnj) hil
                obtain ⟨bm', offm', C, hpe, hbm', hcm', C0, C1⟩ := ints_at (hI.below hbnj) hjl
                obtain ⟨rfl, rfl⟩ : bm' = bm ∧ offm' = offm := by simp at hpe; exact ⟨hpe.1.symm, hpe.2.symm⟩
                clear hpe hbnj
                have ii0 : (0 : Int) ≤ i := by omega
                have ii1 : (i : Int) < lm := by omega
                have ij0 : (0 : Int) ≤ j := by omega
                have ij1 : (j : Int) < lm := by omega
                clear hI hs hs1 hb1 hn
                go_wp2_with fail
                go_quiet (fail)
                have hbU : Below wi.heap.size wi (wr.drewN nq) := hbj.trans (Joins.below_draws _ _ _)
                clear hcm hcm' hbj hbm hbm'
                generalize wr.drewN nq = wU at hbU ⊢
                have hszU := hbU.size
                by_cases hA : isN M (widthI k)
                · have cA := fun w => rNumber_yes M _ (width_isW hK) hA w
                  by_cases hC : isN C (widthI k)
                  · have cC := fun w => rNumber_yes C _ (width_isW hK) hC w
                    obtain ⟨c0, _⟩ := isN_32 (width_isW hK) hC
                    obtain ⟨mm0, mm1⟩ := isN_32 (width_isW hK) hA
                    obtain ⟨s, m, t, S⟩ := sums_at hk M C hA hC
                    have c1 := fun w => Two_yes 8 k M C (by decide) hK hA hC w
                    have c2 := fun w => Two_yes 9 k s C (by decide) hK S.hs hC w
                    have c3 := fun w => Two_yes 10 k M C (by decide) hK hA hC w
                    have c4 := fun w => Two_yes 10 k C M (by decide) hK hC hA w
                    have c5 := fun w => One_yes 6 k M (by decide) hK hA w
                    have c6 := fun w => One_yes 6 k t (by decide) hK S.ht w
                    rw [S.e1] at c1
                    rw [S.e2] at c2
                    rw [S.e3] at c3
                    rw [S.e4] at c4
                    rw [S.e5] at c5
                    rw [S.e6] at c6
                    clear S
                    have q1 : (M != M) = false := by simp
                    have q2 : (m != m) = false := by simp
                    by_cases hC0 : C = 0
                    · have hc0 : (C != 0) = false := by simp [hC0]
                      have HC0 := Lib.hid hC0
                      clear hC0
                      go_wp2_with (first | (go_at_call 27; ((with_reducible refine (cA _).mono ?_); rintro e w' ⟨rfl, rfl⟩)) | (go_at_call 27; ((with_reducible refine (cC _).mono ?_); rintro e w' ⟨rfl, rfl⟩)) | (go_at_call 31; ((with_reducible refine (c1 _).mono ?_); rintro e w1 ⟨rfl, hw1⟩)) | (go_at_call 31; ((with_reducible refine (c2 _).mono ?_); rintro e w2 ⟨rfl, hw2⟩)) | (go_at_call 31; ((with_reducible refine (c3 _).mono ?_); rintro e w3 ⟨rfl, hw3⟩)) | (go_at_call 31; ((with_reducible refine (c4 _).mono ?_); rintro e w4 ⟨rfl, hw4⟩)) | (go_at_call 32; ((with_reducible refine (c5 _).mono ?_); rintro e w5 ⟨rfl, hw5⟩)) | (go_at_call 32; ((with_reducible refine (c6 _).mono ?_); rintro e w6 ⟨rfl, hw6⟩)) | (go_at_call 29; refine (num_any _ _).mono ?_; rintro e w' ⟨rfl, rfl⟩))
                      have s1 := hw1.size
                      have s2 := hw2.size
                      have s3 := hw3.size
                      have s4 := hw4.size
                      have s5 := hw5.size
                      go_roundw
                      case rel => exact ⟨j + 1, by omega, by go_num, hbU.trans ((hw1.mono (by omega)).trans ((hw2.mono (by omega)).trans ((hw3.mono (by omega)).trans ((hw4.mono (by omega)).trans ((hw5.mono (by omega)).trans (hw6.mono (by omega)))))))⟩
                      case measure => simp [intOf]; omega
                    · obtain ⟨q, r, P⟩ := parts_at hk M C hA hC hC0
                      have c7 := fun w => Two_yes 11 k M C (by decide) hK hA hC w
                      have c8 := fun w => Two_yes 12 k M C (by decide) hK hA hC w
                      rw [P.e1] at c7
                      rw [P.e2] at c8
                      obtain ⟨_, _, p3, p4, p5, p6, p7⟩ := P
                      have hc0 : (C != 0) = true := by simp [hC0]
                      have q3 : wrap64 (q * C) = q * C := wrap64_small (Int.mul_nonneg p4 c0) (by omega)
                      have q4 : (wrap64 (q * C + r) != M) = false := by rw [p3, wrap64_small mm0 (by omega)]; simp
                      have q5 : decide (C ≤ r) = false := by simp; omega
                      have q6 : decide (r < 0) = false := by simp; omega
                      have HC0 := Lib.hid hC0
                      have HP3 := Lib.hid p3
                      clear hC0 p3
                      go_wp2_with (first | (go_at_call 27; ((with_reducible refine (cA _).mono ?_); rintro e w' ⟨rfl, rfl⟩)) | (go_at_call 27; ((with_reducible refine (cC _).mono ?_); rintro e w' ⟨rfl, rfl⟩)) | (go_at_call 31; ((with_reducible refine (c1 _).mono ?_); rintro e w1 ⟨rfl, hw1⟩)) | (go_at_call 31; ((with_reducible refine (c2 _).mono ?_); rintro e w2 ⟨rfl, hw2⟩)) | (go_at_call 31; ((with_reducible refine (c3 _).mono ?_); rintro e w3 ⟨rfl, hw3⟩)) | (go_at_call 31; ((with_reducible refine (c4 _).mono ?_); rintro e w4 ⟨rfl, hw4⟩)) | (go_at_call 32; ((with_reducible refine (c5 _).mono ?_); rintro e w5 ⟨rfl, hw5⟩)) | (go_at_call 32; ((with_reducible refine (c6 _).mono ?_); rintro e w6 ⟨rfl, hw6⟩)) | (go_at_call 31; ((with_reducible refine (c7 _).mono ?_); rintro e w7 ⟨rfl, hw7⟩)) | (go_at_call 31; ((with_reducible refine (c8 _).mono ?_); rintro e w8 ⟨rfl, hw8⟩)) | (go_at_call 29; refine (num_any _ _).mono ?_; rintro e w' ⟨rfl, rfl⟩))
                      have s1 := hw1.size
                      have s2 := hw2.size
                      have s3 := hw3.size
                      have s4 := hw4.size
                      have s5 := hw5.size
                      have s6 := hw6.size
                      have s7 := hw7.size
                      go_roundw
                      case rel => exact ⟨j + 1, by omega, by go_num, hbU.trans ((hw1.mono (by omega)).trans ((hw2.mono (by omega)).trans ((hw3.mono (by omega)).trans ((hw4.mono (by omega)).trans ((hw5.mono (by omega)).trans ((hw6.mono (by omega)).trans ((hw7.mono (by omega)).trans (hw8.mono (by omega)))))))))⟩
                      case measure => simp [intOf]; omega
                  · have cC := fun w => rNumber_no C _ (width_isW hK) hC w
                    go_wp2_with (first | (go_at_call 27; ((with_reducible refine (cA _).mono ?_); rintro e w' ⟨rfl, rfl⟩)) | (go_at_call 27; ((with_reducible refine (cC _).mono ?_); rintro e w' ⟨rfl, rfl⟩)))
                    go_roundw
                    case rel => exact ⟨j + 1, by omega, by go_num, hbU⟩
                    case measure => simp [intOf]; omega
                · have cA := fun w => rNumber_no M _ (width_isW hK) hA w
                  have cC := cA
                  go_wp2_with (first | (go_at_call 27; ((with_reducible refine (cA _).mono ?_); rintro e w' ⟨rfl, rfl⟩)) | (go_at_call 27; ((with_reducible refine (cC _).mono ?_); rintro e w' ⟨rfl, rfl⟩)))
                  go_roundw
                  case rel => exact ⟨j + 1, by omega, by go_num, hbU⟩
                  case measure => simp [intOf]; omega
              · have hjl3 : decide ((j : Int) < lm) = false := by simp; omega
                go_wp2_with fail
                go_roundw
                case rel => exact ⟨i + 1, by omega, by go_num, hbi.trans (hbj.mono (by omega))⟩
                case measure => simp [intOf]; omega
          · have hil3 : decide ((i : Int) < lm) = false := by simp; omega
            go_wp2_with fail
            go_roundw
            case rel => exact ⟨k + 2, by omega, by rfl, hbn2.trans (hbi.mono (by simp; omega))⟩
            case measure => simp [intOf]; omega
      · have hk3d : decide (k ≤ 5) = false := by simp; omega
        go_wp2_with (go_at_call 30; refine (wakes_any _).mono ?_; rintro e w' ⟨rfl, hwk⟩)
        go_ret
        exact ⟨rfl, hbw.trans (hwk.mono (by omega))⟩
  · go_wp2_with fail
    go_ret
    exact ⟨rfl, (hb1.trans ((Below.refl _ _).alloc (by simp) _))⟩
end Go.Proofs.Ytbamphfoobmblaa
