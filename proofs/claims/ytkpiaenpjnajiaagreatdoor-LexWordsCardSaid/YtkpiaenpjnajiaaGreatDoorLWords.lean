/- LexWords: the statement's walk. -/
import Derived.Test.YtkpiaenpjnajiaaGreatDoorLHeavy
import Derived.Test.YtkpiaenpjnajiaaGreatDoorLZeros
import Derived.Deep.Cut
import Derived.Deep.CutRange
namespace Go.Proofs.YtkpiaenpjnajiaaGreatDoor
open Go.ChangeShapes Go.WideShapes Go.ChangeAt Go.RowKit Go.Joins Go.Deep
set_option linter.unusedVariables false

set_option maxRecDepth 100000 in
set_option maxHeartbeats 6400000 in
theorem lexwords_any (pS pN : Option Addr) (lS cS lN cN : Nat) (zs : List ByteArray) (hlS : lS ≤ 140737488355328) (hlN : lN ≤ 140737488355328) (w : World) (hI : InTxts w pS lS zs) :
    Calls Tryz.prog 3 #[.agg #[.slice pS lS cS, .slice pN lN cN]] w fun e w' => e = .returned (.bool true) ∧ Below w.heap.size w w' := by
  have cWk := wakes_any
  have cZ := fun w => words_any zerosB (by rw [zeros_size]; decide) w
  unfold WordsPost at cZ
  rw [zeros_tell] at cZ
  dsimp only at cZ
  have hmk := run_make2001
  have hcv := run_string2001
  have cM := fun n w => num_any n w
  have cHv := fun w h => heavy_any pS pN lS cS lN cN zs hlS hlN w h
  have hX0 := At.new w #[.slice pS lS cS, .slice pN lN cN] 25
  have hb0 : Below w.heap.size w (w.alloc (.cells #[.slice pS lS cS, .slice pN lN cN] 25)) := (Below.refl _ _).alloc (Nat.le_refl _) _
  have hI0 := hI.below hb0
  have c0 := hX0.cell 0 rfl
  have c1 := hX0.cell 1 rfl
  have HX0 := Lib.hid hX0
  have HB0 := Lib.hid hb0
  have HI0 := Lib.hid hI0
  have HI := Lib.hid hI
  clear hX0 hb0 hI0 hI hmk hcv
  go_enter Tryz.func3, Tryz.ntmps3
  go_wp2_with fail
  refine (cHv _ HI0.out).mono ?_
  rintro e w2 ⟨hv, rfl, hall, hb2⟩
  have hXh := At.below' hb2 HX0.out
  have hbh := HB0.out.trans (hb2.mono HB0.out.size)
  have hIh := HI0.out.below hb2
  have HALL := Lib.hid hall
  clear HX0 HB0 HI0 c0 c1 hall hb2 cHv
  cases hv
  case true =>
    clear cZ cWk cM
    go_wp2_with fail
    go_ret
    exact ⟨rfl, hbh⟩
  obtain ⟨hl7, hs7⟩ := HALL.out rfl
  have HXH := Lib.hid hXh
  have HBH := Lib.hid hbh
  clear HALL hXh hbh hIh
  go_wp2_with fail
  go_loopw [3] (fun v wr => ∃ i : Nat, i ≤ lS ∧ v = .int .i64 (i : Nat) ∧ At wr w.heap.size #[.slice pS lS cS, .slice pN lN cN] 25 ∧ Below w.heap.size w wr) (fun v _ => lS - (intOf v).toNat)
  case atStart => exact ⟨0, Nat.zero_le _, rfl, HXH.out, HBH.out⟩
  case round =>
    clear HXH HBH
    obtain ⟨i, hi, rfl, hX, hb⟩ := hrel
    have x0 : wr.cell? ⟨w.heap.size, 0, none⟩ = some (.slice pS lS cS) := hX.cell 0 rfl
    by_cases hin : i < lS ∧ i < 8
    · obtain ⟨hlt, hlt8⟩ := hin
      have u1 : decide ((i : Int) < (lS : Int)) = true := by simp; omega
      have u2 : decide ((i : Int) < 8) = true := by simp; omega
      have hIr := HI.out.below hb
      obtain ⟨b, off, rfl, hbb, hcell⟩ := hIr.2.2 (by omega)
      have ci := hcell i hlt
      have hsz := hs7 i
      clear hcell hIr
      generalize zs.getD i bz = x at *
      have cW := fun w => words_any x (by unfold maxLen; omega) w
      have cR := fun w => rWords_any x (by omega) w
      have cN := fun w => number_any x (by omega) w
      have cRN := fun w => rNumber_any x (by omega) w
      have cK := fun w => keyword_any x w
      have cRK := fun w => rKeyword_any x w
      have hTl := tellW_len x.data.toList
      unfold WordsPost at cW
      unfold RWordsPost at cR
      unfold NumPost at cN
      unfold RNumPost at cRN
      generalize tellW x.data.toList = tw at *
      generalize numV x.data.toList = nv at *
      generalize kwB x.data.toList = kb at *
      obtain ⟨nb, hnb⟩ : ∃ nb, nb = numB x.data.toList := ⟨_, rfl⟩
      rw [← hnb] at cN cRN
      obtain ⟨en, hen⟩ : ∃ en : Int, en = if nb then 0 else 1 := ⟨_, rfl⟩
      rw [← hen] at cN
      have HEN := Lib.hid hen
      clear hnb cWk hen cZ
      obtain ⟨T, at0, er⟩ := tw
      dsimp only at cW cR hTl
      go_wp2_with fail
      refine (cW _).mono ?_
      rintro e w2 ⟨fd, rfl, hR2, hb2⟩
      have c2 := cell_below ci hb2
      have y2 := cell_below x0 hb2
      have k2 := hR2.toks (by omega)
      go_wp2_with fail
      refine (cR _).mono ?_
      rintro e w3 ⟨fd2, rfl, hR3, hb3⟩
      have c3 := cell_below c2 hb3
      have y3 := cell_below y2 hb3
      have k3 := k2.below hb3
      have l3 := hR3.toks (by omega)
      go_wp2_with fail
      refine (cN _).mono ?_
      rintro e w4 ⟨rfl, hb4⟩
      have c4 := cell_below c3 hb4
      have y4 := cell_below y3 hb4
      have k4 := k3.below hb4
      have l4 := l3.below hb4
      go_wp2_with fail
      refine (cRN _).mono ?_
      rintro e w5 ⟨rfl, hb5⟩
      have c5 := cell_below c4 hb5
      have y5 := cell_below y4 hb5
      have k5 := k4.below hb5
      have l5 := l4.below hb5
      have bT : Below wr.heap.size wr w5 := (hb2.trans (hb3.mono hb2.size)).trans ((hb4.trans (hb5.mono hb4.size)).mono (Nat.le_trans hb2.size hb3.size))
      have hX5 := At.below' bT hX
      have b5 := hb.trans (bT.mono hb.size)
      clear cW cR cN cRN c2 c3 c4 y2 y3 y4 k2 k3 k4 l3 l4 hR2 hR3 hb2 hb3 hb4 hb5 hX hb ci x0 bT
      have cE := fun p : BelowBy w5 => eqToks_same fd fd2 T p.world (k5.below p.below) (l5.below p.below)
      have cC := fun p : BelowBy w5 => p.cell c5
      have cY := fun p : BelowBy w5 => p.cell y5
      go_upto_region 10 with (fail)
      go_cut [119] from 69 to 119 (fun v119 wx => v119 = .bool false ∧ Below w5.heap.size w5 wx)
      case first =>
        clear hX5 b5 k5 l5
        cases nb
        all_goals
          obtain rfl := HEN.out
          clear HEN
          refine wp_region_quiet_below (by kernel_rfl) (by kernel_rfl) ?_
          repeat (go_big_quiet_step ((first | (go_at_call 11; (with_reducible exact Calls.below_same (cM _ _))) | (go_at_call 12; (with_reducible exact Calls.below_of (cE _))) | (go_at_call 13; (with_reducible exact Calls.below_same (cK _))) | (go_at_call 14; (with_reducible exact Calls.below_of (cRK _))))))
          refine wpQuiet_nil ?_
          intro wx hw'
          obtain ⟨⟨wx', hbx⟩, hw''⟩ := hw'
          subst hw''
          go_wp2_with fail
          go_meet
          exact ⟨by simp, hbx⟩
      case rest =>
      obtain ⟨rfl, hb6⟩ := hcut
      have hX6 := At.below' hb6 hX5
      have b6 := b5.trans (hb6.mono b5.size)
      have l6 := l5.below hb6
      have HX6 := Lib.hid hX6
      have HB6 := Lib.hid b6
      have HL6 := Lib.hid l6
      obtain ⟨q, cap, rfl, hT6, hcl⟩ := l6
      have HCL := Lib.hid hcl
      have HTT := Lib.hid (rfl : T.length = T.length)
      obtain ⟨n, hn⟩ : ∃ n, n = T.length := ⟨_, rfl⟩
      rw [← hn] at HCL hT6 ⊢
      have HNT := Lib.hid hn
      clear hX5 b5 k5 l5 hb6 cE cC cY c5 y5 cM cK cRK hX6 b6 hcl hn HTT hTl
      obtain ⟨wo, rfl⟩ : ∃ wo : World, wo = wr := ⟨_, rfl⟩
      go_wp2_with fail
      go_loopw [14] (fun v wz => ∃ k : Nat, k ≤ n ∧ v = .int .i64 (k : Nat) ∧ Below wc.heap.size wc wz) (fun v _ => n - (intOf v).toNat)
      case atStart => exact ⟨0, Nat.zero_le _, rfl, Below.refl _ _⟩
      case round =>
        obtain ⟨k, hk, rfl, hbz⟩ := hrel
        by_cases hk1 : k < n
        · have v1 : decide ((k : Int) < (n : Int)) = true := by simp; omega
          by_cases hk2 : k < 30
          · have v2 : decide ((k : Int) < 30) = true := by simp; omega
            obtain ⟨g, rfl, hg, hcap, hcell⟩ := HCL.out (by omega)
            have ck := cell_below (hcell k hk1).1 hbz
            clear HCL hcell
            generalize (⟨(T.getD k tk0).1.toArray⟩ : ByteArray) = y at *
            have cKy := fun w => keyword_any y w
            have cRKy := fun w => rKeyword_any y w
            generalize kwB y.data.toList = ky at *
            have cCk := fun p : BelowBy wr => p.cell ck
            have hj3 : (k : Int) < (n : Int) := by omega
            have hHCL := HL6.out
            have HQ := Lib.hid hHCL
            clear hHCL
            go_upto_region 15 with (fail)
            go_cut [142] from 130 to 142 (fun v142 wx => v142 = .bool false ∧ Below wr.heap.size wr wx)
            case first =>
              refine wp_region_quiet_below (by kernel_rfl) (by kernel_rfl) ?_
              repeat (go_big_quiet_step ((first | (go_at_call 13; (with_reducible exact Calls.below_same (cKy _))) | (go_at_call 14; (with_reducible exact Calls.below_of (cRKy _))))))
              refine wpQuiet_nil ?_
              intro wx hw'
              obtain ⟨⟨wx', hbx⟩, hw''⟩ := hw'
              subst hw''
              go_wp2_with fail
              go_meet
              exact ⟨by simp, hbx⟩
            case rest =>
            obtain ⟨rfl, hb7⟩ := hcut
            have b7 := hbz.trans (hb7.mono hbz.size)
            clear cCk cKy cRKy ck hb7
            go_wp2_with fail
            go_roundw
            case rel => exact ⟨k + 1, by omega, by go_num, b7⟩
            case measure => simp [intOf]; omega
          · have v2 : decide ((k : Int) < 30) = false := by simp; omega
            clear HCL
            have hXz := At.below' hbz HX6.out
            have bz := HB6.out.trans (hbz.mono HB6.out.size)
            go_wp2_with fail
            go_roundw
            case rel => exact ⟨i + 1, by omega, by go_num, hXz, bz⟩
            case measure => simp [intOf]; omega
        · have v1 : decide ((k : Int) < (n : Int)) = false := by simp; omega
          clear HCL
          have hXz := At.below' hbz HX6.out
          have bz := HB6.out.trans (hbz.mono HB6.out.size)
          go_wp2_with fail
          go_roundw
          case rel => exact ⟨i + 1, by omega, by go_num, hXz, bz⟩
          case measure => simp [intOf]; omega
    · by_cases hlt : i < lS
      · have u1 : decide ((i : Int) < (lS : Int)) = true := by simp; omega
        have u2 : decide ((i : Int) < 8) = false := by simp; omega
        have hmk := run_make2001
        have hcv := run_string2001
        go_wp2_with fail
        refine (cZ _).mono ?_
        rintro e w2 ⟨fd, rfl, _, hb2⟩
        clear hX x0
        have b2 := (hb.trans ((mkW_below wr).mono hb.size)).trans (hb2.mono (Nat.le_trans hb.size (mkW_below wr).size))
        clear hmk hcv cZ hb2
        go_wp2_with (go_at_call 11; (with_reducible refine (cM _ _).mono ?_); rintro e w' ⟨rfl, rfl⟩)
        refine (cWk _).mono ?_
        rintro e w3 ⟨rfl, hb3⟩
        have b3 := b2.trans (hb3.mono b2.size)
        go_wp2_with fail
        go_ret
        exact ⟨rfl, b3⟩
      · have u1 : decide ((i : Int) < (lS : Int)) = false := by simp; omega
        have hmk := run_make2001
        have hcv := run_string2001
        go_wp2_with fail
        refine (cZ _).mono ?_
        rintro e w2 ⟨fd, rfl, _, hb2⟩
        clear hX x0
        have b2 := (hb.trans ((mkW_below wr).mono hb.size)).trans (hb2.mono (Nat.le_trans hb.size (mkW_below wr).size))
        clear hmk hcv cZ hb2
        go_wp2_with (go_at_call 11; (with_reducible refine (cM _ _).mono ?_); rintro e w' ⟨rfl, rfl⟩)
        refine (cWk _).mono ?_
        rintro e w3 ⟨rfl, hb3⟩
        have b3 := b2.trans (hb3.mono b2.size)
        go_wp2_with fail
        go_ret
        exact ⟨rfl, b3⟩
end Go.Proofs.YtkpiaenpjnajiaaGreatDoor
