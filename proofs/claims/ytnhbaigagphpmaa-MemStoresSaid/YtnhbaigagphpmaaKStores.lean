/- MemStores: its second loop: the pointers. -/
import Derived.Test.YtnhbaigagphpmaaKS3
import Derived.Test.YtnhbaigagphpmaaKWeigh
namespace Go.Proofs.Ytnhbaigagphpmaa
open Go.ChangeShapes Go.WideShapes Go.ChangeAt Go.RowKit Go.Joins Go.Deep
set_option linter.unusedVariables false

def Fr2 (t : Array Value) (v1 v3 v4 v5 v6 v7 : Value) : Prop := t.size = 180 ∧ sl t 1 = v1 ∧ sl t 3 = v3 ∧ sl t 4 = v4 ∧ sl t 5 = v5 ∧ sl t 6 = v6 ∧ sl t 7 = v7
def RelS2 (B i gp np capp ga ma capa : Nat) (bm om lm cm mc l ci ls cs : Nat) (mq qi ps : Option Addr) (mm mi : List BK) (fa : List (Bool × Int)) (Lp ss : List SC) (w0 : World) (nn : Nat) (a : Act) (wr : World) : Prop :=
  ∃ t k z, a = ⟨t, []⟩ ∧ Fr2 t (.pointer (some ⟨B, 0, none⟩)) (.slice (some ⟨ga, 0, none⟩) ma capa) (.int .i64 (i : Nat)) (.slice qi l ci) (.bool (mayM mi)) (.slice (some ⟨gp, 0, none⟩) np capp) ∧ sl t 8 = .int .i64 z ∧ z = (k : Nat) ∧ k + nn = np ∧ Below w0.heap.size w0 wr
set_option maxRecDepth 1000000 in
set_option maxHeartbeats 12800000 in
theorem sloop2 (B i gp np capp ga ma capa : Nat) (bm om lm cm mc l ci ls cs : Nat) (mq qi ps : Option Addr) (mm mi : List BK) (fa : List (Bool × Int)) (Lp ss : List SC) (w0 : World) (hi : i < lm) (hnp : np ≤ 25) (hls : ls ≤ 700) (hma : 4 ≤ ma ∧ ma ≤ 6) (hdat : datM mi = datM mm) (hD : StD3 w0 B bm om lm cm i mq mc l mm qi mi gp np Lp ga ma fa ps ls cs ss)
    (t : Array Value) (hF : Fr2 t (.pointer (some ⟨B, 0, none⟩)) (.slice (some ⟨ga, 0, none⟩) ma capa) (.int .i64 (i : Nat)) (.slice qi l ci) (.bool (mayM mi)) (.slice (some ⟨gp, 0, none⟩) np capp)) (fc : sl t 8 = .int .i64 0) (Q : Exit → Act → World → Prop)
    (hQ : ∀ t w', Fr2 t (.pointer (some ⟨B, 0, none⟩)) (.slice (some ⟨ga, 0, none⟩) ma capa) (.int .i64 (i : Nat)) (.slice qi l ci) (.bool (mayM mi)) (.slice (some ⟨gp, 0, none⟩) np capp) → Below w0.heap.size w0 w' → Q (.exit 2) ⟨t, []⟩ w') :
    (Code.loop sBody2).wp Try.prog (NoPanic Q) ⟨t, []⟩ w0 := by
  refine wp_loop_ghost_k (RelS2 B i gp np capp ga ma capa bm om lm cm mc l ci ls cs mq qi ps mm mi fa Lp ss w0) np ⟨t, 0, 0, rfl, hF, fc, rfl, by omega, Below.refl _ _⟩ ?_
  clear hF fc
  intro nn a wr hrel iK iJv hJ hK
  clear t
  obtain ⟨t, k, z, rfl, ⟨f0, f1, f3, f4, f5, f6, f7⟩, fc, rfl, hjn, hbd⟩ := hrel
  rw [open_180 t f0]
  simp only [f1, f3, f4, f5, f6, f7, fc]
  clear f0 f1 f3 f4 f5 f6 f7 fc
  conv => arg 2; whnf
  by_cases hkn : k < np
  · have hk3 : (k : Int) < (np : Int) := by omega
    have hD2 := hD.below hbd
    have HBD := Lib.hid hbd
    have HD := Lib.hid hD2
    have HDT := Lib.hid hdat
    clear hD hD2 hbd hQ hdat
    go_wp2_with fail
    refine noPanic_mono (sloop3 B i gp np capp k ga ma capa bm om lm cm mc l ci ls cs mq qi ps mm mi fa Lp ss wr hi hkn hnp hls hma HDT.out HD.out _ ⟨rfl, rfl, rfl, rfl, rfl, rfl, rfl, rfl⟩ rfl _ ?_)
    intro t2 wB hF hbB
    obtain ⟨f0, f1, f3, f4, f5, f6, f7, f8⟩ := hF
    rw [open_180 t2 f0]
    simp only [f1, f3, f4, f5, f6, f7, f8]
    clear f0 f1 f3 f4 f5 f6 f7 f8
    have b9 := HBD.out.trans (hbB.mono HBD.out.size)
    clear hbB HBD HD
    go_wp2_with fail
    refine Handed.intro (nn - 1) (by omega) (hJ _ _ _ ⟨_, k + 1, _, rfl, ⟨rfl, rfl, rfl, rfl, rfl, rfl, rfl⟩, rfl, (by go_num), by omega, b9⟩)
  · have t7 : decide ((k : Int) < (np : Int)) = false := by simp; omega
    clear hJ hD
    go_wp2_with fail
    exact hQ _ _ ⟨rfl, rfl, rfl, rfl, rfl, rfl, rfl⟩ hbd
end Go.Proofs.Ytnhbaigagphpmaa

/- MemStores: its first loop: the memories. -/
namespace Go.Proofs.Ytnhbaigagphpmaa
open Go.ChangeShapes Go.WideShapes Go.ChangeAt Go.RowKit Go.Joins Go.Deep
set_option linter.unusedVariables false

def Fr1 (t : Array Value) (v1 v3 : Value) : Prop := t.size = 180 ∧ sl t 1 = v1 ∧ sl t 3 = v3
def RelS1 (B ga ma capa : Nat) (w0 : World) (nn : Nat) (a : Act) (wr : World) : Prop :=
  ∃ t i z, a = ⟨t, []⟩ ∧ Fr1 t (.pointer (some ⟨B, 0, none⟩)) (.slice (some ⟨ga, 0, none⟩) ma capa) ∧ sl t 4 = .int .i64 z ∧ z = (i : Nat) ∧ i + nn = 5 ∧ Below w0.heap.size w0 wr
set_option maxRecDepth 1000000 in
set_option maxHeartbeats 6400000 in
theorem sloop1 (B ga ma capa : Nat) (fa : List (Bool × Int)) (pm ps pn pa : Option Addr) (lm cm ls cs ln cn la ca : Nat) (ms : List MM) (ss : List SC) (w0 : World) (hma : 4 ≤ ma ∧ ma ≤ 6) (hls : ls ≤ 700) (hln : ln ≤ 700) (hM : MachAt w0 ga ma fa) (hin : InMems w0 pm lm ms) (hle : ∀ i, i < lm → LeMem 700 (ms.getD i default)) (hss : InScs w0 ps ls cs ss) (dK : At w0 B #[.slice pm lm cm, .slice ps ls cs, .slice pn ln cn, .slice pa la ca] 51)
    (t : Array Value) (hF : Fr1 t (.pointer (some ⟨B, 0, none⟩)) (.slice (some ⟨ga, 0, none⟩) ma capa)) (fc : sl t 4 = .int .i64 0) (Q : Exit → Act → World → Prop)
    (hQ : ∀ t w', Fr1 t (.pointer (some ⟨B, 0, none⟩)) (.slice (some ⟨ga, 0, none⟩) ma capa) → Below w0.heap.size w0 w' → Q (.exit 0) ⟨t, []⟩ w') :
    (Code.loop sBody1).wp Try.prog (NoPanic Q) ⟨t, []⟩ w0 := by
  refine wp_loop_ghost_k (RelS1 B ga ma capa w0) 5 ⟨t, 0, 0, rfl, hF, fc, rfl, by omega, Below.refl _ _⟩ ?_
  clear hF fc
  intro nn a wr hrel iK iJv hJ hK
  clear t
  obtain ⟨t, i, z, rfl, ⟨f0, f1, f3⟩, fc, rfl, hin5, hbd⟩ := hrel
  rw [open_180 t f0]
  simp only [f1, f3, fc]
  clear f0 f1 f3 fc
  conv => arg 2; whnf
  have k0 : wr.cell? ⟨B, 0, none⟩ = some (.slice pm lm cm) := (At.below' hbd dK).cell 0 rfl
  go_upto_region 5 with (fail)
  go_cut [32] from 24 to 31 (fun v wx => ∃ c : Bool, v = .bool c ∧ (c = true ↔ (i < lm ∧ i < 5)) ∧ wx = wr)
  case first =>
    clear hJ hK hQ hin hle hss dK hbd hM
    by_cases h1 : i < lm
    · have t1 : (i : Int) < (lm : Int) := by omega
      by_cases h2 : i < 5
      · have t2 : (i : Int) < 5 := by omega
        go_wp2_with fail
        go_meet
        case rel => exact ⟨true, rfl, by simp [h1, h2], rfl⟩
      · have t2 : decide ((i : Int) < 5) = false := by simp; omega
        go_wp2_with fail
        go_meet
        case rel => exact ⟨false, rfl, by simp [h2], rfl⟩
    · have t1 : decide ((i : Int) < (lm : Int)) = false := by simp; omega
      go_wp2_with fail
      go_meet
      case rel => exact ⟨false, rfl, by simp [h1], rfl⟩
  case rest =>
    obtain ⟨c, rfl, hc, hw⟩ := hcut
    rw [hw] at *
    clear hw
    cases c
    · clear hJ hc hin hle hss dK k0 hM
      go_wp2_with fail
      exact hQ _ _ ⟨rfl, rfl, rfl⟩ hbd
    · obtain ⟨hlt1, hlt2⟩ := hc.1 rfl
      have hi3 : (i : Int) < (lm : Int) := by omega
      obtain ⟨bm, om, rfl, hbm, hcm⟩ := hin.2 (by omega)
      obtain ⟨z0, hmem⟩ := hcm i hlt1
      have z1 := cell_below z0 hbd
      have hmemL := hle i hlt1
      have hisM := (hmem.below hbd).isMem (hmemL.mono (by omega))
      have HDK := Lib.hid (At.below' hbd dK)
      have HS := Lib.hid (hss.below hbd)
      have HB := Lib.hid hbd
      have HMA := Lib.hid (hM.below hbd)
      clear hin hss hcm z0 hmem hmemL hle hQ hc dK hbd hM
      generalize ms.getD i default = mi at *
      obtain ⟨mq, mc, mm⟩ := mi
      dsimp only at z1 hisM
      have HI := Lib.hid hisM
      clear hisM
      generalize hLM : mm.length = l at *
      have HLM := Lib.hid hLM
      clear hLM
      go_wp2_with fail
      refine (copyBlocks_any mq l mc mm wr HI.out).mono ?_
      rintro e w4 ⟨qi, ci, x, rfl, hx, hdat, hcp, hbS⟩
      have HX := Lib.hid hx
      have HDAT := Lib.hid hdat
      replace HDK := Lib.hid (At.below' hbS HDK.out)
      replace HI := Lib.hid (HI.out.below hbS)
      replace HS := Lib.hid (HS.out.below hbS)
      replace HMA := Lib.hid (HMA.out.below hbS)
      replace HB := Lib.hid (HB.out.trans (hbS.mono HB.out.size))
      replace z1 := cell_below z1 hbS
      replace k0 := cell_below k0 hbS
      clear hx hdat hcp hbS
      go_wp2_with fail
      refine (rMem_any mq l mc mm w4 HI.out).mono ?_
      rintro e w5 ⟨rfl, hbS⟩
      replace HDK := Lib.hid (At.below' hbS HDK.out)
      replace HI := Lib.hid (HI.out.below hbS)
      replace HX := Lib.hid (HX.out.below hbS)
      replace HS := Lib.hid (HS.out.below hbS)
      replace HMA := Lib.hid (HMA.out.below hbS)
      replace HB := Lib.hid (HB.out.trans (hbS.mono HB.out.size))
      replace z1 := cell_below z1 hbS
      clear hbS k0
      rw [← mayM_dat HDAT.out]
      have dk0 := HDK.out.cell 0 rfl
      have dk1 := HDK.out.cell 1 rfl
      have dk2 := HDK.out.cell 2 rfl
      have dk3 := HDK.out.cell 3 rfl
      go_wp2_with fail
      refine (pointers9_any (some ⟨bm, om, none⟩) ps pn pa lm cm ls cs ln cn la ca ss hls hln qi l ci x w5 HS.out HX.out).mono ?_
      rintro e w7 ⟨gp, np, capp, Lp, rfl, hn2, hn25, hgp, hrow, hbS⟩
      have hD3 : StD3 w7 B bm om lm cm i mq mc l mm qi x gp np Lp ga ma fa ps ls cs ss := ⟨cell_below dk0 hbS, cell_below dk1 hbS, cell_below z1 hbS, HI.out.below hbS, HX.out.below hbS, hrow, HMA.out.below hbS, HS.out.below hbS⟩
      have H3 := Lib.hid hD3
      replace HB := Lib.hid (HB.out.trans (hbS.mono HB.out.size))
      clear hD3 hrow hbS dk0 dk1 dk2 dk3 z1 HDK HI HX HS HMA
      go_wp2_with fail
      refine noPanic_mono (sloop2 B i gp np capp ga ma capa bm om lm cm mc l ci ls cs mq qi ps mm x fa Lp ss w7 hlt1 hn25 hls hma HDAT.out H3.out _ ⟨rfl, rfl, rfl, rfl, rfl, rfl, rfl⟩ rfl _ ?_)
      intro t2 wB hF hbB
      obtain ⟨f0, f1, f3, f4, f5, f6, f7⟩ := hF
      rw [open_180 t2 f0]
      simp only [f1, f3, f4, f5, f6, f7]
      clear f0 f1 f3 f4 f5 f6 f7
      have b9 := HB.out.trans (hbB.mono HB.out.size)
      clear hbB HB H3
      go_wp2_with fail
      refine Handed.intro (nn - 1) (by omega) (hJ _ _ _ ⟨_, i + 1, _, rfl, ⟨rfl, rfl, rfl⟩, rfl, (by go_num), by omega, b9⟩)
end Go.Proofs.Ytnhbaigagphpmaa

/- MemStores: its walk. -/
namespace Go.Proofs.Ytnhbaigagphpmaa
open Go.ChangeShapes Go.WideShapes Go.ChangeAt Go.RowKit Go.Joins Go.Deep
set_option linter.unusedVariables false

set_option maxRecDepth 100000 in
set_option maxHeartbeats 12800000 in
theorem stores_any (pm ps pn pa : Option Addr) (lm cm ls cs ln cn la ca : Nat) (ms : List MM) (ss : List SC) (xa : List (Bool × Int)) (h2 : ls ≤ 140737488355328) (h3 : ln ≤ 140737488355328) (h4 : la ≤ 140737488355328) (h5 : lm ≤ 140737488355328) (w : World) (hin : InMems w pm lm ms) (hle : ∀ i, i < lm → LeMem 140737488355328 (ms.getD i default)) (hss : InScs w ps ls cs ss) (hxa : IsAbis w pa la ca xa) :
    Calls Try.prog 4 #[.agg #[.slice pm lm cm, .slice ps ls cs, .slice pn ln cn, .slice pa la ca]] w fun e w' => e = .returned (.bool true) ∧ Below w.heap.size w w' := by
  have dK := At.new w #[.slice pm lm cm, .slice ps ls cs, .slice pn ln cn, .slice pa la ca] 51
  have hb0 := below_box1 w (.cells #[.slice pm lm cm, .slice ps ls cs, .slice pn ln cn, .slice pa la ca] 51)
  have cH := fun w hin => heavy9_any pm ps pn pa lm cm ls cs ln cn la ca ms h2 h3 h4 h5 w hin hle
  have cW := fun w => wakes9_any w
  have HIN := Lib.hid hin
  have HSS := Lib.hid hss
  have HXA := Lib.hid hxa
  clear hin hss hle hxa
  go_enter Try.func4, Try.ntmps4
  go_wp2_with fail
  refine (cH _ (HIN.out.below hb0)).mono ?_
  rintro e w1 ⟨hv, rfl, hlight, hb1⟩
  replace dK := At.below' hb1 dK
  replace hb0 := hb0.trans (hb1.mono hb0.size)
  clear hb1 cH h2 h3 h4 h5
  cases hv
  · have h7 := hlight rfl
    have HL7 := Lib.hid h7.2
    have hls : ls ≤ 700 := by omega
    have hln : ln ≤ 700 := by omega
    have k3 : w1.cell? ⟨w.heap.size, 3, none⟩ = some (.slice pa la ca) := dK.cell 3 rfl
    have hcM := machines7_any pa la ca xa (by omega) w1 (HXA.out.below hb0)
    clear hlight h7
    go_wp2_with fail
    refine hcM.mono ?_
    rintro e w2 ⟨ga, ma, capa, fa, rfl, hm4, hm6, hgge, hM, hb1⟩
    replace dK := At.below' hb1 dK
    replace hb0 := hb0.trans (hb1.mono hb0.size)
    have HMa := Lib.hid hM
    clear hb1 k3 hcM hM
    have hin2 := HIN.out.below hb0
    have hss2 := HSS.out.below hb0
    go_wp2_with fail
    refine noPanic_mono (sloop1 w.heap.size ga ma capa fa pm ps pn pa lm cm ls cs ln cn la ca ms ss w2 ⟨hm4, hm6⟩ hls hln HMa.out hin2 HL7.out hss2 dK _ ⟨rfl, rfl, rfl⟩ rfl _ ?_)
    intro t2 w5 hF hb5
    obtain ⟨f0, f1, f3⟩ := hF
    rw [open_180 t2 f0]
    have b5 := hb0.trans (hb5.mono hb0.size)
    clear f0 f1 f3 hb0 hb5 hin2 hss2 dK
    go_wp2_with fail
    refine (cW _).mono ?_
    rintro e w6 ⟨rfl, hb6⟩
    go_wp2_with fail
    go_ret
    exact ⟨rfl, b5.trans (hb6.mono b5.size)⟩
  · have h := hlight
    clear h
    go_wp2
    go_ret
    exact ⟨rfl, hb0⟩
end Go.Proofs.Ytnhbaigagphpmaa
