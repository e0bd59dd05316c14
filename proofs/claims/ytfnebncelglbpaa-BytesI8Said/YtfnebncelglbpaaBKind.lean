/- The statements of one kind's scalars: their walk. -/
import Derived.Test.YtfnebncelglbpaaBLaw
import Derived.Deep.Cut
import Derived.Deep.CutRange
import Derived.Deep.CutBlock
import Derived.Deep.RegionHeld3
namespace Go.Proofs.Ytfnebncelglbpaa
open Go.ChangeShapes Go.WideShapes Go.ChangeAt Go.RowKit Go.Joins Go.Deep
set_option linter.unusedVariables false

theorem sc_val (s : SC) : scV s = .agg #[.bool s.p, .int .i64 s.n, .int .i64 s.b, .int .i64 s.o] := rfl
def scC (s : SC) : Array Value := #[.bool s.p, .int .i64 s.n, .int .i64 s.b, .int .i64 s.o]
def RelQ (m : Nat) (w0 : World) (v : Value) (wr : World) : Prop := ∃ q : Nat, q ≤ m ∧ v = .int .i64 (q : Nat) ∧ Below w0.heap.size w0 wr
def pick5 (a b c d e : Int) (r : Nat) : Int := if r = 0 then a else if r = 1 then b else if r = 2 then c else if r = 3 then d else e
theorem pick5_at (a b c d e : Int) (r : Nat) (h : r < 5) : (#[.int .i64 a, .int .i64 b, .int .i64 c, .int .i64 d, .int .i64 e] : Array Value)[r]? = some (.int .i64 (pick5 a b c d e r)) := by
  have : r = 0 ∨ r = 1 ∨ r = 2 ∨ r = 3 ∨ r = 4 := by omega
  rcases this with rfl | rfl | rfl | rfl | rfl <;> rfl
theorem pick5_get (a b c d e : Int) (r : Nat) (h : r < ([.int .i64 a, .int .i64 b, .int .i64 c, .int .i64 d, .int .i64 e] : List Value).length) : ([.int .i64 a, .int .i64 b, .int .i64 c, .int .i64 d, .int .i64 e] : List Value)[r]'h = .int .i64 (pick5 a b c d e r) := by
  simp at h
  have : r = 0 ∨ r = 1 ∨ r = 2 ∨ r = 3 ∨ r = 4 := by omega
  rcases this with rfl | rfl | rfl | rfl | rfl <;> rfl
theorem mayS_wrap {k : Int} (hk : 1 ≤ k ∧ k ≤ 6) (n : Int) : mayS k ⟨false, wrapI n (widthI k), 0, 0⟩ = true := by
  have h := wrapI_isN (width_isW hk) n
  have h7 : k ≠ 7 := by omega
  have e : mayS k ⟨false, wrapI n (widthI k), 0, 0⟩ = mayN k ⟨false, wrapI n (widthI k), 0, 0⟩ := by simp [mayS, h7]
  rw [e, mayN_eq hk]
  have e2 : wrapI (wrapI n (widthI k)) (widthI k) = wrapI n (widthI k) := by
    unfold wrapI at h ⊢
    exact Int.emod_eq_of_lt h.1 h.2
  dsimp only
  rw [e2]
  exact eqS_refl _
theorem keepL {w w' wl : World} {p0 p1 p2 p3 p4 p5 : Addr} {v0 v1 v2 v3 v4 v5 : Value} {BL : Nat} {cs : Array Value} {t : TypeId} (h : w.cell? p0 = some v0 ∧ w.cell? p1 = some v1 ∧ w.cell? p2 = some v2 ∧ w.cell? p3 = some v3 ∧ w.cell? p4 = some v4 ∧ w.cell? p5 = some v5 ∧ At w BL cs t ∧ Below wl.heap.size wl w) (hb : Below w.heap.size w w') : w'.cell? p0 = some v0 ∧ w'.cell? p1 = some v1 ∧ w'.cell? p2 = some v2 ∧ w'.cell? p3 = some v3 ∧ w'.cell? p4 = some v4 ∧ w'.cell? p5 = some v5 ∧ At w' BL cs t ∧ Below wl.heap.size wl w' := by
  obtain ⟨h0, h1, h2, h3, h4, h5, h6, h7⟩ := h
  exact ⟨cell_below h0 hb, cell_below h1 hb, cell_below h2 hb, cell_below h3 hb, cell_below h4 hb, cell_below h5 hb, At.below' hb h6, h7.trans (hb.mono h7.size)⟩
theorem atL {w wl : World} {p0 p1 p2 p3 p4 p5 : Addr} {v0 v1 v2 v3 v4 v5 : Value} {BL : Nat} {cs : Array Value} {t : TypeId} (h : w.cell? p0 = some v0 ∧ w.cell? p1 = some v1 ∧ w.cell? p2 = some v2 ∧ w.cell? p3 = some v3 ∧ w.cell? p4 = some v4 ∧ w.cell? p5 = some v5 ∧ At w BL cs t ∧ Below wl.heap.size wl w) : At w BL cs t := h.2.2.2.2.2.2.1
theorem belL {w wl : World} {p0 p1 p2 p3 p4 p5 : Addr} {v0 v1 v2 v3 v4 v5 : Value} {BL : Nat} {cs : Array Value} {t : TypeId} (h : w.cell? p0 = some v0 ∧ w.cell? p1 = some v1 ∧ w.cell? p2 = some v2 ∧ w.cell? p3 = some v3 ∧ w.cell? p4 = some v4 ∧ w.cell? p5 = some v5 ∧ At w BL cs t ∧ Below wl.heap.size wl w) : Below wl.heap.size wl w := h.2.2.2.2.2.2.2
/-- a scalar that may be lies there -/
def ScAt (k : Int) (SB : Nat) (w0 wx : World) : Prop := ∃ s : SC, mayS k s = true ∧ At wx SB (scC s) 30 ∧ Below w0.heap.size w0 wx

set_option maxRecDepth 100000 in
set_option maxHeartbeats 12800000 in
theorem kind_any (k : Int) (hk : 1 ≤ k ∧ k ≤ 7) (pa ps pb : Option Addr) (la ca ls cs lb cb : Nat) (xa : List (Bool × Int)) (ha : la ≤ 140737488355328) (hs : ls ≤ 140737488355328) (hb : lb ≤ 140737488355328) (w : World) (hxa : IsAbis w pa la ca xa) :
    Calls Try.prog 33 #[.agg #[.slice pa la ca, .slice ps ls cs, .slice pb lb cb], .int .i64 k] w fun e w' => e = .returned (.bool true) ∧ Below w.heap.size w w' := by
  have dK := At.new w #[.slice pa la ca, .slice ps ls cs, .slice pb lb cb] 26
  have hb0 := below_box1 w (.cells #[.slice pa la ca, .slice ps ls cs, .slice pb lb cb] 26)
  have cH := fun w => heavy_any pa ps pb la ca ls cs lb cb ha hs hb w
  have cW := fun w => wakes_any w
  have HX := Lib.hid hxa
  have HK := Lib.hid hk
  clear hxa hk ha hs hb
  go_enter Try.func33, Try.ntmps33
  go_wp2_with fail
  refine (cH _).mono ?_
  rintro e w1 ⟨hv, rfl, hle, hb1⟩
  replace dK := At.below' hb1 dK
  replace hb0 := hb0.trans (hb1.mono hb0.size)
  clear hb1 cH
  cases hv
  · have h300 := hle rfl
    have k0 : w1.cell? ⟨w.heap.size, 0, none⟩ = some (.slice pa la ca) := dK.cell 0 rfl
    clear hle
    go_wp2_with fail
    refine (machines_any pa la ca xa (by omega) _ (HX.out.below hb0)).mono ?_
    rintro e w2 ⟨g, m, cap, fa, rfl, hm4, hm6, hgge, hM, hb1⟩
    replace hb0 := hb0.trans (hb1.mono hb0.size)
    clear hb1 k0 dK
    go_wp2_with fail
    go_loopw [6] (fun v wr => RelQ m w2 v wr) (fun v _ => m - (intOf v).toNat)
    case atStart => exact ⟨0, by omega, rfl, Below.refl _ _⟩
    case round =>
      obtain ⟨q, hq, rfl, hbr⟩ := hrel
      by_cases hqm : q < m
      · have hMq := (hM.below hbr).2.2 q hqm
        generalize fa.getD q (false, 0) = mac at *
        obtain ⟨big, p⟩ := mac
        obtain ⟨m0, m1⟩ := hMq
        dsimp only at m0 m1
        have hq3 : (q : Int) < (m : Int) := by omega
        have cA := fun w => Abi_any big p w
        by_cases hp : mayA p
        · have hpp : (p == 2 || p == 4) = true := by rcases hp with rfl | rfl <;> rfl
          rw [hpp] at cA
          have HP := Lib.hid hp
          clear hpp hp
          go_wp2_with fail
          refine (cA _).mono ?_
          rintro e w3 ⟨rfl, hb3⟩
          have hbq := hbr.trans (hb3.mono hbr.size)
          have m0' := cell_below m0 hb3
          have m1' := cell_below m1 hb3
          clear m0 m1 hb3 hbr cA
          go_wp2_with fail
          go_loopw [7] (fun v wr => RelQ 20 w3 v wr) (fun v _ => 20 - (intOf v).toNat)
          case atStart => exact ⟨0, by omega, rfl, Below.refl _ _⟩
          case round =>
            obtain ⟨i, hi, rfl, hbr⟩ := hrel
            by_cases hi20 : i < 20
            · have hi3 : (i : Int) < 20 := by omega
              have dS := At.new wr (scC ⟨false, 0, 0, 0⟩) 30
              have hbS := hbr.alloc hbr.size (.cells (scC ⟨false, 0, 0, 0⟩) 30)
              have HSB : w3.heap.size ≤ wr.heap.size := hbr.size
              have hbr0 := hbr
              clear hbr
              have HBW := Lib.hid (fun o => Below.alloc (o := o) hbr0 hbr0.size)
              clear hbr0
              go_upto_if 42 with (fail)
              go_cut [] from 42 to 71 (fun wx => ScAt k wr.heap.size w3 wx)
              case first =>
                by_cases h7 : k = 7
                · subst h7
                  obtain ⟨r7, hr7⟩ : ∃ r7, r7 = i % 7 := ⟨_, rfl⟩
                  obtain ⟨o5, ho5⟩ : ∃ o5, o5 = i * 5 % 30 := ⟨_, rfl⟩
                  have h7 : (i : Int) % 7 = (r7 : Nat) := by omega
                  have h5 : (i : Int) * 5 % 30 = (o5 : Nat) := by omega
                  have hb7 : r7 ≤ 6 := by omega
                  have hb5 : o5 ≤ 29 := by omega
                  clear hr7 ho5
                  by_cases h0 : r7 = 0
                  · subst h0
                    have h8 : (i : Int) % 7 = 0 := h7
                    clear h7
                    go_wp2
                    go_meet
                    case rel => exact ⟨⟨true, 0, 0, 0⟩, by decide, At.new wr _ _, HBW.out _⟩
                  · have t0 : ((r7 : Int) == 0) = false := by rw [beq_eq_false_iff_ne]; omega
                    have hmay : Hid (mayS 7 ⟨true, 0, (r7 : Nat), (o5 : Nat)⟩ = true) := Lib.hid (by
                      have : mayS 7 ⟨true, 0, (r7 : Nat), (o5 : Nat)⟩ = mayP ⟨true, 0, (r7 : Nat), (o5 : Nat)⟩ := by simp [mayS]
                      rw [this, mayP_eq]
                      simp [upTo]; omega)
                    clear h0
                    go_wp2
                    go_meet
                    case rel => exact ⟨⟨true, 0, (r7 : Nat), (o5 : Nat)⟩, hmay.out, At.new wr _ _, HBW.out _⟩
                · have t7 : (k == 7) = false := by simpa using h7
                  have hk6 : 1 ≤ k ∧ k ≤ 6 := by have := HK.out; omega
                  have hW := width_isW hk6
                  have hmw := fun n => mayS_wrap hk6 n
                  have cWd := fun w => rWidth_any k w
                  have cWr := fun n w => flipC (rWrap_any n (widthI k) hW w)
                  have cWq := fun n w => rWrap_any n (widthI k) hW w
                  generalize widthI k = W at *
                  obtain ⟨r, hr⟩ : ∃ r, r = i % 5 := ⟨_, rfl⟩
                  have h5 : (i : Int) % 5 = (r : Nat) := by omega
                  have ht5 : (i : Int).tmod 5 = (r : Nat) := by rw [Int.tmod_eq_emod_of_nonneg (by omega)]; exact h5
                  have iwr : IntKind.i64.wrap (r : Nat) = (r : Nat) := by rw [IntKind.wrap_i64]; omega
                  have hr5 : r < 5 := by omega
                  have hr0 : (0 : Int) ≤ (r : Int) := by omega
                  have hr6 : (r : Int) < 5 := by omega
                  have hpk := fun a b c d e h => pick5_get a b c d e r h
                  have HMW := Lib.hid hmw
                  clear hmw h7 hr hk6
                  rcases hW with rfl | rfl | rfl
                  · have iw7 : IntKind.i64.wrap 7 = 7 := rfl
                    go_wp2_with fail
                    refine (cWd _).mono ?_
                    rintro e w5 ⟨rfl, rfl⟩
                    go_wp2_with fail
                    go_region_with ((go_at_call 48; (with_reducible refine (cWq _ _).mono ?_); rintro e w6 ⟨rfl, rfl⟩))
                    all_goals
                      go_wp2
                      go_meet
                      case rel => exact ⟨⟨false, _, 0, 0⟩, HMW.out _, ((At.new wr _ _).alloc _).drew, ((HBW.out _).alloc (by simp; omega) _).drew⟩
                  · have iw7 : IntKind.i64.wrap 15 = 15 := rfl
                    go_wp2_with fail
                    refine (cWd _).mono ?_
                    rintro e w5 ⟨rfl, rfl⟩
                    go_wp2_with fail
                    go_region_with ((go_at_call 48; (with_reducible refine (cWq _ _).mono ?_); rintro e w6 ⟨rfl, rfl⟩))
                    all_goals
                      go_wp2
                      go_meet
                      case rel => exact ⟨⟨false, _, 0, 0⟩, HMW.out _, ((At.new wr _ _).alloc _).drew, ((HBW.out _).alloc (by simp; omega) _).drew⟩
                  · have iw7 : IntKind.i64.wrap 31 = 31 := rfl
                    go_wp2_with fail
                    refine (cWd _).mono ?_
                    rintro e w5 ⟨rfl, rfl⟩
                    go_wp2_with fail
                    go_region_with ((go_at_call 48; (with_reducible refine (cWq _ _).mono ?_); rintro e w6 ⟨rfl, rfl⟩))
                    all_goals
                      go_wp2
                      go_meet
                      case rel => exact ⟨⟨false, _, 0, 0⟩, HMW.out _, ((At.new wr _ _).alloc _).drew, ((HBW.out _).alloc (by simp; omega) _).drew⟩
              case rest =>
                obtain ⟨s, hms, dS, hbc⟩ := hcut
                have hput := fun w => Put_any big p k HP.out s hms w
                have hrput := fun w => rPut_any big p k HP.out s hms w
                have hkk := mayS_kind hms
                have hn := siz_cases HP.out hkk
                have hgp := get_put (big := big) HP.out hms
                have hmp := mays_put (big := big) hn hms
                have hpl := putL_len big (sizN p k) s
                have HNE : Hid (sizN p k = sizN p k) := Lib.hid rfl
                obtain ⟨n, hnn⟩ : ∃ n, n = sizN p k := ⟨_, rfl⟩
                rw [← hnn] at hput hrput hn hgp hmp hpl
                have HNN := Lib.hid hnn.symm
                have HN := Lib.hid hn
                have HGP := Lib.hid hgp
                have HMP := Lib.hid hmp
                have HPL := Lib.hid hpl
                have HKK := Lib.hid hkk
                have hn1 : 1 ≤ n := by omega
                have hn4 : n ≤ 4 := by omega
                obtain ⟨sp, sn, sb, so⟩ := s
                unfold scV at hput hrput
                unfold scC at dS
                dsimp only at hput hrput dS
                generalize putL big n ⟨sp, sn, sb, so⟩ = xs at *
                have m0 := cell_below m0' hbc
                have m1 := cell_below m1' hbc
                have s0 : wc.cell? ⟨wr.heap.size, 0, none⟩ = some (.bool sp) := dS.cell 0 rfl
                have s1 : wc.cell? ⟨wr.heap.size, 1, none⟩ = some (.int .i64 sn) := dS.cell 1 rfl
                have s2 : wc.cell? ⟨wr.heap.size, 2, none⟩ = some (.int .i64 sb) := dS.cell 2 rfl
                have s3 : wc.cell? ⟨wr.heap.size, 3, none⟩ = some (.int .i64 so) := dS.cell 3 rfl
                have hSBl : wr.heap.size < wc.heap.size := dS.lt
                generalize wr.heap.size = SB at *
                have DS := Lib.hid dS
                clear hnn hn hgp hmp hpl hkk hms dS
                go_wp2_with fail
                go_cut [10, 11] from 72 to 81 (fun v10 v11 wx => ∃ B, v10 = .slice (some ⟨B, 0, none⟩) n n ∧ v11 = .int .i64 0 ∧ At wx B (byC xs) 45 ∧ Below wc.heap.size wc wx)
                case first =>
                  go_region_with ((go_at_call 18; (with_reducible refine (hput _).mono ?_); rintro e wp ⟨B, rfl, hge, hB, hbp⟩))
                  all_goals
                    go_wp2
                    go_meet
                    case rel => exact ⟨_, rfl, rfl, hB, (Below.refl _ _).drew.trans hbp⟩
                case rest =>
                  clear hput m0 m1 s0 s1 s2 s3
                  rename World => wl
                  obtain ⟨BL, rfl, rfl, dL, hbl⟩ := hcut
                  have hbl2 := hbc.trans (hbl.mono hbc.size)
                  replace DS := Lib.hid (At.below' hbl DS.out)
                  have m0 := cell_below m0' hbl2
                  have m1 := cell_below m1' hbl2
                  have s0 : wl.cell? ⟨SB, 0, none⟩ = some (.bool sp) := DS.out.cell 0 rfl
                  have s1 : wl.cell? ⟨SB, 1, none⟩ = some (.int .i64 sn) := DS.out.cell 1 rfl
                  have s2 : wl.cell? ⟨SB, 2, none⟩ = some (.int .i64 sb) := DS.out.cell 2 rfl
                  have s3 : wl.cell? ⟨SB, 3, none⟩ = some (.int .i64 so) := DS.out.cell 3 rfl
                  have DL := Lib.hid dL
                  have hnz : ((n : Int) == 0) = false := by rw [beq_eq_false_iff_ne]; omega
                  have hnz2 : (n == 0) = false := by simpa using (show n ≠ 0 by omega)
                  have cNum := fun x w => num_any x w
                  clear dL hbl hbc
                  go_wp2_with fail
                  go_cut [101] from 82 to 100 (fun v101 wx => v101 = .bool false ∧ Below wl.heap.size wl wx)
                  case first =>
                    have hSd : (fun w' => w'.cell? ⟨g, q * 2, none⟩ = some (.bool big) ∧ w'.cell? ⟨g, q * 2 + 1, none⟩ = some (.int .i64 p) ∧ w'.cell? ⟨SB, 0, none⟩ = some (.bool sp) ∧ w'.cell? ⟨SB, 1, none⟩ = some (.int .i64 sn) ∧ w'.cell? ⟨SB, 2, none⟩ = some (.int .i64 sb) ∧ w'.cell? ⟨SB, 3, none⟩ = some (.int .i64 so) ∧ At w' BL (byC xs) 45 ∧ Below wl.heap.size wl w') wl.drew := ⟨m0, m1, s0, s1, s2, s3, DL.out.drew, (Below.refl _ _).drew⟩
                    clear m0 m1 s0 s1 s2 s3
                    have heq : Hid (eqLY xs xs = true) := Lib.hid (eqLY_iff.2 rfl)
                    go_region_held3 (fun w' => w'.cell? ⟨g, q * 2, none⟩ = some (.bool big) ∧ w'.cell? ⟨g, q * 2 + 1, none⟩ = some (.int .i64 p) ∧ w'.cell? ⟨SB, 0, none⟩ = some (.bool sp) ∧ w'.cell? ⟨SB, 1, none⟩ = some (.int .i64 sn) ∧ w'.cell? ⟨SB, 2, none⟩ = some (.int .i64 sb) ∧ w'.cell? ⟨SB, 3, none⟩ = some (.int .i64 so) ∧ At w' BL (byC xs) 45 ∧ Below wl.heap.size wl w')
                      (first
                        | with_reducible exact hSd
                        | exact keepL (by assumption) hbp
                        | exact keepL (by assumption) hbe)
                      ((first
                      | (go_at_call 15; (with_reducible refine (cNum _ _).mono ?_); rintro e wn ⟨rfl, rfl⟩)
                      | (go_at_call 20; (with_reducible refine (hrput _).mono ?_); rintro e wp ⟨B2, rfl, hge, hB2, hbp⟩; have hwp := (belL (by assumption)).trans (hbp.mono (belL (by assumption)).size))
                      | (go_at_call 21; refine (EqBytes_any _ _ _ _ _ _ _ _ _ (bys_of_at (atL (by assumption)) HPL.out (by omega)) (bys_of_at hB2 HPL.out (by omega))).mono ?_; rintro e we ⟨rfl, hbe⟩; have hwe := hwp.trans (hbe.mono hwp.size); rw [heq.out])))
                    all_goals
                      go_wp2
                      go_meet
                      case rel => exact ⟨rfl, hwe⟩
                  case rest =>
                    rename World => w6
                    obtain ⟨rfl, hb6⟩ := hcut
                    have hbl6 := hbl2.trans (hb6.mono hbl2.size)
                    replace DS := Lib.hid (At.below' hb6 DS.out)
                    replace DL := Lib.hid (At.below' hb6 DL.out)
                    clear hb6 hbl2 m0 m1 s0 s1 s2 s3 hrput cNum
                    go_wp2_with fail
                    go_loopw [12] (fun v wr => RelQ 3 w6 v wr) (fun v _ => 3 - (intOf v).toNat)
                    case atStart => exact ⟨0, by omega, rfl, Below.refl _ _⟩
                    case round =>
                      obtain ⟨j, hj, rfl, hbj⟩ := hrel
                      by_cases hj3 : j < 3
                      · have hj4 : (j : Int) < 3 := by omega
                        have dLj := At.below' hbj DL.out
                        have DSj := Lib.hid (At.below' hbj DS.out)
                        have hb7 := hbl6.trans (hbj.mono hbl6.size)
                        have hsl := At.lt DSj.out
                        have hs7 := hb7.size
                        have hs6 := hbj.size
                        go_wp2_with fail
                        refine (CopyBytes_any _ n n xs _ (bys_of_at dLj HPL.out (by omega)) (by omega)).mono ?_
                        rintro e w7 ⟨BI, capI, rfl, hge, hBI, hbi⟩
                        replace hbj := hbj.trans (hbi.mono hbj.size)
                        replace hb7 := hb7.trans (hbi.mono hb7.size)
                        replace DSj := Lib.hid (At.below' hbi DSj.out)
                        have HBJ := Lib.hid hbj
                        have HB7 := Lib.hid hb7
                        have hlt1 : SB < BI := by omega
                        have hlt2 : w3.heap.size ≤ BI := by omega
                        have hlt3 : w6.heap.size ≤ BI := by omega
                        clear dLj hbi hge hbj hb7 hsl hs7 hs6
                        go_upto_block 6 with (fail)
                        go_cut [] from 109 to 134 (fun wx => ∃ ys : List BY, ys.length = n ∧ maysY ys = true ∧ (j = 0 → ys = xs) ∧ BRow wx BI ys ∧ Below BI w7 wx)
                        case first =>
                          obtain ⟨r, hr⟩ : ∃ r, r = i % n := ⟨_, rfl⟩
                          have hrn : r < n := by rw [hr]; exact Nat.mod_lt _ (by omega)
                          have hri : (i : Int) % (n : Int) = (r : Nat) := by rw [hr]; omega
                          have hrt : (i : Int).tmod (n : Int) = (r : Nat) := by rw [Int.tmod_eq_emod_of_nonneg (by omega)]; exact hri
                          have hrn2 : (r : Int) < (n : Int) := by omega
                          have hr0 : (0 : Int) ≤ (r : Int) := by omega
                          have hn0 : ¬ ((n : Int) = 0) := by omega
                          have hn1' : (0 : Int) < (n : Int) := by omega
                          clear hr
                          by_cases hj0 : j = 0
                          · subst hj0
                            have HBI := Lib.hid hBI
                            clear hBI
                            go_wp2
                            go_meet
                            case rel => exact ⟨xs, HPL.out, HMP.out, fun _ => rfl, HBI.out, Below.refl _ _⟩
                          · by_cases hj1 : j = 1
                            · subst hj1
                              obtain ⟨a5, ha5⟩ : ∃ a5, a5 = i % 5 := ⟨_, rfl⟩
                              obtain ⟨c9, hc9⟩ : ∃ c9, c9 = i % 9 := ⟨_, rfl⟩
                              obtain ⟨d4, hd4⟩ : ∃ d4, d4 = i % 4 := ⟨_, rfl⟩
                              have e5 : (i : Int) % 5 = (a5 : Nat) := by omega
                              have e9 : (i : Int) % 9 = (c9 : Nat) := by omega
                              have e4 : (i : Int) % 4 = (d4 : Nat) := by omega
                              have l5 : a5 < 5 := by omega
                              have l9 : c9 < 9 := by omega
                              have l4 : d4 < 4 := by omega
                              clear ha5 hc9 hd4 hj0
                              obtain ⟨v0, v1, v2, v3, v4, st, hrow2⟩ := hBI.store r (by rw [HPL.out]; omega) ⟨2, 0, 1 + (a5 : Nat), (c9 : Nat), (d4 : Nat)⟩
                              have hmx : mayY ⟨2, 0, 1 + (a5 : Nat), (c9 : Nat), (d4 : Nat)⟩ = true := by rw [mayY_2]; simp [upTo]; omega
                              have HMX := Lib.hid hmx
                              have hst := store5_below (Below.refl BI w7) (Nat.le_refl BI) (r * 5) (.int .i64 (2)) (.int .i64 (0)) (.int .i64 (1 + (a5 : Nat))) (.int .i64 ((c9 : Nat))) (.int .i64 ((d4 : Nat)))
                              have HST := Lib.hid hst
                              have HR2 := Lib.hid hrow2
                              dsimp only at st
                              clear hmx hst hrow2 hBI
                              go_wp2
                              go_meet
                              case rel => exact ⟨_, by rw [List.length_set]; exact HPL.out, mays_set HMP.out HMX.out r, (fun h => by omega), HR2.out, HST.out⟩
                            · obtain rfl : j = 2 := by omega
                              clear hj0 hj1
                              obtain ⟨v0, v1, v2, v3, v4, st, hrow2⟩ := hBI.store r (by rw [HPL.out]; omega) ⟨1, (i : Nat), 0, 0, 0⟩
                              have hmx : mayY ⟨1, (i : Nat), 0, 0, 0⟩ = true := by rw [mayY_1]; simp [upTo]; omega
                              have HMX := Lib.hid hmx
                              have hst := store5_below (Below.refl BI w7) (Nat.le_refl BI) (r * 5) (.int .i64 (1)) (.int .i64 ((i : Nat))) (.int .i64 (0)) (.int .i64 (0)) (.int .i64 (0))
                              have HST := Lib.hid hst
                              have HR2 := Lib.hid hrow2
                              dsimp only at st
                              clear hmx hst hrow2 hBI
                              go_wp2
                              go_meet
                              case rel => exact ⟨_, by rw [List.length_set]; exact HPL.out, mays_set HMP.out HMX.out r, (fun h => by omega), HR2.out, HST.out⟩
                        case rest =>
                          rename World => w8
                          obtain ⟨ys, hyl, hym, hyx, hrow, hb8⟩ := hcut
                          have dS8 := At.below DSj.out hb8 hlt1
                          have hb38 := HB7.out.trans (hb8.mono hlt2)
                          have hb68 := HBJ.out.trans (hb8.mono hlt3)
                          have m0 := cell_below m0' hb38
                          have m1 := cell_below m1' hb38
                          have hG0 : j = 0 → getS big k ys = (⟨sp, sn, sb, so⟩, 0) := fun h => by rw [hyx h]; exact HGP.out
                          have cG := fun w h => Get_any big p k (some ⟨BI, 0, none⟩) n capI ys HP.out HKK.out HNN.out w h hym
                          have cR := fun w h => rGet_any big p k (some ⟨BI, 0, none⟩) n capI ys HP.out HKK.out HNN.out w h hym
                          have hi8 := hrow.isBys hyl (by omega)
                          generalize getS big k ys = G at *
                          have HI8 := Lib.hid hi8
                          have D8 := Lib.hid dS8
                          have HB68 := Lib.hid hb68
                          have hnum := fun w => num_any 0 w
                          clear hi8 dS8 hb38 hb68 hb8 hrow hyx hym hyl HB7 HBJ
                          obtain ⟨⟨gp, gn, gb, go⟩, gbad⟩ := G
                          have hXX := fun w => neq_sc' gp gn gb go gp gn gb go w
                          rw [eqS_refl] at hXX
                          have hbb : (gbad != gbad) = false := by simp
                          by_cases hj0 : j = 0
                          · have hh := hG0 hj0
                            injection hh with h1 h2
                            injection h1 with h1 h3 h4 h5
                            subst hj0 h1 h2 h3 h4 h5
                            clear hG0
                            go_wp2_with fail
                            refine (cG _ HI8.out).mono ?_
                            rintro e w9 ⟨rfl, hb9⟩
                            have m0x := cell_alloc (cell_below m0 hb9) (.cells #[.bool gp, .int .i64 gn, .int .i64 gb, .int .i64 go] 30)
                            have m1x := cell_alloc (cell_below m1 hb9) (.cells #[.bool gp, .int .i64 gn, .int .i64 gb, .int .i64 go] 30)
                            have dX := At.new w9 #[.bool gp, .int .i64 gn, .int .i64 gb, .int .i64 go] 30
                            have d9 := At.alloc (At.below' hb9 D8.out) (.cells #[.bool gp, .int .i64 gn, .int .i64 gb, .int .i64 go] 30)
                            have hI9 := (HI8.out.below hb9).below (below_box1 w9 (.cells #[.bool gp, .int .i64 gn, .int .i64 gb, .int .i64 go] 30))
                            have hb69 := (HB68.out.trans (hb9.mono HB68.out.size)).alloc (HB68.out.trans (hb9.mono HB68.out.size)).size (.cells #[.bool gp, .int .i64 gn, .int .i64 gb, .int .i64 go] 30)
                            unfold scA
                            dsimp only
                            clear hb9 m0 m1
                            go_wp2_with fail
                            refine (cR _ hI9).mono ?_
                            rintro e w10 ⟨rfl, hb10⟩
                            have dX2 := At.alloc (At.below' hb10 dX) (.cells #[.bool gp, .int .i64 gn, .int .i64 gb, .int .i64 go] 30)
                            have d10 := At.alloc (At.below' hb10 d9) (.cells #[.bool gp, .int .i64 gn, .int .i64 gb, .int .i64 go] 30)
                            have hb610 := (hb69.trans (hb10.mono hb69.size)).alloc (hb69.trans (hb10.mono hb69.size)).size (.cells #[.bool gp, .int .i64 gn, .int .i64 gb, .int .i64 go] 30)
                            have x0 : (w10.alloc (.cells #[.bool gp, .int .i64 gn, .int .i64 gb, .int .i64 go] 30)).cell? ⟨w9.heap.size, 0, none⟩ = some (.bool gp) := dX2.cell 0 rfl
                            have x1 : (w10.alloc (.cells #[.bool gp, .int .i64 gn, .int .i64 gb, .int .i64 go] 30)).cell? ⟨w9.heap.size, 1, none⟩ = some (.int .i64 gn) := dX2.cell 1 rfl
                            have x2 : (w10.alloc (.cells #[.bool gp, .int .i64 gn, .int .i64 gb, .int .i64 go] 30)).cell? ⟨w9.heap.size, 2, none⟩ = some (.int .i64 gb) := dX2.cell 2 rfl
                            have x3 : (w10.alloc (.cells #[.bool gp, .int .i64 gn, .int .i64 gb, .int .i64 go] 30)).cell? ⟨w9.heap.size, 3, none⟩ = some (.int .i64 go) := dX2.cell 3 rfl
                            have y0 : (w10.alloc (.cells #[.bool gp, .int .i64 gn, .int .i64 gb, .int .i64 go] 30)).cell? ⟨SB, 0, none⟩ = some (.bool gp) := d10.cell 0 rfl
                            have y1 : (w10.alloc (.cells #[.bool gp, .int .i64 gn, .int .i64 gb, .int .i64 go] 30)).cell? ⟨SB, 1, none⟩ = some (.int .i64 gn) := d10.cell 1 rfl
                            have y2 : (w10.alloc (.cells #[.bool gp, .int .i64 gn, .int .i64 gb, .int .i64 go] 30)).cell? ⟨SB, 2, none⟩ = some (.int .i64 gb) := d10.cell 2 rfl
                            have y3 : (w10.alloc (.cells #[.bool gp, .int .i64 gn, .int .i64 gb, .int .i64 go] 30)).cell? ⟨SB, 3, none⟩ = some (.int .i64 go) := d10.cell 3 rfl
                            unfold scA
                            dsimp only
                            clear hb10 m0x m1x dX d9 dX2 d10 hb69 hI9
                            go_wp2_with ((go_at_call 15; (with_reducible refine (hnum _).mono ?_); rintro e w' ⟨rfl, rfl⟩))
                            go_roundw
                            case rel => exact ⟨1, by omega, by go_num, hb610⟩
                            case measure => (simp [intOf]; try omega)
                          · have tj : ((j : Int) == 0) = false := by rw [beq_eq_false_iff_ne]; omega
                            clear hG0 hj0
                            go_wp2_with fail
                            refine (cG _ HI8.out).mono ?_
                            rintro e w9 ⟨rfl, hb9⟩
                            have m0x := cell_alloc (cell_below m0 hb9) (.cells #[.bool gp, .int .i64 gn, .int .i64 gb, .int .i64 go] 30)
                            have m1x := cell_alloc (cell_below m1 hb9) (.cells #[.bool gp, .int .i64 gn, .int .i64 gb, .int .i64 go] 30)
                            have dX := At.new w9 #[.bool gp, .int .i64 gn, .int .i64 gb, .int .i64 go] 30
                            have d9 := At.alloc (At.below' hb9 D8.out) (.cells #[.bool gp, .int .i64 gn, .int .i64 gb, .int .i64 go] 30)
                            have hI9 := (HI8.out.below hb9).below (below_box1 w9 (.cells #[.bool gp, .int .i64 gn, .int .i64 gb, .int .i64 go] 30))
                            have hb69 := (HB68.out.trans (hb9.mono HB68.out.size)).alloc (HB68.out.trans (hb9.mono HB68.out.size)).size (.cells #[.bool gp, .int .i64 gn, .int .i64 gb, .int .i64 go] 30)
                            unfold scA
                            dsimp only
                            clear hb9 m0 m1
                            go_wp2_with fail
                            refine (cR _ hI9).mono ?_
                            rintro e w10 ⟨rfl, hb10⟩
                            have dX2 := At.alloc (At.below' hb10 dX) (.cells #[.bool gp, .int .i64 gn, .int .i64 gb, .int .i64 go] 30)
                            have d10 := At.alloc (At.below' hb10 d9) (.cells #[.bool gp, .int .i64 gn, .int .i64 gb, .int .i64 go] 30)
                            have hb610 := (hb69.trans (hb10.mono hb69.size)).alloc (hb69.trans (hb10.mono hb69.size)).size (.cells #[.bool gp, .int .i64 gn, .int .i64 gb, .int .i64 go] 30)
                            have x0 : (w10.alloc (.cells #[.bool gp, .int .i64 gn, .int .i64 gb, .int .i64 go] 30)).cell? ⟨w9.heap.size, 0, none⟩ = some (.bool gp) := dX2.cell 0 rfl
                            have x1 : (w10.alloc (.cells #[.bool gp, .int .i64 gn, .int .i64 gb, .int .i64 go] 30)).cell? ⟨w9.heap.size, 1, none⟩ = some (.int .i64 gn) := dX2.cell 1 rfl
                            have x2 : (w10.alloc (.cells #[.bool gp, .int .i64 gn, .int .i64 gb, .int .i64 go] 30)).cell? ⟨w9.heap.size, 2, none⟩ = some (.int .i64 gb) := dX2.cell 2 rfl
                            have x3 : (w10.alloc (.cells #[.bool gp, .int .i64 gn, .int .i64 gb, .int .i64 go] 30)).cell? ⟨w9.heap.size, 3, none⟩ = some (.int .i64 go) := dX2.cell 3 rfl
                            have y0 : (w10.alloc (.cells #[.bool gp, .int .i64 gn, .int .i64 gb, .int .i64 go] 30)).cell? ⟨SB, 0, none⟩ = some (.bool sp) := d10.cell 0 rfl
                            have y1 : (w10.alloc (.cells #[.bool gp, .int .i64 gn, .int .i64 gb, .int .i64 go] 30)).cell? ⟨SB, 1, none⟩ = some (.int .i64 sn) := d10.cell 1 rfl
                            have y2 : (w10.alloc (.cells #[.bool gp, .int .i64 gn, .int .i64 gb, .int .i64 go] 30)).cell? ⟨SB, 2, none⟩ = some (.int .i64 sb) := d10.cell 2 rfl
                            have y3 : (w10.alloc (.cells #[.bool gp, .int .i64 gn, .int .i64 gb, .int .i64 go] 30)).cell? ⟨SB, 3, none⟩ = some (.int .i64 so) := d10.cell 3 rfl
                            unfold scA
                            dsimp only
                            clear hb10 m0x m1x dX d9 dX2 d10 hb69 hI9
                            go_wp2_with ((go_at_call 15; (with_reducible refine (hnum _).mono ?_); rintro e w' ⟨rfl, rfl⟩))
                            go_roundw
                            case rel => exact ⟨j + 1, by omega, by go_num, hb610⟩
                            case measure => (simp [intOf]; try omega)
                      · have hb9 := hbl6.trans (hbj.mono hbl6.size)
                        clear hbl6 hbj
                        go_wp2
                        go_roundw
                        case rel => exact ⟨i + 1, by omega, by go_num, hb9⟩
                        case measure => (simp [intOf]; try omega)
            · have hb9 := hbq.trans (hbr.mono hbq.size)
              clear hbr
              go_wp2
              go_roundw
              case rel => exact ⟨q + 1, by omega, by go_num, hb9⟩
              case measure => (simp [intOf]; try omega)
        · have hpp : (p == 2 || p == 4) = false := by
            rw [Bool.or_eq_false_iff, beq_eq_false_iff_ne, beq_eq_false_iff_ne]
            exact ⟨fun h => hp (Or.inl h), fun h => hp (Or.inr h)⟩
          rw [hpp] at cA
          clear hpp hp
          go_wp2_with fail
          refine (cA _).mono ?_
          rintro e w3 ⟨rfl, hb3⟩
          have hbq := hbr.trans (hb3.mono hbr.size)
          clear hb3 hbr m0 m1
          go_wp2
          go_roundw
          case rel => exact ⟨q + 1, by omega, by go_num, hbq⟩
          case measure => (simp [intOf]; try omega)
      · have hb9 := hb0.trans (hbr.mono hb0.size)
        clear hbr
        go_wp2_with fail
        refine (cW _).mono ?_
        rintro e w3 ⟨rfl, hb3⟩
        go_wp2
        go_ret
        exact ⟨rfl, hb9.trans (hb3.mono hb9.size)⟩
  · clear hle
    go_wp2
    go_ret
    exact ⟨rfl, hb0⟩
end Go.Proofs.Ytfnebncelglbpaa
