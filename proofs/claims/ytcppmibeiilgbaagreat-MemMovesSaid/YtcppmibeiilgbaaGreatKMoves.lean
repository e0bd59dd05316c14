/- MemMoves: its frames; rows of numbers. -/
import Derived.Test.YtcppmibeiilgbaaGreatKPts
import Derived.Test.YtcppmibeiilgbaaGreatKRMove
import Derived.Test.YtcppmibeiilgbaaGreatKApart
import Derived.Test.YtcppmibeiilgbaaGreatKEqB
import Derived.Test.YtcppmibeiilgbaaGreatKWakes
import Derived.Test.YtcppmibeiilgbaaGreatFrames
import Derived.Deep.Cut
import Derived.Deep.CutRange
import Derived.Test.YtcppmibeiilgbaaGreatKCopyB
import Derived.Test.YtcppmibeiilgbaaGreatKRMem
import Derived.Test.YtcppmibeiilgbaaGreatKWeigh
namespace Go.Proofs.YtcppmibeiilgbaaGreat
open Go.ChangeShapes Go.WideShapes Go.ChangeAt Go.RowKit Go.Joins Go.Deep
set_option linter.unusedVariables false

theorem open_243 (t : Array Value) (h : t.size = 243) : t = #[sl t 0, sl t 1, sl t 2, sl t 3, sl t 4, sl t 5, sl t 6, sl t 7, sl t 8, sl t 9, sl t 10, sl t 11, sl t 12, sl t 13, sl t 14, sl t 15, sl t 16, sl t 17, sl t 18, sl t 19, sl t 20, sl t 21, sl t 22, sl t 23, sl t 24, sl t 25, sl t 26, sl t 27, sl t 28, sl t 29, sl t 30, sl t 31, sl t 32, sl t 33, sl t 34, sl t 35, sl t 36, sl t 37, sl t 38, sl t 39, sl t 40, sl t 41, sl t 42, sl t 43, sl t 44, sl t 45, sl t 46, sl t 47, sl t 48, sl t 49, sl t 50, sl t 51, sl t 52, sl t 53, sl t 54, sl t 55, sl t 56, sl t 57, sl t 58, sl t 59, sl t 60, sl t 61, sl t 62, sl t 63, sl t 64, sl t 65, sl t 66, sl t 67, sl t 68, sl t 69, sl t 70, sl t 71, sl t 72, sl t 73, sl t 74, sl t 75, sl t 76, sl t 77, sl t 78, sl t 79, sl t 80, sl t 81, sl t 82, sl t 83, sl t 84, sl t 85, sl t 86, sl t 87, sl t 88, sl t 89, sl t 90, sl t 91, sl t 92, sl t 93, sl t 94, sl t 95, sl t 96, sl t 97, sl t 98, sl t 99, sl t 100, sl t 101, sl t 102, sl t 103, sl t 104, sl t 105, sl t 106, sl t 107, sl t 108, sl t 109, sl t 110, sl t 111, sl t 112, sl t 113, sl t 114, sl t 115, sl t 116, sl t 117, sl t 118, sl t 119, sl t 120, sl t 121, sl t 122, sl t 123, sl t 124, sl t 125, sl t 126, sl t 127, sl t 128, sl t 129, sl t 130, sl t 131, sl t 132, sl t 133, sl t 134, sl t 135, sl t 136, sl t 137, sl t 138, sl t 139, sl t 140, sl t 141, sl t 142, sl t 143, sl t 144, sl t 145, sl t 146, sl t 147, sl t 148, sl t 149, sl t 150, sl t 151, sl t 152, sl t 153, sl t 154, sl t 155, sl t 156, sl t 157, sl t 158, sl t 159, sl t 160, sl t 161, sl t 162, sl t 163, sl t 164, sl t 165, sl t 166, sl t 167, sl t 168, sl t 169, sl t 170, sl t 171, sl t 172, sl t 173, sl t 174, sl t 175, sl t 176, sl t 177, sl t 178, sl t 179, sl t 180, sl t 181, sl t 182, sl t 183, sl t 184, sl t 185, sl t 186, sl t 187, sl t 188, sl t 189, sl t 190, sl t 191, sl t 192, sl t 193, sl t 194, sl t 195, sl t 196, sl t 197, sl t 198, sl t 199, sl t 200, sl t 201, sl t 202, sl t 203, sl t 204, sl t 205, sl t 206, sl t 207, sl t 208, sl t 209, sl t 210, sl t 211, sl t 212, sl t 213, sl t 214, sl t 215, sl t 216, sl t 217, sl t 218, sl t 219, sl t 220, sl t 221, sl t 222, sl t 223, sl t 224, sl t 225, sl t 226, sl t 227, sl t 228, sl t 229, sl t 230, sl t 231, sl t 232, sl t 233, sl t 234, sl t 235, sl t 236, sl t 237, sl t 238, sl t 239, sl t 240, sl t 241, sl t 242] := (frame_list t 243 h).trans (by kernel_rfl)
def loops : Code → List Code
  | .loop c => [c]
  | .seq a b => loops a ++ loops b
  | .block _ c => loops c
  | .scope c => loops c
  | .cond _ a b => loops a ++ loops b
  | _ => []
noncomputable def mBody1 : Code := ((Tryz.f3.body.map loops).getD []).getD 0 .skip
noncomputable def mBody2 : Code := (loops mBody1).getD 0 .skip
noncomputable def mBody3 : Code := (loops mBody2).getD 0 .skip
noncomputable def mBody4 : Code := (loops mBody2).getD 1 .skip
def FrM (t : Array Value) (v1 v3 v4 v5 v6 v7 v8 v9 : Value) : Prop := t.size = 243 ∧ sl t 1 = v1 ∧ sl t 3 = v3 ∧ sl t 4 = v4 ∧ sl t 5 = v5 ∧ sl t 6 = v6 ∧ sl t 7 = v7 ∧ sl t 8 = v8 ∧ sl t 9 = v9
/-- a result's box, and what goes wrong -/
def BoxOut (R : SC) (bad ev : Int) (v11 v12 v13 : Value) (w0 wx : World) : Prop := ∃ X, v11 = .pointer (some ⟨X, 0, none⟩) ∧ v12 = .int .i64 bad ∧ v13 = .int .i64 ev ∧ w0.heap.size ≤ X ∧ At wx X #[.bool R.p, .int .i64 R.n, .int .i64 R.b, .int .i64 R.o] 35 ∧ Below w0.heap.size w0 wx
/-- a row of some numbers -/
def AnyInts (w : World) (g m : Nat) : Prop := g < w.heap.size ∧ ∀ q, q < m → ∃ n, w.cell? ⟨g, q, none⟩ = some (.int .i64 n)
theorem AnyInts.below {w w' : World} {g m : Nat} (h : AnyInts w g m) (hb : Below w.heap.size w w') : AnyInts w' g m :=
  ⟨by have := h.1; have := hb.size; omega, fun q hq => by obtain ⟨n, hn⟩ := h.2 q hq; exact ⟨n, cell_below hn hb⟩⟩
theorem moves_infoInt : (Tryz.prog.info? 3).map (fun i => (i.zero, i.size, i.bytes)) = some (some (.int .i64 0), 1, 8) := by kernel_rfl
/-- what Apart tells -/
def apV (h : Bool) (p s : SC) : Int := if h && (p.b == s.b) then wrapI (p.o - s.o) 32 else 0
def apB (h : Bool) (p s : SC) : Int := if h && (p.b != s.b) then 9 else 0
def apE (h : Bool) : Int := if h then 0 else 1
end Go.Proofs.YtcppmibeiilgbaaGreat

/- MemMoves: its third loop: Move of each number. -/
namespace Go.Proofs.YtcppmibeiilgbaaGreat
open Go.ChangeShapes Go.WideShapes Go.ChangeAt Go.RowKit Go.Joins Go.Deep
set_option linter.unusedVariables false

def Rel3 (B gn m capn i l cap2 gp np capp k : Nat) (q2 : Option Addr) (v6 : Value) (f : Bool) (w0 : World) (n : Nat) (a : Act) (wr : World) : Prop :=
  ∃ t j z, a = ⟨t, []⟩ ∧ FrM t (.pointer (some ⟨B, 0, none⟩)) (.slice (some ⟨gn, 0, none⟩) m capn) (.int .i64 (i : Nat)) (.slice q2 l cap2) v6 (.slice (some ⟨gp, 0, none⟩) np capp) (.int .i64 (k : Nat)) (.bool f) ∧ sl t 10 = .int .i64 z ∧ z = (j : Nat) ∧ j + n = 13 ∧ Below w0.heap.size w0 wr
set_option maxRecDepth 1000000 in
set_option maxHeartbeats 6400000 in
theorem mloop3 (B gn m capn i l cap2 gp np capp k : Nat) (q2 : Option Addr) (v6 : Value) (f : Bool) (x : List BK) (Lp : List SC) (w0 : World) (hX : IsMem w0 q2 l x) (hR : ScRow w0 gp np Lp) (hN : AnyInts w0 gn m) (hk : k < np) (hnp : np ≤ 25) (hf : f = hasM x (Lp.getD k default))
    (t : Array Value) (hF : FrM t (.pointer (some ⟨B, 0, none⟩)) (.slice (some ⟨gn, 0, none⟩) m capn) (.int .i64 (i : Nat)) (.slice q2 l cap2) v6 (.slice (some ⟨gp, 0, none⟩) np capp) (.int .i64 (k : Nat)) (.bool f)) (fc : sl t 10 = .int .i64 0) (Q : Exit → Act → World → Prop)
    (hQ : ∀ t w', FrM t (.pointer (some ⟨B, 0, none⟩)) (.slice (some ⟨gn, 0, none⟩) m capn) (.int .i64 (i : Nat)) (.slice q2 l cap2) v6 (.slice (some ⟨gp, 0, none⟩) np capp) (.int .i64 (k : Nat)) (.bool f) → Below w0.heap.size w0 w' → Q (.exit 4) ⟨t, []⟩ w') :
    (Code.loop mBody3).wp Tryz.prog (NoPanic Q) ⟨t, []⟩ w0 := by
  refine wp_loop_ghost_k (Rel3 B gn m capn i l cap2 gp np capp k q2 v6 f w0) 13 ⟨t, 0, 0, rfl, hF, fc, rfl, by omega, Below.refl _ _⟩ ?_
  clear hF fc
  intro n a wr hrel iK iJv hJ hK
  clear t
  obtain ⟨t, j, z, rfl, ⟨f0, f1, f3, f4, f5, f6, f7, f8, f9⟩, fc, rfl, hjn, hbd⟩ := hrel
  rw [open_243 t f0]
  simp only [f1, f3, f4, f5, f6, f7, f8, f9, fc]
  clear f0 f1 f3 f4 f5 f6 f7 f8 f9 fc
  conv => arg 2; whnf
  have hk3 : (k : Int) < (np : Int) := by omega
  go_upto_region 15 with (fail)
  go_cut [82] from 75 to 81 (fun v wx => ∃ c : Bool, v = .bool c ∧ (c = true ↔ (j < m ∧ j < 13)) ∧ wx = wr)
  case first =>
    clear hJ hK hQ hX hR hN hf hbd
    by_cases h1 : j < m
    · have t1 : (j : Int) < (m : Int) := by omega
      by_cases h2 : j < 13
      · have t2 : (j : Int) < 13 := by omega
        go_wp2_with fail
        go_meet
        case rel => exact ⟨true, rfl, by simp [h1, h2], rfl⟩
      · have t2 : decide ((j : Int) < 13) = false := by simp; omega
        go_wp2_with fail
        go_meet
        case rel => exact ⟨false, rfl, by simp [h2], rfl⟩
    · have t1 : decide ((j : Int) < (m : Int)) = false := by simp; omega
      go_wp2_with fail
      go_meet
      case rel => exact ⟨false, rfl, by simp [h1], rfl⟩
  case rest =>
    obtain ⟨c, rfl, hc, rfl⟩ := hcut
    cases c
    · clear hJ hc hX hR hN hf
      go_wp2_with fail
      exact hQ _ _ ⟨rfl, rfl, rfl, rfl, rfl, rfl, rfl, rfl, rfl⟩ hbd
    · obtain ⟨hjm, hj13⟩ := hc.1 rfl
      have hj3 : (j : Int) < (m : Int) := by omega
      obtain ⟨nn, n0⟩ := (hN.below hbd).2 j hjm
      have hS := (hR.below hbd).2 k hk
      have HMx := Lib.hid (hX.below hbd)
      have HF := Lib.hid hf
      clear hX hR hN hf hc hQ
      generalize Lp.getD k default = pt at *
      have hmove := Move_all q2 l cap2 x pt nn
      have hRM := fun hn hH w hx => rMove_any q2 l cap2 x pt nn hn hH w hx
      obtain ⟨⟨rp, rn, rb, ro⟩, bad, ev, cL, hcase⟩ := hmove
      unfold LoadPost scA at cL
      dsimp only at cL
      obtain ⟨p0, p1, p2, p3⟩ := pt
      simp only [scV_eq] at cL hRM
      obtain ⟨s0, s1, s2, s3⟩ := hS
      dsimp only at s0 s1 s2 s3
      have HCASE := Lib.hid hcase
      have HRL := Lib.hid hRM
      have HS := Lib.hid (And.intro s0 (And.intro s1 (And.intro s2 (And.intro s3 n0))))
      have HBD := Lib.hid hbd
      clear hcase hRM hbd
      go_upto_region 17 with (fail)
      go_cut [11, 12, 13] from 85 to 98 (fun v11 v12 v13 wx => BoxOut ⟨rp, rn, rb, ro⟩ bad ev v11 v12 v13 wc wx)
      case first =>
        have hbZ := (below_box1 wc (.cells #[.bool false, .int .i64 0, .int .i64 0, .int .i64 0] 35)).drew
        have zs0 := cell_below s0 hbZ
        have zs1 := cell_below s1 hbZ
        have zs2 := cell_below s2 hbZ
        have zs3 := cell_below s3 hbZ
        have zn0 := cell_below n0 hbZ
        have hbY := (Below.refl wc.heap.size wc).drew
        have ys0 := cell_below s0 hbY
        have ys1 := cell_below s1 hbY
        have ys2 := cell_below s2 hbY
        have ys3 := cell_below s3 hbY
        have yn0 := cell_below n0 hbY
        clear hbZ hbY
        go_region_with (first
          | (go_at_call 9; (with_reducible refine (cL _ (HMx.out.below ((Below.refl wc.heap.size wc).drew))).mono ?_); rintro e wL ⟨rfl, hbL⟩)
          | (go_at_call 9; (with_reducible refine (cL _ (HMx.out.below ((below_box1 wc (.cells #[.bool false, .int .i64 0, .int .i64 0, .int .i64 0] 35)).drew))).mono ?_); rintro e wL ⟨rfl, hbL⟩
             have dZ : At wL wc.heap.size #[.bool false, .int .i64 0, .int .i64 0, .int .i64 0] 35 := At.below' hbL ((At.new wc #[.bool false, .int .i64 0, .int .i64 0, .int .i64 0] 35).drew)
             have st := store4 dZ (.bool rp) (.int .i64 rn) (.int .i64 rb) (.int .i64 ro)
             have E1 := store4_at dZ (.bool rp) (.int .i64 rn) (.int .i64 rb) (.int .i64 ro)))
        all_goals
          first
            | (have hbB : Below wc.heap.size wc wL := (((Below.refl wc.heap.size wc).drew).trans hbL)
               go_wp2
               go_meet
               case rel => exact ⟨wL.heap.size, rfl, rfl, rfl, hbB.size, At.new wL _ _, hbB.alloc hbB.size _⟩)
            | (have hbB : Below wc.heap.size wc wL := (((below_box1 wc (.cells #[.bool false, .int .i64 0, .int .i64 0, .int .i64 0] 35)).drew).trans (hbL.mono (by simp)))
               have E2 := store4_below hbB (Nat.le_refl wc.heap.size) (.bool rp) (.int .i64 rn) (.int .i64 rb) (.int .i64 ro)
               have HE1 := Lib.hid E1
               have HE2 := Lib.hid E2
               clear E1 E2 st dZ
               go_wp2
               go_meet
               case rel => exact ⟨wc.heap.size, rfl, rfl, rfl, Nat.le_refl _, HE1.out, HE2.out⟩)
      case rest =>
        obtain ⟨X, rfl, rfl, rfl, hXge, dS, hbR⟩ := hcut
        replace HMx := Lib.hid (HMx.out.below hbR)
        replace HBD := Lib.hid (HBD.out.trans (hbR.mono HBD.out.size))
        replace HS := Lib.hid (And.intro (cell_below HS.out.1 hbR) (And.intro (cell_below HS.out.2.1 hbR) (And.intro (cell_below HS.out.2.2.1 hbR) (And.intro (cell_below HS.out.2.2.2.1 hbR) (cell_below HS.out.2.2.2.2 hbR)))))
        have HDS := Lib.hid dS
        clear dS hXge hbR cL s0 s1 s2 s3 n0
        go_upto_region 19 with (fail)
        have HX0 := Lib.hid HDS.out.lt
        have HBD0 := Lib.hid HBD.out.size
        have dW := At.new wc #[.bool false, .int .i64 0, .int .i64 0, .int .i64 0] 35
        have hbw := below_box1 wc (.cells #[.bool false, .int .i64 0, .int .i64 0, .int .i64 0] 35)
        replace HMx := Lib.hid (HMx.out.below hbw)
        replace HBD := Lib.hid (HBD.out.trans (hbw.mono HBD.out.size))
        replace HDS := Lib.hid (At.below' hbw HDS.out)
        replace HS := Lib.hid (And.intro (cell_below HS.out.1 hbw) (And.intro (cell_below HS.out.2.1 hbw) (And.intro (cell_below HS.out.2.2.1 hbw) (And.intro (cell_below HS.out.2.2.2.1 hbw) (cell_below HS.out.2.2.2.2 hbw)))))
        have HDW := Lib.hid dW
        have HXX := Lib.hid (And.intro HX0.out HBD0.out)
        clear hbw dW HX0 HBD0
        generalize wc.alloc (.cells #[.bool false, .int .i64 0, .int .i64 0, .int .i64 0] 35) = wd at *
        generalize wc.heap.size = XW at *
        go_cut [107] from 100 to 106 (fun v wx => ∃ c : Bool, v = .bool c ∧ (c = true ↔ CanV x ⟨p0, p1, p2, p3⟩ nn) ∧ Below wd.heap.size wd wx)
        case first =>
          obtain ⟨s0, s1, s2, s3, n0⟩ := HS.out
          cases f
          · go_wp2_with fail
            go_meet
            case rel => exact ⟨false, rfl, by simp [CanV, ← HF.out], Below.refl _ _⟩
          · by_cases hn : isN nn 32
            · have cB := fun w => rNumber_yes nn 32 (by unfold isW; decide) hn w
              go_wp2_with (go_at_call 10; (with_reducible refine (cB _).mono ?_); rintro e wa ⟨rfl, rfl⟩)
              go_meet
              case rel => exact ⟨true, rfl, by simp [CanV, hn, ← HF.out], Below.refl _ _⟩
            · have cB := fun w => rNumber_no nn 32 (by unfold isW; decide) hn w
              go_wp2_with (go_at_call 10; (with_reducible refine (cB _).mono ?_); rintro e wa ⟨rfl, rfl⟩)
              go_meet
              case rel => exact ⟨false, rfl, by simp [CanV, hn, ← HF.out], Below.refl _ _⟩
        case rest =>
          obtain ⟨c, rfl, hc, hbw⟩ := hcut
          replace HMx := Lib.hid (HMx.out.below hbw)
          replace HBD := Lib.hid (HBD.out.trans (hbw.mono HBD.out.size))
          replace HDS := Lib.hid (At.below' hbw HDS.out)
          replace HDW := Lib.hid (At.below' hbw HDW.out)
          replace HS := Lib.hid (And.intro (cell_below HS.out.1 hbw) (And.intro (cell_below HS.out.2.1 hbw) (And.intro (cell_below HS.out.2.2.1 hbw) (And.intro (cell_below HS.out.2.2.2.1 hbw) (cell_below HS.out.2.2.2.2 hbw)))))
          have HC := Lib.hid hc
          clear hbw hc
          go_upto_if 107 with (fail)
          go_cut [14, 16] from 108 to 120 (fun v14 v16 wx => v14 = .int .i64 ev ∧ v16 = .int .i64 bad ∧ At wx X #[.bool rp, .int .i64 rn, .int .i64 rb, .int .i64 ro] 35 ∧ At wx XW #[.bool rp, .int .i64 rn, .int .i64 rb, .int .i64 ro] 35 ∧ Below w0.heap.size w0 wx)
          case first =>
            cases c
            · obtain ⟨_, rfl, hR, rfl⟩ : ¬ CanV x ⟨p0, p1, p2, p3⟩ nn ∧ ev = 1 ∧ (⟨rp, rn, rb, ro⟩ : SC) = noS ∧ bad = 0 := HCASE.out.resolve_left (fun h => absurd (HC.out.2 h.1) (by simp))
              cases hR
              go_wp2_with fail
              go_meet
              case rel => exact ⟨rfl, rfl, HDS.out, HDW.out, HBD.out⟩
            · have hcan := HC.out.1 rfl
              obtain ⟨_, rfl, hLS⟩ : CanV x ⟨p0, p1, p2, p3⟩ nn ∧ ev = 0 ∧ moveS x ⟨p0, p1, p2, p3⟩ nn = (⟨rp, rn, rb, ro⟩, bad) := HCASE.out.resolve_right (fun h => absurd hcan h.1)
              have hRl := fun w => HRL.out hcan.1 hcan.2 w
              rw [hLS] at hRl
              unfold RLoadPost scA at hRl
              dsimp only at hRl
              obtain ⟨s0, s1, s2, s3, n0⟩ := HS.out
              clear hLS hcan
              go_upto_region 21 with (fail)
              go_region_with ((go_at_call 11; (with_reducible refine (hRl _ (HMx.out.below ((Below.refl wc.heap.size wc).drew))).mono ?_); rintro e wL ⟨rfl, hbL⟩; have dZ : At wL XW #[.bool false, .int .i64 0, .int .i64 0, .int .i64 0] 35 := At.below' hbL (HDW.out.drew); have st := store4 dZ (.bool rp) (.int .i64 rn) (.int .i64 rb) (.int .i64 ro); have E1 := store4_at dZ (.bool rp) (.int .i64 rn) (.int .i64 rb) (.int .i64 ro)))
              all_goals
                have hbB : Below w0.heap.size w0 wL := (HBD.out.drew).trans (hbL.mono HBD.out.size)
                have E2 := store4_below hbB HXX.out.2 (.bool rp) (.int .i64 rn) (.int .i64 rb) (.int .i64 ro)
                have E3 := ((At.below' hbL (HDS.out.drew)).below (store4_below (Below.refl (X + 1) wL) HXX.out.1 (.bool rp) (.int .i64 rn) (.int .i64 rb) (.int .i64 ro)) (Nat.lt_succ_self X))
                have HE1 := Lib.hid E1
                have HE2 := Lib.hid E2
                have HE3 := Lib.hid E3
                clear E1 E2 E3 st dZ
                go_wp2_with fail
                go_meet
                case rel => exact ⟨rfl, rfl, HE3.out, HE1.out, HE2.out⟩
          case rest =>
            obtain ⟨rfl, rfl, dX, dW, hbw⟩ := hcut
            have x0 := dX.cell 0 rfl
            have x1 := dX.cell 1 rfl
            have x2 := dX.cell 2 rfl
            have x3 := dX.cell 3 rfl
            have y0 := dW.cell 0 rfl
            have y1 := dW.cell 1 rfl
            have y2 := dW.cell 2 rfl
            have y3 := dW.cell 3 rfl
            have hNE := fun w => neq_sc' rp rn rb ro rp rn rb ro w
            rw [eqS_refl] at hNE
            have hee : (ev != ev) = false := by simp
            have hbb2 : (bad != bad) = false := by simp
            have cN := fun x w => num9_any x w
            clear dX dW HDS HDW HS HMx HBD HCASE HRL HC HXX HF
            go_wp2_with (go_at_call 12; (with_reducible refine (cN _ _).mono ?_); rintro e w' ⟨rfl, rfl⟩)
            refine Handed.intro (n - 1) (by omega) (hJ _ _ _ ⟨_, j + 1, _, rfl, ⟨rfl, rfl, rfl, rfl, rfl, rfl, rfl, rfl, rfl⟩, rfl, (by go_num), by omega, hbw⟩)
end Go.Proofs.YtcppmibeiilgbaaGreat

/- MemMoves: its fourth loop: Apart and Same of two. -/
namespace Go.Proofs.YtcppmibeiilgbaaGreat
open Go.ChangeShapes Go.WideShapes Go.ChangeAt Go.RowKit Go.Joins Go.Deep
set_option linter.unusedVariables false

def Rel4 (B gn m capn i l cap2 gp np capp k : Nat) (q2 : Option Addr) (v6 : Value) (f : Bool) (w0 : World) (n : Nat) (a : Act) (wr : World) : Prop :=
  ∃ t j z, a = ⟨t, []⟩ ∧ FrM t (.pointer (some ⟨B, 0, none⟩)) (.slice (some ⟨gn, 0, none⟩) m capn) (.int .i64 (i : Nat)) (.slice q2 l cap2) v6 (.slice (some ⟨gp, 0, none⟩) np capp) (.int .i64 (k : Nat)) (.bool f) ∧ sl t 17 = .int .i64 z ∧ z = (j : Nat) ∧ j + n = np ∧ Below w0.heap.size w0 wr
set_option maxRecDepth 1000000 in
set_option maxHeartbeats 6400000 in
theorem mloop4 (B gn m capn i l cap2 gp np capp k : Nat) (q2 : Option Addr) (v6 : Value) (f : Bool) (x : List BK) (Lp : List SC) (w0 : World) (hX : IsMem w0 q2 l x) (hR : ScRow w0 gp np Lp) (hN : AnyInts w0 gn m) (hk : k < np) (hnp : np ≤ 25) (hf : f = hasM x (Lp.getD k default))
    (t : Array Value) (hF : FrM t (.pointer (some ⟨B, 0, none⟩)) (.slice (some ⟨gn, 0, none⟩) m capn) (.int .i64 (i : Nat)) (.slice q2 l cap2) v6 (.slice (some ⟨gp, 0, none⟩) np capp) (.int .i64 (k : Nat)) (.bool f)) (fc : sl t 17 = .int .i64 0) (Q : Exit → Act → World → Prop)
    (hQ : ∀ t w', FrM t (.pointer (some ⟨B, 0, none⟩)) (.slice (some ⟨gn, 0, none⟩) m capn) (.int .i64 (i : Nat)) (.slice q2 l cap2) v6 (.slice (some ⟨gp, 0, none⟩) np capp) (.int .i64 (k : Nat)) (.bool f) → Below w0.heap.size w0 w' → Q (.exit 6) ⟨t, []⟩ w') :
    (Code.loop mBody4).wp Tryz.prog (NoPanic Q) ⟨t, []⟩ w0 := by
  refine wp_loop_ghost_k (Rel4 B gn m capn i l cap2 gp np capp k q2 v6 f w0) np ⟨t, 0, 0, rfl, hF, fc, rfl, by omega, Below.refl _ _⟩ ?_
  clear hF fc
  intro n a wr hrel iK iJv hJ hK
  clear t
  obtain ⟨t, j, z, rfl, ⟨f0, f1, f3, f4, f5, f6, f7, f8, f9⟩, fc, rfl, hjn, hbd⟩ := hrel
  rw [open_243 t f0]
  simp only [f1, f3, f4, f5, f6, f7, f8, f9, fc]
  clear f0 f1 f3 f4 f5 f6 f7 f8 f9 fc
  conv => arg 2; whnf
  have hk3 : (k : Int) < (np : Int) := by omega
  by_cases hjp : j < np
  · have hj3 : (j : Int) < (np : Int) := by omega
    have hS := (hR.below hbd).2 k hk
    have hU := (hR.below hbd).2 j hjp
    have HMx := Lib.hid (hX.below hbd)
    have hmay : hasM x (Lp.getD k default) = (mayM x && (mayS 7 (Lp.getD k default) && decide ((Lp.getD k default).b < (l : Int)))) := by unfold hasM; rw [hX.2.1]
    have hmay2 : hasM x (Lp.getD j default) = (mayM x && (mayS 7 (Lp.getD j default) && decide ((Lp.getD j default).b < (l : Int)))) := by unfold hasM; rw [hX.2.1]
    rw [← hf] at hmay
    clear hX hR hN hQ
    generalize Lp.getD k default = pt at *
    generalize Lp.getD j default = pu at *
    obtain ⟨g, hg⟩ : ∃ g, g = hasM x pu := ⟨_, rfl⟩
    rw [← hg] at hmay2
    have o1 : hasM x pt = true → 0 ≤ pt.o ∧ pt.o ≤ 1000 := fun h => by have := InM.off h; omega
    have o2 : hasM x pu = true → 0 ≤ pu.o ∧ pu.o ≤ 1000 := fun h => by have := InM.off h; omega
    have cA := fun w hx => Apart_any q2 l cap2 x pt pu o1 o2 w hx
    rw [← hf, ← hg] at cA
    have cA2 : ∀ w, IsMem w q2 l x → Calls Tryz.prog 13 #[.slice q2 l cap2, scV pt, scV pu] w (ApPost (apV (f && g) pt pu) (apB (f && g) pt pu) (apE (f && g)) w) := cA
    have hcase : ((f && g) = true ∧ apE (f && g) = 0 ∧ (∀ w, Calls Tryz.prog 15 #[scV pt, scV pu] w fun e w' => e = .returned (.tuple #[.int .i64 (apV (f && g) pt pu), .int .i64 (apB (f && g) pt pu)]) ∧ Below w.heap.size w w')) ∨ ((f && g) = false ∧ apE (f && g) = 1 ∧ apV (f && g) pt pu = 0 ∧ apB (f && g) pt pu = 0) := by
      cases hfg : (f && g)
      · exact Or.inr ⟨rfl, rfl, rfl, rfl⟩
      · obtain ⟨h1, h2⟩ := Bool.and_eq_true_iff.1 hfg
        refine Or.inl ⟨rfl, rfl, fun w => ?_⟩
        have := rApart_any pt pu (o1 (by rw [← hf, h1])) (o2 (by rw [← hg, h2])) w
        unfold apV apB
        by_cases hb : pt.b = pu.b
        · simpa [hb] using this
        · simpa [hb] using this
    generalize apV (f && g) pt pu = n1 at *
    generalize apB (f && g) pt pu = b1 at *
    generalize apE (f && g) = e1 at *
    have cS := fun w => Same_any pt pu w
    have cRS := fun w => rSame_any pt pu w
    have cP := fun w => rPointer_any q2 l cap2 pu w
    have cC1 := fun w => rScalar_any 7 pt w
    have cC2 := fun w => rScalar_any 7 pu w
    have hsame : (mayS 7 pt && mayS 7 pu) = true ∧ sameE pt pu = 0 ∧ sameV pt pu = (if eqS pt pu then 1 else 0) ∨ (mayS 7 pt && mayS 7 pu) = false ∧ sameE pt pu = 1 ∧ sameV pt pu = 0 := by
      unfold sameV sameE
      cases (mayS 7 pt && mayS 7 pu)
      · exact Or.inr ⟨rfl, rfl, rfl⟩
      · exact Or.inl ⟨rfl, rfl, rfl⟩
    generalize sameV pt pu = sV at *
    generalize sameE pt pu = sE at *
    generalize (if eqS pt pu then (1 : Int) else 0) = iS at *
    have hfp : f = true → g = (mayS 7 pu && decide (pu.b < (l : Int))) := fun h => by
      rw [h] at hmay
      rw [hmay2]
      have := (Bool.and_eq_true_iff.1 hmay.symm).1
      rw [this, Bool.true_and]
    generalize (mayS 7 pu && decide (pu.b < (l : Int))) = pb at *
    generalize mayS 7 pt = u1 at *
    generalize mayS 7 pu = u2 at *
    clear cA o1 o2 hmay hmay2 hf hg
    unfold ApPost at cA2
    obtain ⟨p0, p1, p2, p3⟩ := pt
    obtain ⟨q0, q1, q3, q4⟩ := pu
    simp only [scV_eq] at cA2 cS cRS cP cC1 cC2 hcase
    obtain ⟨s0, s1, s2, s3⟩ := hS
    obtain ⟨r0, r1, r2, r3⟩ := hU
    dsimp only at s0 s1 s2 s3 r0 r1 r2 r3
    have HCASE := Lib.hid hcase
    have HSAME := Lib.hid hsame
    have HFP := Lib.hid hfp
    have HBD := Lib.hid hbd
    have HS := Lib.hid (And.intro s0 (And.intro s1 (And.intro s2 s3)))
    have HU := Lib.hid (And.intro r0 (And.intro r1 (And.intro r2 r3)))
    have HCA := Lib.hid cA2
    have HCS := Lib.hid cS
    have HCR := Lib.hid cRS
    have HCP := Lib.hid cP
    have HC1 := Lib.hid cC1
    have HC2 := Lib.hid cC2
    clear hcase hsame hfp hbd s0 s1 s2 s3 r0 r1 r2 r3 cA2 cS cRS cP cC1 cC2
    go_upto_region 27 with (fail)
    go_cut [18, 19, 20] from 141 to 154 (fun v18 v19 v20 wx => v18 = .int .i64 n1 ∧ v19 = .int .i64 b1 ∧ v20 = .int .i64 e1 ∧ Below wr.heap.size wr wx)
    case first =>
      obtain ⟨s0, s1, s2, s3⟩ := HS.out
      obtain ⟨r0, r1, r2, r3⟩ := HU.out
      have s0q := fun p : BelowBy wr => p.cell s0
      have s1q := fun p : BelowBy wr => p.cell s1
      have s2q := fun p : BelowBy wr => p.cell s2
      have s3q := fun p : BelowBy wr => p.cell s3
      have r0q := fun p : BelowBy wr => p.cell r0
      have r1q := fun p : BelowBy wr => p.cell r1
      have r2q := fun p : BelowBy wr => p.cell r2
      have r3q := fun p : BelowBy wr => p.cell r3
      have cBq := fun p : BelowBy wr => HCA.out p.world (HMx.out.below p.below)
      go_wp2_with fail
      refine wp_region_quiet_below (by kernel_rfl) (by kernel_rfl) ?_
      repeat (go_big_quiet_step ((go_at_call 13; (with_reducible exact Calls.below_of (cBq _)))))
      refine wpQuiet_nil ?_
      intro w5 hw'
      have hbB : Below wr.heap.size wr w5 := by (obtain ⟨⟨_, h⟩, h2⟩ := hw'; rw [h2]; exact h)
      clear hw' cBq s0q s1q s2q s3q r0q r1q r2q r3q
      go_wp2
      go_meet
      case rel => exact ⟨rfl, rfl, rfl, hbB⟩
    case rest =>
      obtain ⟨rfl, rfl, rfl, hbw⟩ := hcut
      replace HMx := Lib.hid (HMx.out.below hbw)
      replace HBD := Lib.hid (HBD.out.trans (hbw.mono HBD.out.size))
      replace HS := Lib.hid (And.intro (cell_below HS.out.1 hbw) (And.intro (cell_below HS.out.2.1 hbw) (And.intro (cell_below HS.out.2.2.1 hbw) (cell_below HS.out.2.2.2 hbw))))
      replace HU := Lib.hid (And.intro (cell_below HU.out.1 hbw) (And.intro (cell_below HU.out.2.1 hbw) (And.intro (cell_below HU.out.2.2.1 hbw) (cell_below HU.out.2.2.2 hbw))))
      clear hbw
      obtain ⟨wb, hwb⟩ : ∃ wb, wb = wc := ⟨_, rfl⟩
      rw [← hwb] at HMx HBD HS HU ⊢
      clear hwb
      go_upto_region 28 with (fail)
      go_cut [21, 22] from 155 to 166 (fun v21 v22 wx => v21 = .int .i64 sV ∧ v22 = .int .i64 sE ∧ Below wb.heap.size wb wx)
      case first =>
        obtain ⟨s0, s1, s2, s3⟩ := HS.out
        obtain ⟨r0, r1, r2, r3⟩ := HU.out
        have s0q := fun p : BelowBy wb => p.cell s0
        have s1q := fun p : BelowBy wb => p.cell s1
        have s2q := fun p : BelowBy wb => p.cell s2
        have s3q := fun p : BelowBy wb => p.cell s3
        have r0q := fun p : BelowBy wb => p.cell r0
        have r1q := fun p : BelowBy wb => p.cell r1
        have r2q := fun p : BelowBy wb => p.cell r2
        have r3q := fun p : BelowBy wb => p.cell r3
        have cBq := fun p : BelowBy wb => HCS.out p.world
        go_wp2_with fail
        refine wp_region_quiet_below (by kernel_rfl) (by kernel_rfl) ?_
        repeat (go_big_quiet_step ((go_at_call 14; (with_reducible exact Calls.below_of (cBq _)))))
        refine wpQuiet_nil ?_
        intro w5 hw'
        have hbB : Below wb.heap.size wb w5 := by (obtain ⟨⟨_, h⟩, h2⟩ := hw'; rw [h2]; exact h)
        clear hw' cBq s0q s1q s2q s3q r0q r1q r2q r3q
        go_wp2
        go_meet
        case rel => exact ⟨rfl, rfl, hbB⟩
      case rest =>
        obtain ⟨rfl, rfl, hbw⟩ := hcut
        replace HMx := Lib.hid (HMx.out.below hbw)
        replace HBD := Lib.hid (HBD.out.trans (hbw.mono HBD.out.size))
        replace HS := Lib.hid (And.intro (cell_below HS.out.1 hbw) (And.intro (cell_below HS.out.2.1 hbw) (And.intro (cell_below HS.out.2.2.1 hbw) (cell_below HS.out.2.2.2 hbw))))
        replace HU := Lib.hid (And.intro (cell_below HU.out.1 hbw) (And.intro (cell_below HU.out.2.1 hbw) (And.intro (cell_below HU.out.2.2.1 hbw) (cell_below HU.out.2.2.2 hbw))))
        clear hbw
        obtain ⟨we, hwe⟩ : ∃ we, we = wc := ⟨_, rfl⟩
        rw [← hwe] at HMx HBD HS HU ⊢
        clear hwe
        go_upto_region 30 with (fail)
        go_cut [175] from 167 to 174 (fun v wx => v = .bool (f && g) ∧ Below we.heap.size we wx)
        case first =>
          obtain ⟨s0, s1, s2, s3⟩ := HS.out
          obtain ⟨r0, r1, r2, r3⟩ := HU.out
          cases f
          · go_wp2_with fail
            go_meet
            case rel => exact ⟨rfl, Below.refl _ _⟩
          · have hgp := HFP.out rfl
            subst hgp
            have cP := HCP.out
            go_wp2_with (go_at_call 8; (with_reducible refine (cP _).mono ?_); rintro e wa ⟨rfl, hba⟩)
            go_meet
            case rel => exact ⟨rfl, hba⟩
        case rest =>
          obtain ⟨rfl, hbw⟩ := hcut
          replace HMx := Lib.hid (HMx.out.below hbw)
          replace HBD := Lib.hid (HBD.out.trans (hbw.mono HBD.out.size))
          replace HS := Lib.hid (And.intro (cell_below HS.out.1 hbw) (And.intro (cell_below HS.out.2.1 hbw) (And.intro (cell_below HS.out.2.2.1 hbw) (cell_below HS.out.2.2.2 hbw))))
          replace HU := Lib.hid (And.intro (cell_below HU.out.1 hbw) (And.intro (cell_below HU.out.2.1 hbw) (And.intro (cell_below HU.out.2.2.1 hbw) (cell_below HU.out.2.2.2 hbw))))
          clear hbw HCP HFP HCA HCS
          generalize (f && g) = fg at *
          obtain ⟨wf, hwf⟩ : ∃ wf, wf = wc := ⟨_, rfl⟩
          rw [← hwf] at HMx HBD HS HU ⊢
          clear hwf
          go_upto_if 175 with (fail)
          go_cut [23, 25, 26] from 176 to 187 (fun v23 v25 v26 wx => v23 = .int .i64 e1 ∧ v25 = .int .i64 n1 ∧ v26 = .int .i64 b1 ∧ Below wf.heap.size wf wx)
          case first =>
            cases fg
            · obtain ⟨_, rfl, rfl, rfl⟩ := HCASE.out.resolve_left (fun h => absurd h.1 (by simp))
              go_wp2_with fail
              go_meet
              case rel => exact ⟨rfl, rfl, rfl, Below.refl _ _⟩
            · obtain ⟨_, rfl, cRA⟩ := HCASE.out.resolve_right (fun h => absurd h.1 (by simp))
              obtain ⟨s0, s1, s2, s3⟩ := HS.out
              obtain ⟨r0, r1, r2, r3⟩ := HU.out
              have s0q := fun p : BelowBy wf => p.cell s0
              have s1q := fun p : BelowBy wf => p.cell s1
              have s2q := fun p : BelowBy wf => p.cell s2
              have s3q := fun p : BelowBy wf => p.cell s3
              have r0q := fun p : BelowBy wf => p.cell r0
              have r1q := fun p : BelowBy wf => p.cell r1
              have r2q := fun p : BelowBy wf => p.cell r2
              have r3q := fun p : BelowBy wf => p.cell r3
              have cBq := fun p : BelowBy wf => cRA p.world
              go_wp2_with fail
              refine wp_region_quiet_below (by kernel_rfl) (by kernel_rfl) ?_
              repeat (go_big_quiet_step ((go_at_call 15; (with_reducible exact Calls.below_of (cBq _)))))
              refine wpQuiet_nil ?_
              intro w5 hw'
              have hbB : Below wf.heap.size wf w5 := by (obtain ⟨⟨_, h⟩, h2⟩ := hw'; rw [h2]; exact h)
              clear hw' cBq s0q s1q s2q s3q r0q r1q r2q r3q
              go_wp2
              go_meet
              case rel => exact ⟨rfl, rfl, rfl, hbB⟩
          case rest =>
            obtain ⟨rfl, rfl, rfl, hbw⟩ := hcut
            replace HMx := Lib.hid (HMx.out.below hbw)
            replace HBD := Lib.hid (HBD.out.trans (hbw.mono HBD.out.size))
            replace HS := Lib.hid (And.intro (cell_below HS.out.1 hbw) (And.intro (cell_below HS.out.2.1 hbw) (And.intro (cell_below HS.out.2.2.1 hbw) (cell_below HS.out.2.2.2 hbw))))
            replace HU := Lib.hid (And.intro (cell_below HU.out.1 hbw) (And.intro (cell_below HU.out.2.1 hbw) (And.intro (cell_below HU.out.2.2.1 hbw) (cell_below HU.out.2.2.2 hbw))))
            clear hbw HCASE
            obtain ⟨wg, hwg⟩ : ∃ wg, wg = wc := ⟨_, rfl⟩
            rw [← hwg] at HMx HBD HS HU ⊢
            clear hwg
            go_upto_region 33 with (fail)
            go_cut [199] from 188 to 198 (fun v wx => v = .bool (u1 && u2) ∧ Below wg.heap.size wg wx)
            case first =>
              obtain ⟨s0, s1, s2, s3⟩ := HS.out
              obtain ⟨r0, r1, r2, r3⟩ := HU.out
              have cC1 := HC1.out
              have cC2 := HC2.out
              cases u1
              · go_wp2_with (go_at_call 16; (with_reducible refine (cC1 _).mono ?_); rintro e wa ⟨rfl, hba⟩; replace r0 := cell_below r0 hba; replace r1 := cell_below r1 hba; replace r2 := cell_below r2 hba; replace r3 := cell_below r3 hba)
                go_meet
                case rel => exact ⟨rfl, hba⟩
              · go_wp2_with (first | (go_at_call 16; (with_reducible refine (cC1 _).mono ?_); rintro e wa ⟨rfl, hba⟩; replace r0 := cell_below r0 hba; replace r1 := cell_below r1 hba; replace r2 := cell_below r2 hba; replace r3 := cell_below r3 hba; clear cC1) | (go_at_call 16; (with_reducible refine (cC2 _).mono ?_); rintro e wx2 ⟨rfl, hbx⟩))
                go_meet
                case rel => exact ⟨rfl, hba.trans (hbx.mono hba.size)⟩
            case rest =>
              obtain ⟨rfl, hbw⟩ := hcut
              replace HMx := Lib.hid (HMx.out.below hbw)
              replace HBD := Lib.hid (HBD.out.trans (hbw.mono HBD.out.size))
              replace HS := Lib.hid (And.intro (cell_below HS.out.1 hbw) (And.intro (cell_below HS.out.2.1 hbw) (And.intro (cell_below HS.out.2.2.1 hbw) (cell_below HS.out.2.2.2 hbw))))
              replace HU := Lib.hid (And.intro (cell_below HU.out.1 hbw) (And.intro (cell_below HU.out.2.1 hbw) (And.intro (cell_below HU.out.2.2.1 hbw) (cell_below HU.out.2.2.2 hbw))))
              clear hbw HC1 HC2
              generalize (u1 && u2) = uu at *
              obtain ⟨wh, hwh⟩ : ∃ wh, wh = wc := ⟨_, rfl⟩
              rw [← hwh] at HMx HBD HS HU ⊢
              clear hwh
              go_upto_if 199 with (fail)
              go_cut [24, 27] from 200 to 208 (fun v24 v27 wx => v24 = .int .i64 sE ∧ v27 = .int .i64 sV ∧ Below wh.heap.size wh wx)
              case first =>
                cases uu
                · obtain ⟨_, rfl, rfl⟩ := HSAME.out.resolve_left (fun h => absurd h.1 (by simp))
                  go_wp2_with fail
                  go_meet
                  case rel => exact ⟨rfl, rfl, Below.refl _ _⟩
                · obtain ⟨_, rfl, rfl⟩ := HSAME.out.resolve_right (fun h => absurd h.1 (by simp))
                  have cRS := HCR.out
                  obtain ⟨s0, s1, s2, s3⟩ := HS.out
                  obtain ⟨r0, r1, r2, r3⟩ := HU.out
                  have s0q := fun p : BelowBy wh => p.cell s0
                  have s1q := fun p : BelowBy wh => p.cell s1
                  have s2q := fun p : BelowBy wh => p.cell s2
                  have s3q := fun p : BelowBy wh => p.cell s3
                  have r0q := fun p : BelowBy wh => p.cell r0
                  have r1q := fun p : BelowBy wh => p.cell r1
                  have r2q := fun p : BelowBy wh => p.cell r2
                  have r3q := fun p : BelowBy wh => p.cell r3
                  have cBq := fun p : BelowBy wh => cRS p.world
                  go_wp2_with fail
                  refine wp_region_quiet_below (by kernel_rfl) (by kernel_rfl) ?_
                  repeat (go_big_quiet_step ((go_at_call 17; (with_reducible exact Calls.below_of (cBq _)))))
                  refine wpQuiet_nil ?_
                  intro w5 hw'
                  have hbB : Below wh.heap.size wh w5 := by (obtain ⟨⟨_, h⟩, h2⟩ := hw'; rw [h2]; exact h)
                  clear hw' cBq s0q s1q s2q s3q r0q r1q r2q r3q
                  go_wp2
                  go_meet
                  case rel => exact ⟨rfl, rfl, hbB⟩
              case rest =>
                obtain ⟨rfl, rfl, hbw⟩ := hcut
                have b9 := HBD.out.trans (hbw.mono HBD.out.size)
                have t1 : (e1 != e1) = false := by simp
                have t2 : (n1 != n1) = false := by simp
                have t3 : (b1 != b1) = false := by simp
                have t4 : (sE != sE) = false := by simp
                have t5 : (sV != sV) = false := by simp
                have cN := fun x w => num9_any x w
                clear hbw HMx HBD HS HU HSAME HCR
                go_wp2_with (go_at_call 12; (with_reducible refine (cN _ _).mono ?_); rintro e w' ⟨rfl, rfl⟩)
                refine Handed.intro (n - 1) (by omega) (hJ _ _ _ ⟨_, j + 1, _, rfl, ⟨rfl, rfl, rfl, rfl, rfl, rfl, rfl, rfl, rfl⟩, rfl, (by go_num), by omega, b9⟩)
  · have hj3 : decide ((j : Int) < (np : Int)) = false := by simp; omega
    clear hJ hX hR hN hf
    go_wp2_with fail
    exact hQ _ _ ⟨rfl, rfl, rfl, rfl, rfl, rfl, rfl, rfl, rfl⟩ hbd
end Go.Proofs.YtcppmibeiilgbaaGreat

/- MemMoves: its second loop: each pointer. -/
namespace Go.Proofs.YtcppmibeiilgbaaGreat
open Go.ChangeShapes Go.WideShapes Go.ChangeAt Go.RowKit Go.Joins Go.Deep
set_option linter.unusedVariables false

def FrK (t : Array Value) (v1 v3 v4 v5 v6 v7 : Value) : Prop := t.size = 243 ∧ sl t 1 = v1 ∧ sl t 3 = v3 ∧ sl t 4 = v4 ∧ sl t 5 = v5 ∧ sl t 6 = v6 ∧ sl t 7 = v7
def Rel2 (B gn m capn i l cap2 gp np capp : Nat) (q2 : Option Addr) (b : Bool) (w0 : World) (n : Nat) (a : Act) (wr : World) : Prop :=
  ∃ t k z, a = ⟨t, []⟩ ∧ FrK t (.pointer (some ⟨B, 0, none⟩)) (.slice (some ⟨gn, 0, none⟩) m capn) (.int .i64 (i : Nat)) (.slice q2 l cap2) (.bool b) (.slice (some ⟨gp, 0, none⟩) np capp) ∧ sl t 8 = .int .i64 z ∧ z = (k : Nat) ∧ k + n = np ∧ Below w0.heap.size w0 wr
set_option maxRecDepth 1000000 in
set_option maxHeartbeats 6400000 in
theorem mloop2 (B gn m capn i l cap2 gp np capp : Nat) (q2 : Option Addr) (b : Bool) (x : List BK) (Lp : List SC) (w0 : World) (hX : IsMem w0 q2 l x) (hR : ScRow w0 gp np Lp) (hN : AnyInts w0 gn m) (hnp : np ≤ 25) (hb : b = mayM x)
    (t : Array Value) (hF : FrK t (.pointer (some ⟨B, 0, none⟩)) (.slice (some ⟨gn, 0, none⟩) m capn) (.int .i64 (i : Nat)) (.slice q2 l cap2) (.bool b) (.slice (some ⟨gp, 0, none⟩) np capp)) (fc : sl t 8 = .int .i64 0) (Q : Exit → Act → World → Prop)
    (hQ : ∀ t w', FrK t (.pointer (some ⟨B, 0, none⟩)) (.slice (some ⟨gn, 0, none⟩) m capn) (.int .i64 (i : Nat)) (.slice q2 l cap2) (.bool b) (.slice (some ⟨gp, 0, none⟩) np capp) → Below w0.heap.size w0 w' → Q (.exit 2) ⟨t, []⟩ w') :
    (Code.loop mBody2).wp Tryz.prog (NoPanic Q) ⟨t, []⟩ w0 := by
  refine wp_loop_ghost_k (Rel2 B gn m capn i l cap2 gp np capp q2 b w0) np ⟨t, 0, 0, rfl, hF, fc, rfl, by omega, Below.refl _ _⟩ ?_
  clear hF fc
  intro n a wr hrel iK iJv hJ hK
  clear t
  obtain ⟨t, k, z, rfl, ⟨f0, f1, f3, f4, f5, f6, f7⟩, fc, rfl, hkn, hbd⟩ := hrel
  rw [open_243 t f0]
  simp only [f1, f3, f4, f5, f6, f7, fc]
  clear f0 f1 f3 f4 f5 f6 f7 fc
  conv => arg 2; whnf
  by_cases hkp : k < np
  · have hk3 : (k : Int) < (np : Int) := by omega
    have hS := (hR.below hbd).2 k hkp
    have hM2 : hasM x (Lp.getD k default) = (b && (mayS 7 (Lp.getD k default) && decide ((Lp.getD k default).b < (l : Int)))) := by unfold hasM; rw [hX.2.1, hb]
    have hPt := fun w => rPointer_any q2 l cap2 (Lp.getD k default) w
    have HX := Lib.hid (hX.below hbd)
    have HR := Lib.hid (hR.below hbd)
    have HN := Lib.hid (hN.below hbd)
    have HBD := Lib.hid hbd
    obtain ⟨f, hf⟩ : ∃ f, f = hasM x (Lp.getD k default) := ⟨_, rfl⟩
    rw [← hf] at hM2
    have HF := Lib.hid hf
    clear hX hR hN hQ hb hf hbd
    generalize hpt : Lp.getD k default = pt at hS hM2 hPt
    clear hpt
    generalize (mayS 7 pt && decide (pt.b < (l : Int))) = pb at *
    obtain ⟨p0, p1, p2, p3⟩ := pt
    simp only [scV_eq] at hPt
    obtain ⟨s0, s1, s2, s3⟩ := hS
    dsimp only at s0 s1 s2 s3
    have HM2 := Lib.hid hM2
    clear hM2
    go_upto_region 13 with (fail)
    go_cut [9] from 66 to 74 (fun v wx => v = .bool f ∧ Below wr.heap.size wr wx)
    case first =>
      cases b
      · have hf : f = false := by rw [HM2.out]; rfl
        subst hf
        clear s0 s1 s2 s3
        go_wp2_with fail
        go_meet
        case rel => exact ⟨rfl, Below.refl _ _⟩
      · have hf : f = pb := by rw [HM2.out]; cases pb <;> rfl
        have hPt2 : ∀ w, Calls Tryz.prog 8 #[.slice q2 l cap2, .agg #[.bool p0, .int .i64 p1, .int .i64 p2, .int .i64 p3]] w fun e w' => e = .returned (.bool f) ∧ Below w.heap.size w w' := by rw [hf]; exact hPt
        clear hf hPt
        go_wp2_with (go_at_call 8; (with_reducible refine (hPt2 _).mono ?_); rintro e wa ⟨rfl, hba⟩)
        go_meet
        case rel => exact ⟨rfl, hba⟩
    case rest =>
      obtain ⟨rfl, hbw⟩ := hcut
      clear s0 s1 s2 s3 hPt HM2
      replace HX := Lib.hid (HX.out.below hbw)
      replace HR := Lib.hid (HR.out.below hbw)
      replace HN := Lib.hid (HN.out.below hbw)
      replace HBD := Lib.hid (HBD.out.trans (hbw.mono HBD.out.size))
      clear hbw
      go_wp2_with fail
      refine noPanic_mono (mloop3 B gn m capn i l cap2 gp np capp k q2 (.bool b) f x Lp _ HX.out HR.out HN.out hkp hnp HF.out _ ⟨rfl, rfl, rfl, rfl, rfl, rfl, rfl, rfl, rfl⟩ rfl _ ?_)
      intro t2 wB hF hbB
      obtain ⟨f0, f1, f3, f4, f5, f6, f7, f8, f9⟩ := hF
      rw [open_243 t2 f0]
      simp only [f1, f3, f4, f5, f6, f7, f8, f9]
      clear f0 f1 f3 f4 f5 f6 f7 f8 f9
      replace HX := Lib.hid (HX.out.below hbB)
      replace HR := Lib.hid (HR.out.below hbB)
      replace HN := Lib.hid (HN.out.below hbB)
      replace HBD := Lib.hid (HBD.out.trans (hbB.mono HBD.out.size))
      clear hbB
      go_wp2_with fail
      refine noPanic_mono (mloop4 B gn m capn i l cap2 gp np capp k q2 (.bool b) f x Lp _ HX.out HR.out HN.out hkp hnp HF.out _ ⟨rfl, rfl, rfl, rfl, rfl, rfl, rfl, rfl, rfl⟩ rfl _ ?_)
      intro t3 wC hF hbC
      obtain ⟨f0, f1, f3, f4, f5, f6, f7, f8, f9⟩ := hF
      rw [open_243 t3 f0]
      simp only [f1, f3, f4, f5, f6, f7, f8, f9]
      clear f0 f1 f3 f4 f5 f6 f7 f8 f9
      have b9 := HBD.out.trans (hbC.mono HBD.out.size)
      clear hbC HX HR HN HBD HF
      go_wp2_with fail
      refine Handed.intro (n - 1) (by omega) (hJ _ _ _ ⟨_, k + 1, _, rfl, ⟨rfl, rfl, rfl, rfl, rfl, rfl, rfl⟩, rfl, (by go_num), by omega, b9⟩)
  · have hk3 : decide ((k : Int) < (np : Int)) = false := by simp; omega
    clear hJ hX hR hN
    go_wp2_with fail
    exact hQ _ _ ⟨rfl, rfl, rfl, rfl, rfl, rfl, rfl⟩ hbd
end Go.Proofs.YtcppmibeiilgbaaGreat

/- MemMoves: its first loop: each memory. -/
namespace Go.Proofs.YtcppmibeiilgbaaGreat
open Go.ChangeShapes Go.WideShapes Go.ChangeAt Go.RowKit Go.Joins Go.Deep
set_option linter.unusedVariables false

def FrI (t : Array Value) (v1 v3 : Value) : Prop := t.size = 243 ∧ sl t 1 = v1 ∧ sl t 3 = v3
def Rel1 (B gn m capn : Nat) (w0 : World) (n : Nat) (a : Act) (wr : World) : Prop :=
  ∃ t i z, a = ⟨t, []⟩ ∧ FrI t (.pointer (some ⟨B, 0, none⟩)) (.slice (some ⟨gn, 0, none⟩) m capn) ∧ sl t 4 = .int .i64 z ∧ z = (i : Nat) ∧ i + n = 5 ∧ Below w0.heap.size w0 wr
set_option maxRecDepth 1000000 in
set_option maxHeartbeats 6400000 in
theorem mloop1 (B gn m capn : Nat) (pm ps pn pa : Option Addr) (lm cm ls cs ln cn la ca : Nat) (ms : List MM) (ss : List SC) (w0 : World) (hls : ls ≤ 700) (hln : ln ≤ 700) (hin : InMems w0 pm lm ms) (hle : ∀ i, i < lm → LeMem 700 (ms.getD i default)) (hss : InScs w0 ps ls cs ss) (hN : AnyInts w0 gn m) (dK : At w0 B #[.slice pm lm cm, .slice ps ls cs, .slice pn ln cn, .slice pa la ca] 27)
    (t : Array Value) (hF : FrI t (.pointer (some ⟨B, 0, none⟩)) (.slice (some ⟨gn, 0, none⟩) m capn)) (fc : sl t 4 = .int .i64 0) (Q : Exit → Act → World → Prop)
    (hQ : ∀ t w', FrI t (.pointer (some ⟨B, 0, none⟩)) (.slice (some ⟨gn, 0, none⟩) m capn) → Below w0.heap.size w0 w' → Q (.exit 0) ⟨t, []⟩ w') :
    (Code.loop mBody1).wp Tryz.prog (NoPanic Q) ⟨t, []⟩ w0 := by
  refine wp_loop_ghost_k (Rel1 B gn m capn w0) 5 ⟨t, 0, 0, rfl, hF, fc, rfl, by omega, Below.refl _ _⟩ ?_
  clear hF fc
  intro n a wr hrel iK iJv hJ hK
  clear t
  obtain ⟨t, i, z, rfl, ⟨f0, f1, f3⟩, fc, rfl, hin5, hbd⟩ := hrel
  rw [open_243 t f0]
  simp only [f1, f3, fc]
  clear f0 f1 f3 fc
  conv => arg 2; whnf
  have k0 : wr.cell? ⟨B, 0, none⟩ = some (.slice pm lm cm) := (At.below' hbd dK).cell 0 rfl
  go_upto_region 5 with (fail)
  go_cut [42] from 34 to 41 (fun v wx => ∃ c : Bool, v = .bool c ∧ (c = true ↔ (i < lm ∧ i < 5)) ∧ wx = wr)
  case first =>
    clear hJ hK hQ hin hle hss hN dK hbd
    by_cases h1 : i < lm
    · have t1 : (i : Int) < (lm : Int) := by omega
      by_cases h2 : i < 5
      · have t2 : (i : Int) < 5 := by omega
        go_wp2_with fail
        go_meet
        case rel => exact ⟨true, rfl, by simp [h1, h2], rfl⟩
      · have t2 : decide ((i : Int) < 5) = false := by simp; omega
        go_wp2_with fail
        go_meet
        case rel => exact ⟨false, rfl, by simp [h2], rfl⟩
    · have t1 : decide ((i : Int) < (lm : Int)) = false := by simp; omega
      go_wp2_with fail
      go_meet
      case rel => exact ⟨false, rfl, by simp [h1], rfl⟩
  case rest =>
    obtain ⟨c, rfl, hc, rfl⟩ := hcut
    cases c
    · clear hJ hc hin hle hss hN dK k0
      go_wp2_with fail
      exact hQ _ _ ⟨rfl, rfl, rfl⟩ hbd
    · obtain ⟨hlt1, hlt2⟩ := hc.1 rfl
      have hi3 : (i : Int) < (lm : Int) := by omega
      obtain ⟨bm, om, rfl, hbm, hcm⟩ := hin.2 (by omega)
      obtain ⟨z0, hmem⟩ := hcm i hlt1
      have z1 := cell_below z0 hbd
      have hmemL := hle i hlt1
      have hisM := (hmem.below hbd).isMem (hmemL.mono (by omega))
      have HDK := Lib.hid (At.below' hbd dK)
      have HS := Lib.hid (hss.below hbd)
      have HN := Lib.hid (hN.below hbd)
      have HB := Lib.hid hbd
      clear hin hss hN hcm z0 hmem hmemL hle hQ hc dK hbd
      generalize ms.getD i default = mi at *
      obtain ⟨mq, mc, mm⟩ := mi
      dsimp only at z1 hisM
      have HI := Lib.hid hisM
      have HZ := Lib.hid z1
      clear hisM
      generalize hLM : mm.length = l at *
      have HLM := Lib.hid hLM
      clear hLM
      go_wp2_with fail
      refine (copyBlocks_any mq l mc mm _ HI.out).mono ?_
      rintro e w4 ⟨q2, cap2, x, rfl, hx, hdat, hcp, hbS⟩
      have HX := Lib.hid hx
      have HDAT := Lib.hid hdat
      clear k0 z1 hx hdat
      replace HDK := Lib.hid (At.below' hbS HDK.out)
      replace HI := Lib.hid (HI.out.below hbS)
      replace HN := Lib.hid (HN.out.below hbS)
      replace HS := Lib.hid (HS.out.below hbS)
      replace HB := Lib.hid (HB.out.trans (hbS.mono HB.out.size))
      replace HZ := Lib.hid (cell_below HZ.out hbS)
      clear hbS
      have k0 : w4.cell? ⟨B, 0, none⟩ = some (.slice (some ⟨bm, om, none⟩) lm cm) := HDK.out.cell 0 rfl
      have z1 := HZ.out
      go_wp2_with fail
      refine (rMem_any mq l mc mm w4 HI.out).mono ?_
      rintro e w5 ⟨rfl, hbS⟩
      clear k0 z1
      replace HDK := Lib.hid (At.below' hbS HDK.out)
      replace HI := Lib.hid (HI.out.below hbS)
      replace HN := Lib.hid (HN.out.below hbS)
      replace HX := Lib.hid (HX.out.below hbS)
      replace HS := Lib.hid (HS.out.below hbS)
      replace HB := Lib.hid (HB.out.trans (hbS.mono HB.out.size))
      replace HZ := Lib.hid (cell_below HZ.out hbS)
      clear hbS
      obtain ⟨b, hb⟩ : ∃ b, b = mayM mm := ⟨_, rfl⟩
      rw [← hb]
      have hb2 : b = mayM x := by rw [hb, mayM_dat HDAT.out]
      have HBM := Lib.hid hb2
      clear hb hb2
      have dk0 : w5.cell? ⟨B, 0, none⟩ = some (.slice (some ⟨bm, om, none⟩) lm cm) := HDK.out.cell 0 rfl
      have dk1 : w5.cell? ⟨B, 1, none⟩ = some (.slice ps ls cs) := HDK.out.cell 1 rfl
      have dk2 : w5.cell? ⟨B, 2, none⟩ = some (.slice pn ln cn) := HDK.out.cell 2 rfl
      have dk3 : w5.cell? ⟨B, 3, none⟩ = some (.slice pa la ca) := HDK.out.cell 3 rfl
      go_wp2_with fail
      clear dk0 dk1 dk2 dk3
      refine (pointers9_any (some ⟨bm, om, none⟩) ps pn pa lm cm ls cs ln cn la ca ss hls hln q2 l cap2 x w5 HS.out HX.out).mono ?_
      rintro e w7 ⟨gp, np, capp, Lp, rfl, hn2, hn25, hgp, hrow, hbS⟩
      replace HDK := Lib.hid (At.below' hbS HDK.out)
      replace HI := Lib.hid (HI.out.below hbS)
      replace HN := Lib.hid (HN.out.below hbS)
      replace HX := Lib.hid (HX.out.below hbS)
      replace HB := Lib.hid (HB.out.trans (hbS.mono HB.out.size))
      replace HZ := Lib.hid (cell_below HZ.out hbS)
      clear hbS
      have HR := Lib.hid hrow
      clear hrow HS
      go_wp2_with fail
      refine noPanic_mono (mloop2 B gn m capn i l cap2 gp np capp q2 b x Lp w7 HX.out HR.out HN.out hn25 HBM.out _ ⟨rfl, rfl, rfl, rfl, rfl, rfl, rfl⟩ rfl _ ?_)
      intro t2 wB hF hbS
      obtain ⟨f0, f1, f3, f4, f5, f6, f7⟩ := hF
      rw [open_243 t2 f0]
      simp only [f1, f3, f4, f5, f6, f7]
      clear f0 f1 f3 f4 f5 f6 f7
      replace HDK := Lib.hid (At.below' hbS HDK.out)
      replace HI := Lib.hid (HI.out.below hbS)
      replace HX := Lib.hid (HX.out.below hbS)
      replace HB := Lib.hid (HB.out.trans (hbS.mono HB.out.size))
      replace HZ := Lib.hid (cell_below HZ.out hbS)
      clear hbS
      have k0 : wB.cell? ⟨B, 0, none⟩ = some (.slice (some ⟨bm, om, none⟩) lm cm) := HDK.out.cell 0 rfl
      have z1 := HZ.out
      have hEq := eqBlocks_yes q2 l cap2 x mq mc mm wB HX.out HI.out HDAT.out
      clear HN HR HBM
      go_wp2_with fail
      refine hEq.mono ?_
      rintro e wE ⟨rfl, hbE⟩
      have b9 := HB.out.trans (hbE.mono HB.out.size)
      clear hEq k0 z1 hbE
      go_wp2_with fail
      refine Handed.intro (n - 1) (by omega) (hJ _ _ _ ⟨_, i + 1, _, rfl, ⟨rfl, rfl, rfl⟩, rfl, (by go_num), by omega, b9⟩)
end Go.Proofs.YtcppmibeiilgbaaGreat

/- MemMoves: its walk. -/
namespace Go.Proofs.YtcppmibeiilgbaaGreat
open Go.ChangeShapes Go.WideShapes Go.ChangeAt Go.RowKit Go.Joins Go.Deep
set_option linter.unusedVariables false

set_option maxRecDepth 100000 in
set_option maxHeartbeats 12800000 in
theorem moves_any (pm ps pn pa : Option Addr) (lm cm ls cs ln cn la ca : Nat) (ms : List MM) (ss : List SC) (zs : List Int) (h2 : ls ≤ 140737488355328) (h3 : ln ≤ 140737488355328) (h4 : la ≤ 140737488355328) (h5 : lm ≤ 140737488355328) (w : World) (hin : InMems w pm lm ms) (hle : ∀ i, i < lm → LeMem 140737488355328 (ms.getD i default)) (hss : InScs w ps ls cs ss) (hn : IsInts w pn ln zs) (hcn : pn = none → cn = 0) :
    Calls Tryz.prog 3 #[.agg #[.slice pm lm cm, .slice ps ls cs, .slice pn ln cn, .slice pa la ca]] w fun e w' => e = .returned (.bool true) ∧ Below w.heap.size w w' := by
  have dK := At.new w #[.slice pm lm cm, .slice ps ls cs, .slice pn ln cn, .slice pa la ca] 27
  have hb0 := below_box1 w (.cells #[.slice pm lm cm, .slice ps ls cs, .slice pn ln cn, .slice pa la ca] 27)
  have cH := fun w hin => heavy9_any pm ps pn pa lm cm ls cs ln cn la ca ms h2 h3 h4 h5 w hin hle
  have cN := fun x w => num9_any x w
  have cW := fun w => wakes9_any w
  have HIN := Lib.hid hin
  have HSS := Lib.hid hss
  clear hin hss hle
  go_enter Tryz.func3, Tryz.ntmps3
  go_wp2_with fail
  refine (cH _ (HIN.out.below hb0)).mono ?_
  rintro e w1 ⟨hv, rfl, hlight, hb1⟩
  replace dK := At.below' hb1 dK
  replace hb0 := hb0.trans (hb1.mono hb0.size)
  clear hb1 cH h2 h3 h4 h5
  cases hv
  · have h7 := hlight rfl
    have HL7 := Lib.hid h7.2
    have hls : ls ≤ 700 := by omega
    have hln : ln ≤ 700 := by omega
    have c1 : w1.cell? ⟨w.heap.size, 2, none⟩ = some (.slice pn ln cn) := dK.cell 2 rfl
    have hyn := ((hn.below hb0).below (below_box1 w1 (.cells #[.int .i64 0, .int .i64 1, .int .i64 4, .int .i64 4294967295, .int .i64 4294967292, .int .i64 2147483648, .int .i64 4294967296, .int .i64 (-1)] 3))).yields hcn
    have hown2 := ownsRow_lit w1 w1.heap.size 3 1 8 #[.int .i64 0, .int .i64 1, .int .i64 4, .int .i64 4294967295, .int .i64 4294967292, .int .i64 2147483648, .int .i64 4294967296, .int .i64 (-1)] (Nat.le_refl _) rfl (by decide)
    obtain ⟨j0, gi, gz0, gz1, gz2⟩ := info_parts moves_infoInt
    have hN1 : w.heap.size < w1.heap.size := dK.lt
    clear hlight h7 hn
    go_wp2_with (first | (at_builtin; refine wpList_append_any rfl _ _ 24 rfl w1.heap.size 3 j0 (.int .i64 0) 1 8 Tryz.underlying24 gi gz0 gz1 gz2 rfl (by decide) _ 8 _ rfl hown2 (fun h => by cases h) _ _ _ _ rfl hyn ?_ ?_ ?_ ?_))
    · unfold maxLen; omega
    · omega
    · simp
    · intro v2 w2 hown3 hgrow3 hne3
      have hbel : Below w1.heap.size w1 w2 := (((Below.refl _ _).alloc (Nat.le_refl _) _).grown hgrow3 (by simp) (fun k hk => by simp [Value.ownBlock] at hk; omega))
      have hown4 : w2.ownsRow w1.heap.size 3 1 v2 (8 + ln) ((0 :: 1 :: 4 :: 4294967295 :: 4294967292 :: 2147483648 :: 4294967296 :: (-1) :: zs).map (Value.int .i64)) := hown3
      obtain ⟨gn, capn, rfl, hgge, hglt, hmax, hx⟩ := ownsRow_cells hown4 hne3
      have hll := hown4.1
      have dK2 := At.below' hbel dK
      have hb02 := hb0.trans (hbel.mono hb0.size)
      obtain ⟨m, hm8⟩ : ∃ m, m = 8 + ln := ⟨_, rfl⟩
      have hns : AnyInts w2 gn m := ⟨hglt, fun q hq => by
        have hq2 : q < (0 :: 1 :: 4 :: 4294967295 :: 4294967292 :: 2147483648 :: 4294967296 :: (-1) :: zs).length := by simp at hll ⊢; omega
        exact ⟨(0 :: 1 :: 4 :: 4294967295 :: 4294967292 :: 2147483648 :: 4294967296 :: (-1) :: zs)[q], hx q _ (by rw [List.getElem?_map, List.getElem?_eq_getElem hq2]; rfl)⟩⟩
      rw [← hm8] at *
      have HNS := Lib.hid hns
      clear hown2 hown3 hown4 hgrow3 hne3 hyn hx hll hmax c1 dK hb0 hbel hm8 gi gz0 gz1 gz2 hns hgge hglt
      have dK := dK2
      have hb0 := hb02
      clear dK2 hb02
      go_wp2_with fail
      have hin2 := HIN.out.below hb0
      have hss2 := HSS.out.below hb0
      refine noPanic_mono (mloop1 w.heap.size gn m capn pm ps pn pa lm cm ls cs ln cn la ca ms ss w2 hls hln hin2 HL7.out hss2 HNS.out dK _ ⟨rfl, rfl, rfl⟩ rfl _ ?_)
      intro t2 w5 hF hb5
      obtain ⟨f0, f1, f3⟩ := hF
      rw [open_243 t2 f0]
      have b5 := hb0.trans (hb5.mono hb0.size)
      clear f0 f1 f3 hb0 hb5 hin2 hss2 dK
      go_wp2_with fail
      refine (cW _).mono ?_
      rintro e w6 ⟨rfl, hb6⟩
      go_wp2_with fail
      go_ret
      exact ⟨rfl, b5.trans (hb6.mono b5.size)⟩
  · have h := hlight
    clear h
    go_wp2
    go_ret
    exact ⟨rfl, hb0⟩
end Go.Proofs.YtcppmibeiilgbaaGreat
