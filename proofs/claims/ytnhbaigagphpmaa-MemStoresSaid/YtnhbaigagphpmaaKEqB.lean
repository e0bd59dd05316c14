/- Memories held against each other: the document's asking; Check; which may be. -/
import Derived.Test.YtnhbaigagphpmaaKStore
import Derived.Test.YtnhbaigagphpmaaKWeigh
import Derived.Deep.RegionHeld3
namespace Go.Proofs.Ytnhbaigagphpmaa
open Go.ChangeShapes Go.WideShapes Go.ChangeAt Go.RowKit Go.Joins Go.Deep
set_option linter.unusedVariables false

def okI (b : Bool) : Int := if b then 0 else 1
def CheckP (b : Bool) (w : World) (e : Ending) (w' : World) : Prop := e = .returned (.int .i64 (okI b)) ∧ Below w.heap.size w w'
theorem rPointer_any (q : Option Addr) (len cap : Nat) (p : SC) (w : World) :
    Calls Try.prog 24 #[.slice q len cap, scV p] w fun e w' => e = .returned (.bool (mayS 7 p && decide (p.b < (len : Int)))) ∧ Below w.heap.size w w' := by
  have cS := fun w => rScalar_any 7 p w
  obtain ⟨p0, p1, p2, p3⟩ := p
  rw [scV_eq] at *
  dsimp only
  have dX := At.new w #[.bool p0, .int .i64 p1, .int .i64 p2, .int .i64 p3] 33
  have hb := below_box1 w (.cells #[.bool p0, .int .i64 p1, .int .i64 p2, .int .i64 p3] 33)
  cases hm : mayS 7 ⟨p0, p1, p2, p3⟩
  · rw [hm] at cS
    clear hm
    go_enter Try.func24, Try.ntmps24
    go_wp2_with fail
    refine (cS _).mono ?_
    rintro e w2 ⟨rfl, hb2⟩
    go_wp2
    go_ret
    exact ⟨rfl, hb.trans (hb2.mono hb.size)⟩
  · rw [hm] at cS
    clear hm
    cases hd : decide (p2 < (len : Int))
    all_goals
      go_enter Try.func24, Try.ntmps24
      go_wp2_with fail
      refine (cS _).mono ?_
      rintro e w2 ⟨rfl, hb2⟩
      have x2 : w2.cell? ⟨w.heap.size, 2, none⟩ = some (.int .i64 p2) := (At.below' hb2 dX).cell 2 rfl
      go_wp2
      go_ret
      exact ⟨rfl, hb.trans (hb2.mono hb.size)⟩
def eqK (x y : BK) : Bool := (x.st == y.st) && eqLY x.ys y.ys
theorem eqK_iff {x y : BK} : eqK x y = true ↔ datK x = datK y := by
  unfold eqK datK
  simp [eqLY_iff]
theorem eqBlock_any (x y : BK) (w : World) (hx : IsBys w x.q x.ys.length x.ys) (hy : IsBys w y.q y.ys.length y.ys) :
    Calls Try.prog 49 #[bkV x, bkV y] w fun e w' => e = .returned (.bool (eqK x y)) ∧ Below w.heap.size w w' := by
  obtain ⟨s, q, c, ys⟩ := x
  obtain ⟨s', q', c', ys'⟩ := y
  unfold bkV eqK
  dsimp only at *
  have hb := below_box2 w (.cells #[.int .i64 s, .slice q ys.length c] 97) (.cells #[.int .i64 s', .slice q' ys'.length c'] 97)
  have cE := EqBytes_any q ys.length c ys q' ys'.length c' ys' _ (hx.below hb) (hy.below hb)
  clear hx hy
  generalize ys.length = L at *
  generalize ys'.length = L' at *
  generalize eqLY ys ys' = r at *
  cases hs : (s == s')
  · go_enter Try.func49, Try.ntmps49
    go_wp2
    go_ret
    exact ⟨rfl, hb⟩
  · go_enter Try.func49, Try.ntmps49
    go_wp2_with fail
    refine cE.mono ?_
    rintro e w2 ⟨rfl, hb2⟩
    go_wp2
    go_ret
    exact ⟨rfl, hb.trans (hb2.mono hb.size)⟩
def RelEqB (x y : List BK) (len : Nat) (w0 : World) (v : Value) (wr : World) : Prop := ∃ j : Nat, j ≤ len ∧ v = .int .i64 (j : Nat) ∧ Below w0.heap.size w0 wr ∧ ∀ i, i < j → datK (x.getD i default) = datK (y.getD i default)
set_option maxRecDepth 100000 in
set_option maxHeartbeats 3200000 in
/-- alike: told so -/
theorem eqBlocks_yes (q : Option Addr) (len cap : Nat) (x : List BK) (q2 : Option Addr) (cap2 : Nat) (y : List BK) (w : World) (hx : IsMem w q len x) (hy : IsMem w q2 len y) (h : datM x = datM y) :
    Calls Try.prog 27 #[.slice q len cap, .slice q2 len cap2] w fun e w' => e = .returned (.bool true) ∧ Below w.heap.size w w' := by
  obtain ⟨hl, hlx, hcx⟩ := hx
  obtain ⟨_, hly, hcy⟩ := hy
  have cE := fun (x y : BK) w hx hy => eqBlock_any x y w hx hy
  have hg := fun i hi => datM_get h i hi
  have HG := Lib.hid hg
  have HLY := Lib.hid hly
  clear h hlx hly hg
  go_enter Try.func27, Try.ntmps27
  go_wp2_with fail
  go_loopw [5] (fun v wr => RelEqB x y len w v wr) (fun v _ => len - (intOf v).toNat)
  case atStart => exact ⟨0, by omega, rfl, Below.refl _ _, fun i hi => absurd hi (Nat.not_lt_zero _)⟩
  case round =>
    obtain ⟨j, hj, rfl, hbr, _⟩ := hrel
    by_cases hlt : j < len
    · obtain ⟨b, off, rfl, hbb, hcells⟩ := hcx (by omega)
      obtain ⟨b2, off2, rfl, hbb2, hcells2⟩ := hcy (by omega)
      have h1 := (hcells j hlt).below hbr
      have h2 := (hcells2 j hlt).below hbr
      have hd := HG.out j (by rw [HLY.out]; exact hlt)
      have ht := eqK_iff.2 hd
      generalize x.getD j default = xj at *
      generalize y.getD j default = yj at *
      have cX := cE xj yj
      rw [ht] at cX
      obtain ⟨s, xq, xc, ys⟩ := xj
      obtain ⟨s', xq', xc', ys'⟩ := yj
      obtain ⟨c0, c1, hi1, _⟩ := h1
      obtain ⟨d0, d1, hi2, _⟩ := h2
      unfold bkV at cX
      dsimp only at c0 c1 d0 d1 hi1 hi2 cX
      have hj3 : (j : Int) < (len : Int) := by omega
      have HI1 := Lib.hid hi1
      have HI2 := Lib.hid hi2
      clear hcells hcells2 hd ht hi1 hi2 cE
      generalize ys.length = L at *
      generalize ys'.length = L' at *
      have hSd : wr.drew.cell? ⟨b, off + j * 2, none⟩ = some (.int .i64 s) ∧ wr.drew.cell? ⟨b, off + j * 2 + 1, none⟩ = some (.slice xq L xc) ∧ wr.drew.cell? ⟨b2, off2 + j * 2, none⟩ = some (.int .i64 s') ∧ wr.drew.cell? ⟨b2, off2 + j * 2 + 1, none⟩ = some (.slice xq' L' xc') := ⟨c0, c1, d0, d1⟩
      go_wp2_with fail
      go_region_held3 (fun w' => w'.cell? ⟨b, off + j * 2, none⟩ = some (.int .i64 s) ∧ w'.cell? ⟨b, off + j * 2 + 1, none⟩ = some (.slice xq L xc) ∧ w'.cell? ⟨b2, off2 + j * 2, none⟩ = some (.int .i64 s') ∧ w'.cell? ⟨b2, off2 + j * 2 + 1, none⟩ = some (.slice xq' L' xc'))
        (first
          | with_reducible exact hSd
          | with_reducible exact keep4_below hSd hb2)
        ((go_at_call 49; (with_reducible refine (cX _ (HI1.out.below ((Below.refl wr.heap.size wr).drew)) (HI2.out.below ((Below.refl wr.heap.size wr).drew))).mono ?_); rintro e w2 ⟨rfl, hb2⟩))
      all_goals
        have hbF := (hbr.trans ((Below.refl wr.heap.size wr).drew.mono hbr.size)).trans (hb2.mono hbr.size)
        clear hSd c0 c1 d0 d1 hb2
        go_wp2
        go_roundw
        case rel => exact ⟨j + 1, by omega, by go_num, hbF, fun i hi => HG.out i (by rw [HLY.out]; omega)⟩
        case measure => simp [intOf]; omega
    · have tj : decide ((j : Int) < (len : Int)) = false := by simp; omega
      clear hcx hcy
      go_wp2
      go_ret
      exact ⟨rfl, hbr⟩
end Go.Proofs.Ytnhbaigagphpmaa
