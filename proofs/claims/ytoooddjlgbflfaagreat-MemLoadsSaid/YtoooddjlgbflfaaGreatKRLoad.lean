/- The document's own Load. -/
import Derived.Test.YtoooddjlgbflfaaGreatKRReach
namespace Go.Proofs.YtoooddjlgbflfaaGreat
open Go.ChangeShapes Go.WideShapes Go.ChangeAt Go.RowKit Go.Joins Go.Deep
set_option linter.unusedVariables false

/-- what stays as it was while the document's Load ends -/
def LSr (A P : Nat) (big : Bool) (pp : Int) (p0 : Bool) (p1 p2 p3 : Int) (ad : Addr) (v : Value) (wl w : World) : Prop :=
  At w A #[.bool big, .int .i64 pp] 38 ∧ At w P #[.bool p0, .int .i64 p1, .int .i64 p2, .int .i64 p3] 40 ∧ w.cell? ad = some v ∧ Below wl.heap.size wl w
theorem LSr.all {A P : Nat} {big : Bool} {pp : Int} {p0 : Bool} {p1 p2 p3 : Int} {ad : Addr} {v : Value} {wl w : World} (h : LSr A P big pp p0 p1 p2 p3 ad v wl w) : w.cell? ⟨A, 0, none⟩ = some (.bool big) ∧ w.cell? ⟨A, 1, none⟩ = some (.int .i64 pp) ∧ w.cell? ⟨P, 0, none⟩ = some (.bool p0) ∧ w.cell? ⟨P, 1, none⟩ = some (.int .i64 p1) ∧ w.cell? ⟨P, 2, none⟩ = some (.int .i64 p2) ∧ w.cell? ⟨P, 3, none⟩ = some (.int .i64 p3) ∧ w.cell? ad = some (v) ∧ LSr A P big pp p0 p1 p2 p3 ad v wl w :=
  ⟨h.1.cell 0 rfl, h.1.cell 1 rfl, h.2.1.cell 0 rfl, h.2.1.cell 1 rfl, h.2.1.cell 2 rfl, h.2.1.cell 3 rfl, h.2.2.1, h⟩
theorem LSr.of {A P : Nat} {big : Bool} {pp : Int} {p0 : Bool} {p1 p2 p3 : Int} {ad : Addr} {v : Value} {wl w : World} (h : w.cell? ⟨A, 0, none⟩ = some (.bool big) ∧ w.cell? ⟨A, 1, none⟩ = some (.int .i64 pp) ∧ w.cell? ⟨P, 0, none⟩ = some (.bool p0) ∧ w.cell? ⟨P, 1, none⟩ = some (.int .i64 p1) ∧ w.cell? ⟨P, 2, none⟩ = some (.int .i64 p2) ∧ w.cell? ⟨P, 3, none⟩ = some (.int .i64 p3) ∧ w.cell? ad = some (v) ∧ LSr A P big pp p0 p1 p2 p3 ad v wl w) : LSr A P big pp p0 p1 p2 p3 ad v wl w := h.2.2.2.2.2.2.2
theorem LSr.bel {A P : Nat} {big : Bool} {pp : Int} {p0 : Bool} {p1 p2 p3 : Int} {ad : Addr} {v : Value} {wl w : World} (h : w.cell? ⟨A, 0, none⟩ = some (.bool big) ∧ w.cell? ⟨A, 1, none⟩ = some (.int .i64 pp) ∧ w.cell? ⟨P, 0, none⟩ = some (.bool p0) ∧ w.cell? ⟨P, 1, none⟩ = some (.int .i64 p1) ∧ w.cell? ⟨P, 2, none⟩ = some (.int .i64 p2) ∧ w.cell? ⟨P, 3, none⟩ = some (.int .i64 p3) ∧ w.cell? ad = some (v) ∧ LSr A P big pp p0 p1 p2 p3 ad v wl w) : Below wl.heap.size wl w := (LSr.of h).2.2.2
theorem keepRd {A P : Nat} {big : Bool} {pp : Int} {p0 : Bool} {p1 p2 p3 : Int} {ad : Addr} {v : Value} {wl w w' : World} (h : w.cell? ⟨A, 0, none⟩ = some (.bool big) ∧ w.cell? ⟨A, 1, none⟩ = some (.int .i64 pp) ∧ w.cell? ⟨P, 0, none⟩ = some (.bool p0) ∧ w.cell? ⟨P, 1, none⟩ = some (.int .i64 p1) ∧ w.cell? ⟨P, 2, none⟩ = some (.int .i64 p2) ∧ w.cell? ⟨P, 3, none⟩ = some (.int .i64 p3) ∧ w.cell? ad = some (v) ∧ LSr A P big pp p0 p1 p2 p3 ad v wl w) (hb : Below w.heap.size w w') : w'.cell? ⟨A, 0, none⟩ = some (.bool big) ∧ w'.cell? ⟨A, 1, none⟩ = some (.int .i64 pp) ∧ w'.cell? ⟨P, 0, none⟩ = some (.bool p0) ∧ w'.cell? ⟨P, 1, none⟩ = some (.int .i64 p1) ∧ w'.cell? ⟨P, 2, none⟩ = some (.int .i64 p2) ∧ w'.cell? ⟨P, 3, none⟩ = some (.int .i64 p3) ∧ w'.cell? ad = some (v) ∧ LSr A P big pp p0 p1 p2 p3 ad v wl w' := by
  obtain ⟨a, b, c, d⟩ := LSr.of h
  exact LSr.all ⟨At.below' hb a, At.below' hb b, cell_below c hb, d.trans (hb.mono d.size)⟩
theorem keepRs {A P : Nat} {big : Bool} {pp : Int} {p0 : Bool} {p1 p2 p3 : Int} {ad : Addr} {v : Value} {wl w : World} (h : w.cell? ⟨A, 0, none⟩ = some (.bool big) ∧ w.cell? ⟨A, 1, none⟩ = some (.int .i64 pp) ∧ w.cell? ⟨P, 0, none⟩ = some (.bool p0) ∧ w.cell? ⟨P, 1, none⟩ = some (.int .i64 p1) ∧ w.cell? ⟨P, 2, none⟩ = some (.int .i64 p2) ∧ w.cell? ⟨P, 3, none⟩ = some (.int .i64 p3) ∧ w.cell? ad = some (v) ∧ LSr A P big pp p0 p1 p2 p3 ad v wl w) {B i : Nat} {x : Value} (h1 : A ≠ B) (h2 : P ≠ B) (h3 : ad.block ≠ B) (h4 : wl.heap.size ≤ B) : (w.setCell ⟨B, i, none⟩ x).cell? ⟨A, 0, none⟩ = some (.bool big) ∧ (w.setCell ⟨B, i, none⟩ x).cell? ⟨A, 1, none⟩ = some (.int .i64 pp) ∧ (w.setCell ⟨B, i, none⟩ x).cell? ⟨P, 0, none⟩ = some (.bool p0) ∧ (w.setCell ⟨B, i, none⟩ x).cell? ⟨P, 1, none⟩ = some (.int .i64 p1) ∧ (w.setCell ⟨B, i, none⟩ x).cell? ⟨P, 2, none⟩ = some (.int .i64 p2) ∧ (w.setCell ⟨B, i, none⟩ x).cell? ⟨P, 3, none⟩ = some (.int .i64 p3) ∧ (w.setCell ⟨B, i, none⟩ x).cell? ad = some (v) ∧ LSr A P big pp p0 p1 p2 p3 ad v wl (w.setCell ⟨B, i, none⟩ x) := by
  obtain ⟨a, b, c, d⟩ := LSr.of h
  exact LSr.all ⟨(Below.heap_setCell w ⟨B, i, none⟩ x A h1).trans a, (Below.heap_setCell w ⟨B, i, none⟩ x P h2).trans b, (World.cell?_of_block (Below.heap_setCell w ⟨B, i, none⟩ x ad.block h3)).trans c, d.setCell (p := ⟨B, i, none⟩) h4 x⟩
def RLoadPost (s : SC) (bad : Int) (w : World) (e : Ending) (w' : World) : Prop := e = .returned (.tuple #[scA s, .int .i64 bad]) ∧ Below w.heap.size w w'
set_option maxRecDepth 100000 in
set_option maxHeartbeats 3200000 in
theorem rLoad_bad (big : Bool) (pp k : Int) (q : Option Addr) (len cap : Nat) (m : List BK) (p : SC) (hp : mayA pp) (hk : 1 ≤ k ∧ k ≤ 7) (hH : hasM m p = true) (v : Int) (hR : reachM m p (sizN pp k) = v) (hv : v ≠ 0) (w : World) (hx : IsMem w q len m) :
    Calls Tryz.prog 16 #[.agg #[.bool big, .int .i64 pp], .slice q len cap, scV p, .int .i64 k] w (RLoadPost noS v w) := by
  have cR := fun w hx => rReach_any big pp k hp hk q len cap m p (InM.of hH) (InM.off hH) w hx
  rw [hR] at cR
  clear hH hR hp hk
  obtain ⟨p0, p1, p2, p3⟩ := p
  rw [scV_eq] at *
  try dsimp only at *
  have dA := At.alloc (At.alloc (At.new w #[.bool big, .int .i64 pp] 38) (.cells #[.bool p0, .int .i64 p1, .int .i64 p2, .int .i64 p3] 40)) (.cells #[.bool false, .int .i64 0, .int .i64 0, .int .i64 0] 40)
  have dP := At.alloc (At.new2 w (.cells #[.bool big, .int .i64 pp] 38) #[.bool p0, .int .i64 p1, .int .i64 p2, .int .i64 p3] 40) (.cells #[.bool false, .int .i64 0, .int .i64 0, .int .i64 0] 40)
  have dS := At.new3 w (.cells #[.bool big, .int .i64 pp] 38) (.cells #[.bool p0, .int .i64 p1, .int .i64 p2, .int .i64 p3] 40) #[.bool false, .int .i64 0, .int .i64 0, .int .i64 0] 40
  have hb0 := below_box3 w (.cells #[.bool big, .int .i64 pp] 38) (.cells #[.bool p0, .int .i64 p1, .int .i64 p2, .int .i64 p3] 40) (.cells #[.bool false, .int .i64 0, .int .i64 0, .int .i64 0] 40)
  have cRR := cR _ (hx.below hb0)
  have HX := Lib.hid hx
  clear hx cR
  have tv : (v == 0) = false := by rw [beq_eq_false_iff_ne]; exact hv
  clear hv
  go_enter Tryz.func16, Tryz.ntmps16
  go_wp2_with fail
  refine cRR.mono ?_
  rintro e w4 ⟨rfl, hb2⟩
  replace dA := At.below' hb2 dA
  replace dP := At.below' hb2 dP
  replace dS := At.below' hb2 dS
  replace hb0 := hb0.trans (hb2.mono hb0.size)
  clear hb2 cRR
  have st := store4 dS (.bool false) (.int .i64 0) (.int .i64 0) (.int .i64 0)
  have E1 := store4_at dS (.bool false) (.int .i64 0) (.int .i64 0) (.int .i64 0)
  have E2 := store4_below hb0 (show w.heap.size ≤ w.heap.size + 2 by omega) (.bool false) (.int .i64 0) (.int .i64 0) (.int .i64 0)
  clear dS dA dP hb0
  go_wp2_with fail
  generalize ((((w4.setCell ⟨(w.heap.size + 2), 0, none⟩ (.bool false)).setCell ⟨(w.heap.size + 2), 1, none⟩ (.int .i64 0)).setCell ⟨(w.heap.size + 2), 2, none⟩ (.int .i64 0)).setCell ⟨(w.heap.size + 2), 3, none⟩ (.int .i64 0)) = wz at E1 E2 ⊢
  have g0 : wz.cell? ⟨w.heap.size + 2, 0, none⟩ = some (.bool false) := E1.cell 0 rfl
  have g1 : wz.cell? ⟨w.heap.size + 2, 1, none⟩ = some (.int .i64 0) := E1.cell 1 rfl
  have g2 : wz.cell? ⟨w.heap.size + 2, 2, none⟩ = some (.int .i64 0) := E1.cell 2 rfl
  have g3 : wz.cell? ⟨w.heap.size + 2, 3, none⟩ = some (.int .i64 0) := E1.cell 3 rfl
  exact bodyPost_ret (v := .tuple #[.agg #[.bool false, .int .i64 0, .int .i64 0, .int .i64 0], .int .i64 v]) (by simp [results, Tryz.results16, go_sem, g0, g1, g2, g3]) rfl ⟨rfl, E2⟩
set_option maxRecDepth 100000 in
set_option maxHeartbeats 3200000 in
theorem rLoad_ok (big : Bool) (pp k : Int) (q : Option Addr) (len cap : Nat) (m : List BK) (p : SC) (hp : mayA pp) (hk : 1 ≤ k ∧ k ≤ 7) (hH : hasM m p = true) (hR : reachM m p (sizN pp k) = 0) (R : SC × Int) (hRR : getS big k (partM m p (sizN pp k)) = R) (w : World) (hx : IsMem w q len m) :
    Calls Tryz.prog 16 #[.agg #[.bool big, .int .i64 pp], .slice q len cap, scV p, .int .i64 k] w (RLoadPost R.1 R.2 w) := by
  obtain ⟨⟨rp, rn, rbk, ro⟩, rbad⟩ := R
  have cR := fun w hx => rReach_any big pp k hp hk q len cap m p (InM.of hH) (InM.off hH) w hx
  rw [hR] at cR
  have cS := fun w => rSize_any big pp k hp hk w
  have hn := siz_cases hp hk
  have HPK := Lib.hid (And.intro hp hk)
  have hMM : mayM m = true := by unfold hasM at hH; simp only [Bool.and_eq_true] at hH; exact hH.1
  have hr := reach_0 hR
  have ho := InM.off hH
  obtain ⟨j, hj, hjl⟩ := InM.of hH
  have hms : maysY (atM m p).ys = true := by rw [atM_eq hj]; exact (mayK_len (mayM_at hMM j hjl)).2
  generalize hnn : sizN pp k = n at *
  have HNN := Lib.hid hnn
  have hn4 : n ≤ 4 := by omega
  have hn1 : 1 ≤ n := by omega
  have hjl2 : j < len := by rw [← hx.2.1]; exact hjl
  obtain ⟨b, off, rfl, hcell⟩ := at_cells hx hj hjl2
  unfold partM at hRR
  generalize atM m p = xk at *
  obtain ⟨s, xq, xc, ys⟩ := xk
  obtain ⟨c0, c1, hys, hcap, _⟩ := hcell
  dsimp only at c0 c1 hys hcap hr hms hRR ho
  obtain ⟨hr1, hr2, hr3⟩ := hr
  obtain ⟨o, hoo⟩ : ∃ o : Nat, p.o = (o : Nat) := ⟨p.o.toNat, by omega⟩
  rw [hoo] at ho hr2 hr3 hRR
  obtain ⟨yb, yo, rfl, hyb, _⟩ := hys.2.2 (by omega)
  have hpart := hys.part o n (by omega)
  have hmp := mays_part hms o n
  rw [Int.toNat_natCast] at hRR
  have hlenP : ys.length ≤ 1000 := hys.1
  have cG := fun w h => rGet_any big pp k (some ⟨yb, yo + o * 5, none⟩) n (xc - o) ((ys.drop o).take n) HPK.out.1 HPK.out.2 HNN.out w h hmp
  rw [hRR] at cG
  unfold RGetPost scA at cG
  try dsimp only at cG
  generalize (ys.drop o).take n = xs at *
  generalize ys.length = Ly at *
  have HPT := Lib.hid hpart
  have hf1 := fun x y w => fld1 x y w
  have hjl3 : (j : Int) < (len : Int) := by omega
  obtain ⟨t, ht⟩ : ∃ t : Nat, t = o + n := ⟨_, rfl⟩
  have k1 : (0 : Int) ≤ (o : Int) := by omega
  have k2 : (o : Int) ≤ (t : Int) := by omega
  have k3 : (t : Int) ≤ (xc : Int) := by omega
  have k4 : o ≤ t := by omega
  have k5 : t ≤ xc := by omega
  have k6 : t - o = n := by omega
  have k7 : ¬ xc = o := by omega
  have k8 : o < xc := by omega
  have ht2 : t ≤ 2000 := by omega
  have HTT := Lib.hid ht
  have HBL := Lib.hid (World.block_lt_of_cell? w _ c0)
  clear hp hk hn hnn hR hMM hms hjl hRR hpart hys hyb hcap hr1 hr2 hr3 hmp ho ht hH
  obtain ⟨p0, p1, p2, p3⟩ := p
  dsimp only at hj hoo
  subst hj hoo
  have cR' := fun w hx => cR w hx
  rw [scV_eq] at *
  have dA := At.alloc (At.alloc (At.new w #[.bool big, .int .i64 pp] 38) (.cells #[.bool p0, .int .i64 p1, .int .i64 (j : Nat), .int .i64 (o : Nat)] 40)) (.cells #[.bool false, .int .i64 0, .int .i64 0, .int .i64 0] 40)
  have dP := At.alloc (At.new2 w (.cells #[.bool big, .int .i64 pp] 38) #[.bool p0, .int .i64 p1, .int .i64 (j : Nat), .int .i64 (o : Nat)] 40) (.cells #[.bool false, .int .i64 0, .int .i64 0, .int .i64 0] 40)
  have dS := At.new3 w (.cells #[.bool big, .int .i64 pp] 38) (.cells #[.bool p0, .int .i64 p1, .int .i64 (j : Nat), .int .i64 (o : Nat)] 40) #[.bool false, .int .i64 0, .int .i64 0, .int .i64 0] 40
  have hb0 := below_box3 w (.cells #[.bool big, .int .i64 pp] 38) (.cells #[.bool p0, .int .i64 p1, .int .i64 (j : Nat), .int .i64 (o : Nat)] 40) (.cells #[.bool false, .int .i64 0, .int .i64 0, .int .i64 0] 40)
  have cRR := cR _ (hx.below hb0)
  clear hx cR cR'
  go_enter Tryz.func16, Tryz.ntmps16
  go_wp2_with fail
  refine cRR.mono ?_
  rintro e w4 ⟨rfl, hb2⟩
  replace dA := At.below' hb2 dA
  replace dP := At.below' hb2 dP
  replace dS := At.below' hb2 dS
  replace hb0 := hb0.trans (hb2.mono hb0.size)
  clear hb2 cRR
  have y1 : w4.cell? ⟨b, off + j * 2 + 1, none⟩ = some (.slice (some ⟨yb, yo, none⟩) Ly xc) := cell_below c1 hb0
  have hSd := LSr.all (show LSr w.heap.size (w.heap.size + 1) big pp p0 p1 (j : Nat) (o : Nat) ⟨b, off + j * 2 + 1, none⟩ (.slice (some ⟨yb, yo, none⟩) Ly xc) w w4.drew from ⟨dA.drew, dP.drew, y1, hb0.drew⟩)
  have dSw := dS.drew
  have hbb := HBL.out
  have n1 : w.heap.size ≠ w.heap.size + 2 := by omega
  have n2 : w.heap.size + 1 ≠ w.heap.size + 2 := by omega
  have n3 : (⟨b, off + j * 2 + 1, none⟩ : Addr).block ≠ w.heap.size + 2 := by show b ≠ _; (try dsimp only at hbb); omega
  have n4 : w.heap.size ≤ w.heap.size + 2 := by omega
  clear dA dP dS y1 c0 c1 hbb hb0
  have i1 := wrapT_1 HTT.out ht2
  have i2 := wrapT_2 HTT.out ht2
  have i3 := wrapT_3 HTT.out
  have i4 := wrapT_4 ht2
  have i5 := wrapT_5 ht2
  go_wp2_with fail
  go_region_held3 (fun w' => w'.cell? ⟨w.heap.size, 0, none⟩ = some (.bool big) ∧ w'.cell? ⟨w.heap.size, 1, none⟩ = some (.int .i64 pp) ∧ w'.cell? ⟨w.heap.size + 1, 0, none⟩ = some (.bool p0) ∧ w'.cell? ⟨w.heap.size + 1, 1, none⟩ = some (.int .i64 p1) ∧ w'.cell? ⟨w.heap.size + 1, 2, none⟩ = some (.int .i64 (j : Nat)) ∧ w'.cell? ⟨w.heap.size + 1, 3, none⟩ = some (.int .i64 (o : Nat)) ∧ w'.cell? ⟨b, off + j * 2 + 1, none⟩ = some (.slice (some ⟨yb, yo, none⟩) Ly xc) ∧ LSr w.heap.size (w.heap.size + 1) big pp p0 p1 (j : Nat) (o : Nat) ⟨b, off + j * 2 + 1, none⟩ (.slice (some ⟨yb, yo, none⟩) Ly xc) w w')
    (first
      | with_reducible exact hSd
      | with_reducible exact keepRd hSd hb5
      | with_reducible exact keepRd (keepRd hSd hb5) hb6
      | with_reducible exact keepRs (keepRs (keepRs (keepRs (keepRd (keepRd hSd hb5) hb6) n1 n2 n3 n4) n1 n2 n3 n4) n1 n2 n3 n4) n1 n2 n3 n4)
    ((first
      | (go_at_call 41; (with_reducible refine (cS _).mono ?_); rintro e w5 ⟨rfl, hb5⟩
         have dS5 := At.below' hb5 dSw)
      | (go_at_call 40; (refine (cG _ (HPT.out.below (LSr.bel (by assumption)))).mono ?_); rintro e w6 ⟨rfl, hb6⟩
         have dS6 := At.below' hb6 dS5
         have st := store4 dS6 (.bool rp) (.int .i64 rn) (.int .i64 rbk) (.int .i64 ro)
         have E1 := store4_at dS6 (.bool rp) (.int .i64 rn) (.int .i64 rbk) (.int .i64 ro))))
  all_goals
    have E2 := store4_below (LSr.bel (keepRd (keepRd hSd hb5) hb6)) n4 (.bool rp) (.int .i64 rn) (.int .i64 rbk) (.int .i64 ro)
    clear st hSd dS5 dS6 dSw
    generalize ((((w6.setCell ⟨(w.heap.size + 2), 0, none⟩ (.bool rp)).setCell ⟨(w.heap.size + 2), 1, none⟩ (.int .i64 rn)).setCell ⟨(w.heap.size + 2), 2, none⟩ (.int .i64 rbk)).setCell ⟨(w.heap.size + 2), 3, none⟩ (.int .i64 ro)) = wz at E1 E2 ⊢
    have g0 : wz.cell? ⟨w.heap.size + 2, 0, none⟩ = some (.bool rp) := E1.cell 0 rfl
    have g1 : wz.cell? ⟨w.heap.size + 2, 1, none⟩ = some (.int .i64 rn) := E1.cell 1 rfl
    have g2 : wz.cell? ⟨w.heap.size + 2, 2, none⟩ = some (.int .i64 rbk) := E1.cell 2 rfl
    have g3 : wz.cell? ⟨w.heap.size + 2, 3, none⟩ = some (.int .i64 ro) := E1.cell 3 rfl
    go_wp2
    exact bodyPost_ret (v := .tuple #[.agg #[.bool rp, .int .i64 rn, .int .i64 rbk, .int .i64 ro], .int .i64 rbad]) (by simp [results, Tryz.results16, go_sem, g0, g1, g2, g3]) rfl ⟨rfl, E2⟩
theorem rLoad_any (big : Bool) (pp k : Int) (q : Option Addr) (len cap : Nat) (m : List BK) (p : SC) (hp : mayA pp) (hk : 1 ≤ k ∧ k ≤ 7) (hH : hasM m p = true) (w : World) (hx : IsMem w q len m) :
    Calls Tryz.prog 16 #[.agg #[.bool big, .int .i64 pp], .slice q len cap, scV p, .int .i64 k] w (RLoadPost (loadS big pp k m p).1 (loadS big pp k m p).2 w) := by
  unfold loadS
  by_cases hR : reachM m p (sizN pp k) = 0
  · rw [if_neg (by simpa using hR)]
    exact rLoad_ok big pp k q len cap m p hp hk hH hR _ rfl w hx
  · rw [if_pos hR]
    exact rLoad_bad big pp k q len cap m p hp hk hH _ rfl hR w hx
end Go.Proofs.YtoooddjlgbflfaaGreat
