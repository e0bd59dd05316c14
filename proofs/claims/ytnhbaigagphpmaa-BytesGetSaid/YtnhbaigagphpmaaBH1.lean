/- BytesGet: its outer loops. -/
import Derived.Test.YtnhbaigagphpmaaBH
namespace Go.Proofs.Ytnhbaigagphpmaa
open Go.ChangeShapes Go.WideShapes Go.ChangeAt Go.RowKit Go.Joins Go.Deep
set_option linter.unusedVariables false

def GFr3 (t : Array Value) (v1 v3 v4 v5 v6 v7 : Value) : Prop := t.size = 124 ∧ sl t 1 = v1 ∧ sl t 3 = v3 ∧ sl t 4 = v4 ∧ sl t 5 = v5 ∧ sl t 6 = v6 ∧ sl t 7 = v7
def GRel3 (B ga ma capa n gl nl capl i m ci xc : Nat) (qi xq : Option Addr) (ys : List BY) (fa : List (Bool × Int)) (w0 : World) (nn : Nat) (a : Act) (wr : World) : Prop :=
  ∃ t kd z, a = ⟨t, []⟩ ∧ GFr3 t (.pointer (some ⟨B, 0, none⟩)) (.slice (some ⟨ga, 0, none⟩) ma capa) (.int .i64 (n : Nat)) (.slice (some ⟨gl, 0, none⟩) nl capl) (.int .i64 (i : Nat)) (.slice qi m ci) ∧ sl t 8 = .int .i64 z ∧ z = (kd : Nat) ∧ kd + nn = 12 ∧ Below w0.heap.size w0 wr
set_option maxRecDepth 1000000 in
set_option maxHeartbeats 12800000 in
theorem gloop3 (B ga ma capa n gl nl capl i m ci xc : Nat) (qi xq : Option Addr) (ys : List BY) (fa : List (Bool × Int)) (w0 : World) (hi : i < nl) (hma : ma ≤ 6) (hD : GetD w0 ga ma fa gl i xq m xc qi ys)
    (t : Array Value) (hF : GFr3 t (.pointer (some ⟨B, 0, none⟩)) (.slice (some ⟨ga, 0, none⟩) ma capa) (.int .i64 (n : Nat)) (.slice (some ⟨gl, 0, none⟩) nl capl) (.int .i64 (i : Nat)) (.slice qi m ci)) (fc : sl t 8 = .int .i64 0) (Q : Exit → Act → World → Prop)
    (hQ : ∀ t w', GFr3 t (.pointer (some ⟨B, 0, none⟩)) (.slice (some ⟨ga, 0, none⟩) ma capa) (.int .i64 (n : Nat)) (.slice (some ⟨gl, 0, none⟩) nl capl) (.int .i64 (i : Nat)) (.slice qi m ci) → Below w0.heap.size w0 w' → Q (.exit 4) ⟨t, []⟩ w') :
    (Code.loop gBody3).wp Try.prog (NoPanic Q) ⟨t, []⟩ w0 := by
  refine wp_loop_ghost_k (GRel3 B ga ma capa n gl nl capl i m ci xc qi xq ys fa w0) 12 ⟨t, 0, 0, rfl, hF, fc, rfl, by omega, Below.refl _ _⟩ ?_
  clear hF fc
  intro nn a wr hrel iK iJv hJ hK
  clear t
  obtain ⟨t, kd, z, rfl, ⟨f0, f1, f3, f4, f5, f6, f7⟩, fc, rfl, hjn, hbd⟩ := hrel
  rw [open_124 t f0]
  simp only [f1, f3, f4, f5, f6, f7, fc]
  clear f0 f1 f3 f4 f5 f6 f7 fc
  conv => arg 2; whnf
  by_cases hk : kd ≤ 11
  · have t1 : (kd : Int) ≤ 11 := by omega
    have hD2 := hD.below hbd
    have HBD := Lib.hid hbd
    have HD := Lib.hid hD2
    clear hD hD2 hbd hQ
    go_wp2_with fail
    refine noPanic_mono (gloop4 B ga ma capa n gl nl capl i m ci xc kd qi xq ys fa wr hi hma HD.out _ ⟨rfl, rfl, rfl, rfl, rfl, rfl, rfl, rfl⟩ rfl _ ?_)
    intro t2 wB hF hbB
    obtain ⟨f0, f1, f3, f4, f5, f6, f7, f8⟩ := hF
    rw [open_124 t2 f0]
    simp only [f1, f3, f4, f5, f6, f7, f8]
    clear f0 f1 f3 f4 f5 f6 f7 f8
    have b9 := HBD.out.trans (hbB.mono HBD.out.size)
    clear hbB HBD HD
    go_wp2_with fail
    refine Handed.intro (nn - 1) (by omega) (hJ _ _ _ ⟨_, kd + 1, _, rfl, ⟨rfl, rfl, rfl, rfl, rfl, rfl, rfl⟩, rfl, (by go_num), by omega, b9⟩)
  · have t1 : decide ((kd : Int) ≤ 11) = false := by simp; omega
    clear hJ hD
    go_wp2_with fail
    exact hQ _ _ ⟨rfl, rfl, rfl, rfl, rfl, rfl, rfl⟩ hbd
def GFr2 (t : Array Value) (v1 v3 v4 v5 : Value) : Prop := t.size = 124 ∧ sl t 1 = v1 ∧ sl t 3 = v3 ∧ sl t 4 = v4 ∧ sl t 5 = v5
/-- rows, as they are read -/
def RowsR (w : World) (gl nl : Nat) (X : List HB) : Prop := X.length = nl ∧ ∀ i, i < nl → w.cell? ⟨gl, i, none⟩ = some (.slice (X.getD i default).q (X.getD i default).ys.length (X.getD i default).c) ∧ IsBys w (X.getD i default).q (X.getD i default).ys.length (X.getD i default).ys
theorem RowsR.below {w w' : World} {gl nl : Nat} {X : List HB} (h : RowsR w gl nl X) (hb : Below w.heap.size w w') : RowsR w' gl nl X := ⟨h.1, fun i hi => ⟨cell_below (h.2 i hi).1 hb, (h.2 i hi).2.below hb⟩⟩
theorem HRow.reads {w : World} {base g m cap : Nat} {X : List HB} (h : HRow base X (.slice (some ⟨g, 0, none⟩) m cap) w) (hX : X.length = m) : RowsR w g m X := by
  refine ⟨hX, fun i hi => ?_⟩
  obtain ⟨g', cap', he, _, _, _, hc⟩ := ownsRow_cells h.1 (fun h => by cases h)
  cases he
  have hm : X.getD i default ∈ X := by
    rw [List.getD_eq_getElem?_getD, List.getElem?_eq_getElem (by omega)]
    exact List.getElem_mem _
  refine ⟨hc i _ ?_, (h.2 _ hm).1⟩
  rw [List.getElem?_map, List.getElem?_eq_getElem (by omega)]
  simp [hbV, List.getD, show i < X.length by omega]
def GRel2 (B ga ma capa n gl nl capl : Nat) (X : List HB) (fa : List (Bool × Int)) (w0 : World) (nn : Nat) (a : Act) (wr : World) : Prop :=
  ∃ t i z, a = ⟨t, []⟩ ∧ GFr2 t (.pointer (some ⟨B, 0, none⟩)) (.slice (some ⟨ga, 0, none⟩) ma capa) (.int .i64 (n : Nat)) (.slice (some ⟨gl, 0, none⟩) nl capl) ∧ sl t 6 = .int .i64 z ∧ z = (i : Nat) ∧ i + nn = 60 ∧ Below w0.heap.size w0 wr
set_option maxRecDepth 1000000 in
set_option maxHeartbeats 12800000 in
theorem gloop2 (B ga ma capa n gl nl capl : Nat) (X : List HB) (fa : List (Bool × Int)) (w0 : World) (hma : ma ≤ 6) (hM : MachAt w0 ga ma fa) (hX : RowsR w0 gl nl X)
    (t : Array Value) (hF : GFr2 t (.pointer (some ⟨B, 0, none⟩)) (.slice (some ⟨ga, 0, none⟩) ma capa) (.int .i64 (n : Nat)) (.slice (some ⟨gl, 0, none⟩) nl capl)) (fc : sl t 6 = .int .i64 0) (Q : Exit → Act → World → Prop)
    (hQ : ∀ t w', GFr2 t (.pointer (some ⟨B, 0, none⟩)) (.slice (some ⟨ga, 0, none⟩) ma capa) (.int .i64 (n : Nat)) (.slice (some ⟨gl, 0, none⟩) nl capl) → Below w0.heap.size w0 w' → Q (.exit 2) ⟨t, []⟩ w') :
    (Code.loop gBody2).wp Try.prog (NoPanic Q) ⟨t, []⟩ w0 := by
  refine wp_loop_ghost_k (GRel2 B ga ma capa n gl nl capl X fa w0) 60 ⟨t, 0, 0, rfl, hF, fc, rfl, by omega, Below.refl _ _⟩ ?_
  clear hF fc
  intro nn a wr hrel iK iJv hJ hK
  clear t
  obtain ⟨t, i, z, rfl, ⟨f0, f1, f3, f4, f5⟩, fc, rfl, hjn, hbd⟩ := hrel
  rw [open_124 t f0]
  simp only [f1, f3, f4, f5, fc]
  clear f0 f1 f3 f4 f5 fc
  conv => arg 2; whnf
  have hcase : (i < nl ∧ i < 60) ∨ ¬ i < nl ∨ (i < nl ∧ ¬ i < 60) := by omega
  rcases hcase with ⟨h1, h2⟩ | h1 | ⟨h1, h2⟩
  · have t1 : (i : Int) < (nl : Int) := by omega
    have t2 : (i : Int) < 60 := by omega
    obtain ⟨x0, hb⟩ := (hX.below hbd).2 i h1
    have HBD := Lib.hid hbd
    have HM := Lib.hid (hM.below hbd)
    generalize X.getD i default = x at *
    obtain ⟨xq, xc, ys⟩ := x
    dsimp only at x0 hb
    obtain ⟨m, hm⟩ : ∃ m, m = ys.length := ⟨_, rfl⟩
    rw [← hm] at x0 hb
    have HB := Lib.hid hb
    clear hX hM hb hm hbd hQ
    have cC : Calls Try.prog 8 #[.slice xq m xc] wr fun e w' => ∃ qi ci, e = .returned (.slice qi m ci) ∧ IsBys w' qi m ys ∧ Below wr.heap.size wr w' := by
      rcases Nat.eq_zero_or_pos m with h0 | h0
      · subst h0
        refine (CopyBytes_0 xc xq wr).mono ?_
        rintro e w' ⟨rfl, rfl⟩
        exact ⟨none, 0, rfl, ⟨by omega, HB.out.2.1, fun h => by omega⟩, Below.refl _ _⟩
      · refine (CopyBytes_any xq m xc ys wr HB.out h0).mono ?_
        rintro e w' ⟨g, c, rfl, _, hr, hb⟩
        exact ⟨_, c, rfl, hr.isBys HB.out.2.1 HB.out.1, hb⟩
    go_wp2_with fail
    refine cC.mono ?_
    rintro e w5 ⟨qi, ci, rfl, hI, hb5⟩
    have hGD : GetD w5 ga ma fa gl i xq m xc qi ys := ⟨HM.out.below hb5, cell_below x0 hb5, HB.out.below hb5, hI⟩
    have HGD := Lib.hid hGD
    replace HBD := Lib.hid (HBD.out.trans (hb5.mono HBD.out.size))
    clear hGD hI hb5 x0 cC HM HB
    go_wp2_with fail
    refine noPanic_mono (gloop3 B ga ma capa n gl nl capl i m ci xc qi xq ys fa w5 h1 hma HGD.out _ ⟨rfl, rfl, rfl, rfl, rfl, rfl, rfl⟩ rfl _ ?_)
    intro t2 wB hF hbB
    obtain ⟨f0, f1, f3, f4, f5, f6, f7⟩ := hF
    rw [open_124 t2 f0]
    simp only [f1, f3, f4, f5, f6, f7]
    clear f0 f1 f3 f4 f5 f6 f7
    have b9 := HBD.out.trans (hbB.mono HBD.out.size)
    clear hbB HBD HGD
    go_wp2_with fail
    refine Handed.intro (nn - 1) (by omega) (hJ _ _ _ ⟨_, i + 1, _, rfl, ⟨rfl, rfl, rfl, rfl, rfl⟩, rfl, (by go_num), by omega, b9⟩)
  · have t1 : decide ((i : Int) < (nl : Int)) = false := by simp; omega
    clear hJ hX hM
    go_wp2_with fail
    exact hQ _ _ ⟨rfl, rfl, rfl, rfl, rfl⟩ hbd
  · have t1 : (i : Int) < (nl : Int) := by omega
    have t2 : decide ((i : Int) < 60) = false := by simp; omega
    clear hJ hX hM
    go_wp2_with fail
    exact hQ _ _ ⟨rfl, rfl, rfl, rfl, rfl⟩ hbd
def GFr1 (t : Array Value) (v1 v3 : Value) : Prop := t.size = 124 ∧ sl t 1 = v1 ∧ sl t 3 = v3
def GRel1 (B ga ma capa : Nat) (w0 : World) (nn : Nat) (a : Act) (wr : World) : Prop :=
  ∃ t n z, a = ⟨t, []⟩ ∧ GFr1 t (.pointer (some ⟨B, 0, none⟩)) (.slice (some ⟨ga, 0, none⟩) ma capa) ∧ sl t 4 = .int .i64 z ∧ z = (n : Nat) ∧ ((n = 1 ∧ nn = 3) ∨ (n = 2 ∧ nn = 2) ∨ (n = 4 ∧ nn = 1) ∨ (n = 8 ∧ nn = 0)) ∧ Below w0.heap.size w0 wr
set_option maxRecDepth 1000000 in
set_option maxHeartbeats 12800000 in
theorem gloop1 (B ga ma capa : Nat) (pa ps pb : Option Addr) (la ca ls cs lb cb : Nat) (ss : List SC) (bs : List BY) (fa : List (Bool × Int)) (w0 : World) (hma : ma ≤ 6) (hlb : lb ≤ 300) (hM : MachAt w0 ga ma fa) (hss : InScs w0 ps ls cs ss) (hbs : InBys w0 pb lb cb bs) (dK : At w0 B #[.slice pa la ca, .slice ps ls cs, .slice pb lb cb] 26)
    (t : Array Value) (hF : GFr1 t (.pointer (some ⟨B, 0, none⟩)) (.slice (some ⟨ga, 0, none⟩) ma capa)) (fc : sl t 4 = .int .i64 1) (Q : Exit → Act → World → Prop)
    (hQ : ∀ t w', GFr1 t (.pointer (some ⟨B, 0, none⟩)) (.slice (some ⟨ga, 0, none⟩) ma capa) → Below w0.heap.size w0 w' → Q (.exit 0) ⟨t, []⟩ w') :
    (Code.loop gBody1).wp Try.prog (NoPanic Q) ⟨t, []⟩ w0 := by
  refine wp_loop_ghost_k (GRel1 B ga ma capa w0) 3 ⟨t, 1, 1, rfl, hF, fc, rfl, by omega, Below.refl _ _⟩ ?_
  clear hF fc
  intro nn a wr hrel iK iJv hJ hK
  clear t
  obtain ⟨t, n, z, rfl, ⟨f0, f1, f3⟩, fc, rfl, hjn, hbd⟩ := hrel
  rw [open_124 t f0]
  simp only [f1, f3, fc]
  clear f0 f1 f3 fc
  conv => arg 2; whnf
  by_cases hn4 : n ≤ 4
  · have hn : n = 1 ∨ n = 2 ∨ n = 4 := by omega
    have t1 : (n : Int) ≤ 4 := by omega
    have e2 : wrap64 ((n : Int) * 2) = ((n * 2 : Nat) : Int) := by unfold wrap64; omega
    have dK2 := At.below' hbd dK
    have k0 := dK2.cell 0 rfl
    have k1 := dK2.cell 1 rfl
    have k2 := dK2.cell 2 rfl
    have cR := rows_any n hn ga ma capa hma pa ps pb la ca ls cs lb cb ss bs fa hlb wr (hss.below hbd) (hbs.below hbd) (hM.below hbd)
    have HBD := Lib.hid hbd
    have HM := Lib.hid (hM.below hbd)
    have HN := Lib.hid hn
    have HJN := Lib.hid hjn
    clear hM hss hbs dK dK2 hbd hQ hn hjn
    go_wp2_with fail
    refine cR.mono ?_
    rintro e w5 ⟨gl, nl, capl, X, rfl, hXl, hnl, hrow, hb5⟩
    have hR := hrow.reads hXl
    have HR := Lib.hid hR
    have HM5 := Lib.hid (HM.out.below hb5)
    replace HBD := Lib.hid (HBD.out.trans (hb5.mono HBD.out.size))
    clear hR hrow hXl hb5 k0 k1 k2 cR HM
    go_wp2_with fail
    refine noPanic_mono (gloop2 B ga ma capa n gl nl capl X fa w5 hma HM5.out HR.out _ ⟨rfl, rfl, rfl, rfl, rfl⟩ rfl _ ?_)
    intro t2 wB hF hbB
    obtain ⟨f0, f1, f3, f4, f5⟩ := hF
    rw [open_124 t2 f0]
    simp only [f1, f3, f4, f5]
    clear f0 f1 f3 f4 f5
    have b9 := HBD.out.trans (hbB.mono HBD.out.size)
    clear hbB HBD HR HM5
    go_wp2_with fail
    refine Handed.intro (nn - 1) (by have := HJN.out; omega) (hJ _ _ _ ⟨_, n * 2, _, rfl, ⟨rfl, rfl, rfl⟩, rfl, (by go_num), by have := HJN.out; omega, b9⟩)
  · have t1 : decide ((n : Int) ≤ 4) = false := by simp; omega
    clear hJ hM hss hbs dK
    go_wp2_with fail
    exact hQ _ _ ⟨rfl, rfl, rfl⟩ hbd
set_option maxRecDepth 100000 in
set_option maxHeartbeats 12800000 in
theorem getlaw_any (pa ps pb : Option Addr) (la ca ls cs lb cb : Nat) (xa : List (Bool × Int)) (ss : List SC) (bs : List BY) (ha : la ≤ 140737488355328) (hs : ls ≤ 140737488355328) (hb : lb ≤ 140737488355328) (w : World) (hxa : IsAbis w pa la ca xa) (hss : InScs w ps ls cs ss) (hbs : InBys w pb lb cb bs) :
    Calls Try.prog 3 #[.agg #[.slice pa la ca, .slice ps ls cs, .slice pb lb cb]] w fun e w' => e = .returned (.bool true) ∧ Below w.heap.size w w' := by
  have dK := At.new w #[.slice pa la ca, .slice ps ls cs, .slice pb lb cb] 26
  have hb0 := below_box1 w (.cells #[.slice pa la ca, .slice ps ls cs, .slice pb lb cb] 26)
  have cH := fun w => heavy_any pa ps pb la ca ls cs lb cb ha hs hb w
  have cW := fun w => wakes_any w
  have HX := Lib.hid hxa
  have HSS := Lib.hid hss
  have HBS := Lib.hid hbs
  clear hxa hss hbs ha hs hb
  go_enter Try.func3, Try.ntmps3
  go_wp2_with fail
  refine (cH _).mono ?_
  rintro e w1 ⟨hv, rfl, hle, hb1⟩
  replace dK := At.below' hb1 dK
  replace hb0 := hb0.trans (hb1.mono hb0.size)
  clear hb1 cH
  cases hv
  · have h300 := hle rfl
    have hlb : lb ≤ 300 := by omega
    have k0 : w1.cell? ⟨w.heap.size, 0, none⟩ = some (.slice pa la ca) := dK.cell 0 rfl
    clear hle
    go_wp2_with fail
    refine (machines_any pa la ca xa (by omega) _ (HX.out.below hb0)).mono ?_
    rintro e w2 ⟨ga, ma, capa, fa, rfl, hm4, hm6, hgge, hM, hb1⟩
    replace dK := At.below' hb1 dK
    replace hb0 := hb0.trans (hb1.mono hb0.size)
    have HM := Lib.hid hM
    have hss2 := HSS.out.below hb0
    have hbs2 := HBS.out.below hb0
    clear hb1 k0 hM
    go_wp2_with fail
    refine noPanic_mono (gloop1 w.heap.size ga ma capa pa ps pb la ca ls cs lb cb ss bs fa w2 hm6 hlb HM.out hss2 hbs2 dK _ ⟨rfl, rfl, rfl⟩ rfl _ ?_)
    intro t2 w5 hF hb5
    obtain ⟨f0, f1, f3⟩ := hF
    rw [open_124 t2 f0]
    have b5 := hb0.trans (hb5.mono hb0.size)
    clear f0 f1 f3 hb0 hb5 hss2 hbs2 dK HM
    go_wp2_with fail
    refine (cW _).mono ?_
    rintro e w6 ⟨rfl, hb6⟩
    go_wp2_with fail
    go_ret
    exact ⟨rfl, b5.trans (hb6.mono b5.size)⟩
  · have h := hle
    clear h
    go_wp2
    go_ret
    exact ⟨rfl, hb0⟩
end Go.Proofs.Ytnhbaigagphpmaa
