/- Package prog: goThrough. -/
import Derived.Test.YtncdbjflfhfddaaGreatGG
import Derived.Deep.OwnRows
import Derived.Deep.RegionWith
import Derived.Deep.RegionHeld3
import Derived.Deep.RegionLaw
namespace Go.Proofs.YtncdbjflfhfddaaGreat
open Go.ChangeShapes Go.WideShapes Go.ChangeAt Go.RowKit Go.Joins Go.Deep
set_option linter.unusedVariables false


theorem gInt : (Tryz.prog.info? 3).map (fun i => (i.zero, i.size, i.bytes)) = some (some (.int .i64 0), 1, 8) := by kernel_rfl
theorem gBool : (Tryz.prog.info? 4).map (fun i => (i.zero, i.size, i.bytes)) = some (some (.bool false), 1, 1) := by kernel_rfl
theorem made_int (n : Nat) : madeCells #[.int .i64 0] n = intA (List.replicate n 0) := by
  refine Array.toList_inj.1 (List.ext_getElem? fun j => ?_)
  simp [madeCells, intA, List.getElem?_replicate]
  by_cases h : j < n
  · simp [h, Nat.mod_one]
  · simp [h]
theorem made_bool (n : Nat) : madeCells #[.bool false] n = boolA (List.replicate n false) := by
  refine Array.toList_inj.1 (List.ext_getElem? fun j => ?_)
  simp [madeCells, boolA, List.getElem?_replicate]
  by_cases h : j < n
  · simp [h, Nat.mod_one]
  · simp [h]
theorem mkInt (n : Nat) (hn : n ≤ 1000) (w : World) : (Instr.makeSlice 23 (.int .i64 (n : Int)) (.int .i64 (n : Int))).run Tryz.prog w = .ok (.slice (some ⟨w.heap.size, 0, none⟩) n n) (w.alloc (.cells (intA (List.replicate n 0)) 3)) := by
  rw [run_make_row' (P := Tryz.prog) 23 3 (.int .i64 0) 8 Tryz.underlying23 gInt rfl .i64 .i64 n (by omega) (by omega) w, made_int]
theorem mkBool (n : Nat) (hn : n ≤ 1000) (w : World) : (Instr.makeSlice 67 (.int .i64 (n : Int)) (.int .i64 (n : Int))).run Tryz.prog w = .ok (.slice (some ⟨w.heap.size, 0, none⟩) n n) (w.alloc (.cells (boolA (List.replicate n false)) 4)) := by
  rw [run_make_row' (P := Tryz.prog) 67 4 (.bool false) 1 Tryz.underlying67 gBool rfl .i64 .i64 n (by omega) (by omega) w, made_bool]
/-- a program's own block, ahead of the way; behind it -/
structure PgNew (w0 w : World) (pb : Nat) (P : PX) (v1 v2 v3 v4 v5 : Value) (dn st : Int) : Prop where
  cells : At w pb (pgC P v1 v2 v3 v4 v5 dn st 0 false (.slice none 0 0) (.slice none 0 0)) 89
  below : Below pb w0 w
  hpb : w0.heap.size = pb
  pr : IsPr w0 v1 v2 v3 v4 v5 P
def PgDone (w0 w : World) (pb : Nat) (P : PX) (v1 v2 v3 v4 v5 : Value) (dn st : Int) : Prop :=
  ∃ ib mb b G, GoCx w0 pb ib mb P v1 v2 v3 v4 v5 ∧ GoAt w0 w pb ib mb P v1 v2 v3 v4 v5 dn st b G ∧ goA P = (if b then some G else none)
def ThP (w0 : World) (pb : Nat) (P : PX) (v1 v2 v3 v4 v5 : Value) (dn st : Int) (w : World) (e : Ending) (w' : World) : Prop :=
  e = .returned (.tuple #[]) ∧ PgDone w0 w' pb P v1 v2 v3 v4 v5 dn st ∧ Below pb w w'
theorem GoAt.setOrd {w0 w : World} {pb ib mb : Nat} {P : PX} {v1 v2 v3 v4 v5 : Value} {dn st : Int} {ord : Bool} {G : GS} (hx : GoCx w0 pb ib mb P v1 v2 v3 v4 v5) (h : GoAt w0 w pb ib mb P v1 v2 v3 v4 v5 dn st ord G) (b : Bool) : GoAt w0 (w.setCell ⟨pb, 11, none⟩ (.bool b)) pb ib mb P v1 v2 v3 v4 v5 dn st b G :=
  ⟨At.set h.cells 11 (.bool b) (by simp [pgC]), (Below.heap_setCell w ⟨pb, 11, none⟩ _ ib (Nat.ne_of_gt hx.h1)).trans h.inn, (Below.heap_setCell w ⟨pb, 11, none⟩ _ mb (Nat.ne_of_gt (Nat.lt_trans hx.h1 hx.h2))).trans h.mad, h.below.setCell (p := ⟨pb, 11, none⟩) (Nat.le_refl _) _, h.li, h.lm, h.met⟩
theorem form_sts {P : PX} (h : formB P = true) : P.sts.length ≤ 40 ∧ P.vars.length ≤ 4 ∧ P.news.length ≤ 2 ∧ NewOK P := by
  simp only [formB, Bool.and_eq_true, decide_eq_true_eq, szB] at h
  obtain ⟨⟨⟨⟨⟨⟨_, h1⟩, h2⟩, _⟩, _⟩, h3⟩, h4⟩ := h
  refine ⟨h3, h1.1, h2.1, fun s hs h5 => ?_⟩
  have h6 := List.all_eq_true.1 h4 s hs
  unfold isStmtB at h6
  rw [h5] at h6
  split at h6
  · cases h6
  · simp at h6
    exact h6.2
theorem below_drewL {pb : Nat} {w w' : World} (h : Below pb w.drew w') : Below pb w w' := (Below.refl pb w).drew.trans h
set_option maxRecDepth 100000 in
set_option maxHeartbeats 6400000 in
theorem goThrough_any (w0 w : World) (pb : Nat) (P : PX) (v1 v2 v3 v4 v5 : Value) (dn st : Int) (hF : formB P = true) (h : PgNew w0 w pb P v1 v2 v3 v4 v5 dn st) :
    Calls Tryz.prog 42 #[.pointer (some ⟨pb, 0, none⟩)] w (ThP w0 pb P v1 v2 v3 v4 v5 dn st w) := by
  obtain ⟨hs40, hv4, hn2, hnew⟩ := form_sts hF
  have hpr := h.pr
  have hsl4 := h.pr.2.2.2.1
  have hsl1 := h.pr.1
  have hsl2 := h.pr.2.1
  have hsl5 := h.pr.2.2.2.2
  have HS5 := Lib.hid hsl5
  obtain ⟨q1, k1, rfl, _⟩ := hsl1
  obtain ⟨q2, k2, rfl, _⟩ := hsl2
  obtain ⟨q4, k4, rfl, _⟩ := hsl4
  obtain ⟨q5, k5, rfl, _⟩ := hsl5
  obtain ⟨ns, hns⟩ : ∃ ns, ns = P.sts.length := ⟨_, rfl⟩
  obtain ⟨nv, hnv⟩ : ∃ nv, nv = P.vars.length := ⟨_, rfl⟩
  obtain ⟨nn, hnn⟩ : ∃ nn, nn = P.news.length := ⟨_, rfl⟩
  obtain ⟨nm, hnm⟩ : ∃ nm, nm = P.main.length := ⟨_, rfl⟩
  have HK := Lib.hid (And.intro (And.intro hns hnv) (And.intro hnn hnm))
  have c5 : w.cell? ⟨pb, 5, none⟩ = some (.slice q4 P.sts.length k4) := h.cells.cell 5 rfl
  have c12 : w.cell? ⟨pb, 12, none⟩ = some (.slice none 0 0) := h.cells.cell 12 rfl
  have f12 := At.free h.cells 12
  rw [← hns] at c5 hs40
  rw [← hnv] at hv4
  rw [← hnn] at hn2
  have m1 := fun w => mkInt ns (by omega) w
  have hA1 := h.cells.alloc (.cells (intA (List.replicate ns 0)) 3)
  have hlt := h.cells.lt
  have c12' := hA1.cell 12 rfl
  have f12' := At.free hA1 12
  have HH := Lib.hid h
  have HPR := Lib.hid hpr
  have HNW := Lib.hid hnew
  have HFF := Lib.hid hF
  clear h hpr hnew hns hnv hnn hnm hF
  go_enter Tryz.func42, Tryz.ntmps42
  go_upto_region 1 with (fail)
  have hsz0 : (w.setCell ⟨pb, 12, none⟩ (.slice (some ⟨w.heap.size, 0, none⟩) ns ns)).heap.size = w.heap.size := World.size_setCell _ _ _
  have dA : At ((w.setCell ⟨pb, 12, none⟩ (.slice (some ⟨w.heap.size, 0, none⟩) ns ns)).alloc (.cells (intA (List.replicate ns 0)) 3)) pb _ _ := (HH.out.cells.set 12 (.slice (some ⟨w.heap.size, 0, none⟩) ns ns) (by simp [pgC])).alloc _
  have dI : At ((w.setCell ⟨pb, 12, none⟩ (.slice (some ⟨w.heap.size, 0, none⟩) ns ns)).alloc (.cells (intA (List.replicate ns 0)) 3)) w.heap.size (intA (List.replicate ns 0)) 3 := by have := At.new (w.setCell ⟨pb, 12, none⟩ (.slice (some ⟨w.heap.size, 0, none⟩) ns ns)) (intA (List.replicate ns 0)) 3; rw [hsz0] at this; exact this
  have hb : Below pb w ((w.setCell ⟨pb, 12, none⟩ (.slice (some ⟨w.heap.size, 0, none⟩) ns ns)).alloc (.cells (intA (List.replicate ns 0)) 3)) := ((Below.refl pb w).setCell (p := ⟨pb, 12, none⟩) (Nat.le_refl _) _).alloc (by rw [hsz0]; exact Nat.le_of_lt hlt) _
  have hsz : ((w.setCell ⟨pb, 12, none⟩ (.slice (some ⟨w.heap.size, 0, none⟩) ns ns)).alloc (.cells (intA (List.replicate ns 0)) 3)).heap.size = w.heap.size + 1 := by rw [World.size_alloc, hsz0]
  obtain ⟨w1, hw1⟩ : ∃ w1, (w.setCell ⟨pb, 12, none⟩ (.slice (some ⟨w.heap.size, 0, none⟩) ns ns)).alloc (.cells (intA (List.replicate ns 0)) 3) = w1 := ⟨_, rfl⟩
  rw [hw1] at dA dI hb hsz
  rw [hw1]
  clear hw1 c12 f12 c12' f12' hA1 m1 c5
  obtain ⟨nt, hnt⟩ : ∃ nt, nt = 1 + nv + nn := ⟨_, rfl⟩
  have m2 := fun w => mkBool nt (by omega) w
  have e1 : IntKind.i64.wrap (1 + (nv : Int)) = 1 + (nv : Int) := by rw [IntKind.wrap_i64]; omega
  have e2 : IntKind.i64.wrap (1 + (nv : Int) + (nn : Int)) = (nt : Int) := by rw [IntKind.wrap_i64]; omega
  have c2 : w1.cell? ⟨pb, 2, none⟩ = some (.slice q1 nv k1) := by have : w1.cell? ⟨pb, 2, none⟩ = some (.slice q1 P.vars.length k1) := dA.cell 2 rfl; rw [← HK.out.1.2] at this; exact this
  have c3 : w1.cell? ⟨pb, 3, none⟩ = some (.slice q2 nn k2) := by have : w1.cell? ⟨pb, 3, none⟩ = some (.slice q2 P.news.length k2) := dA.cell 3 rfl; rw [← HK.out.2.1] at this; exact this
  have c13 : w1.cell? ⟨pb, 13, none⟩ = some (.slice none 0 0) := dA.cell 13 rfl
  have f13 := At.free dA 13
  have HNT := Lib.hid hnt
  clear hnt
  go_region
  have eB := ((dA.set 13 (.slice (some ⟨w.heap.size + 1, 0, none⟩) nt nt) (by simp [pgC])).alloc (.cells (boolA (List.replicate nt false)) 4)).drew
  have hs1 : (w1.setCell ⟨pb, 13, none⟩ (.slice (some ⟨w.heap.size + 1, 0, none⟩) nt nt)).heap.size = w.heap.size + 1 := by rw [World.size_setCell, hsz]
  have eI := (((show At (w1.setCell ⟨pb, 13, none⟩ (.slice (some ⟨w.heap.size + 1, 0, none⟩) nt nt)) w.heap.size _ _ from (Below.heap_setCell w1 ⟨pb, 13, none⟩ _ w.heap.size (Nat.ne_of_gt hlt)).trans dI)).alloc (.cells (boolA (List.replicate nt false)) 4)).drew
  have eM : At (((w1.setCell ⟨pb, 13, none⟩ (.slice (some ⟨w.heap.size + 1, 0, none⟩) nt nt)).alloc (.cells (boolA (List.replicate nt false)) 4)).drew) (w.heap.size + 1) (boolA (List.replicate nt false)) 4 := by
    have := (At.new (w1.setCell ⟨pb, 13, none⟩ (.slice (some ⟨w.heap.size + 1, 0, none⟩) nt nt)) (boolA (List.replicate nt false)) 4).drew
    rw [hs1] at this
    exact this
  have b2 : Below pb w (((w1.setCell ⟨pb, 13, none⟩ (.slice (some ⟨w.heap.size + 1, 0, none⟩) nt nt)).alloc (.cells (boolA (List.replicate nt false)) 4)).drew) := ((hb.setCell (p := ⟨pb, 13, none⟩) (Nat.le_refl _) _).alloc (by rw [hs1]; omega) _).drew
  obtain ⟨w2, hw2⟩ : ∃ w2, ((w1.setCell ⟨pb, 13, none⟩ (.slice (some ⟨w.heap.size + 1, 0, none⟩) nt nt)).alloc (.cells (boolA (List.replicate nt false)) 4)).drew = w2 := ⟨_, rfl⟩
  rw [hw2] at eB eI eM b2
  rw [hw2]
  clear hw2 dA dI hb c13 f13 c2 c3 m2 hs1
  generalize hib : w.heap.size = ib at *
  have hnt := HNT.out
  rw [HK.out.1.2, HK.out.2.1] at hnt
  subst hnt
  have hnsx := HK.out.1.1
  subst hnsx
  have hx : GoCx w0 pb ib (ib + 1) P (.slice q1 P.vars.length k1) (.slice q2 P.news.length k2) v3 (.slice q4 P.sts.length k4) (.slice q5 P.main.length k5) := ⟨HH.out.hpb, HPR.out, hlt, Nat.lt_succ_self _, hs40, by rw [← HK.out.1.2]; exact hv4, by rw [← HK.out.2.1]; exact hn2, HNW.out⟩
  have g2 : GoAt w0 w2 pb ib (ib + 1) P (.slice q1 P.vars.length k1) (.slice q2 P.news.length k2) v3 (.slice q4 P.sts.length k4) (.slice q5 P.main.length k5) dn st false (go0 P) := ⟨eB, eI, eM, HH.out.below.trans b2, by simp [go0], by simp [go0], Nat.zero_le _⟩
  have cG := goOn_any w0 pb ib (ib + 1) P (.slice q1 P.vars.length k1) (.slice q2 P.news.length k2) v3 (.slice q4 P.sts.length k4) (.slice q5 P.main.length k5) dn st false hx 6 P.main (.slice q5 P.main.length k5) 0 false (go0 P) w2.drew (by omega) (by omega) HS5.out ⟨eB.drew, eI.drew, eM.drew, (HH.out.below.trans b2).drew, by simp [go0], by simp [go0], Nat.zero_le _⟩
  have d6 : w2.cell? ⟨pb, 6, none⟩ = some (.slice q5 P.main.length k5) := g2.cell 6 rfl
  have HX := Lib.hid hx
  have HB0 := Lib.hid eB
  have B2 := Lib.hid b2
  have HST := Lib.hid hs40
  unfold GoP at cG
  clear eB eI eM g2 hx b2
  cases hr : goF P 6 P.main 0 false (go0 P) with
  | none =>
    have cG2 := cG.mono (R' := fun e w' => e = .returned (.bool false) ∧ ∃ G, GoAt w0 w' pb ib (ib + 1) P (.slice q1 P.vars.length k1) (.slice q2 P.news.length k2) v3 (.slice q4 P.sts.length k4) (.slice q5 P.main.length k5) dn st false G ∧ Bk pb ib (ib + 1) w2.drew w') (by
      rintro e w' ⟨b, G, rfl, g, k, r⟩
      cases b
      · exact ⟨rfl, G, g, k⟩
      · rw [hr] at r; cases r)
    have HR := Lib.hid hr
    clear cG hr
    go_wp2_with fail
    first | (go_region_with ((go_at_call 61; refine cG2.mono ?_; rintro e w3 ⟨rfl, G, g3, k3⟩; have o11 : w3.cell? ⟨pb, 11, none⟩ = some (.bool false) := g3.cell 11 rfl; have o12 := At.free g3.cells 11))) | fail
    all_goals (first | go_end0 | (simp only [Exit.inBlock, Exit.then]; refine bodyPost_ret (results_none rfl _ _ _) rfl ?_) | refine bodyPost_ret (results_none rfl _ _ _) rfl ?_)
    all_goals exact ⟨rfl, ⟨ib, ib + 1, false, G, HX.out, g3.setOrd HX.out false, by unfold goA; rw [HR.out]; rfl⟩, (B2.out.trans (below_drewL k3.b)).setCell (p := ⟨pb, 11, none⟩) (Nat.le_refl _) _⟩
  | some G1 =>
    have cG2 := cG.mono (R' := fun e w' => e = .returned (.bool true) ∧ GoAt w0 w' pb ib (ib + 1) P (.slice q1 P.vars.length k1) (.slice q2 P.news.length k2) v3 (.slice q4 P.sts.length k4) (.slice q5 P.main.length k5) dn st false G1 ∧ Bk pb ib (ib + 1) w2.drew w') (by
      rintro e w' ⟨b, G, rfl, g, k, r⟩
      cases b
      · rw [hr] at r; cases r
      · rw [hr] at r
        injection r with r
        subst r
        exact ⟨rfl, g, k⟩)
    have HR := Lib.hid hr
    have d5 : w2.cell? ⟨pb, 5, none⟩ = some (.slice q4 P.sts.length k4) := At.cell HB0.out 5 rfl
    clear cG hr
    by_cases hm : G1.met = P.sts.length
    · have hmb : ((G1.met : Int) == (P.sts.length : Int)) = true := by rw [hm]; simp
      go_wp2_with fail
      go_region_held3 (fun w' => w'.cell? ⟨pb, 6, none⟩ = some (.slice q5 P.main.length k5) ∧ w'.cell? ⟨pb, 5, none⟩ = some (.slice q4 P.sts.length k4)) (first | exact ⟨d6, d5⟩ | exact ⟨o6, o5⟩ | exact ⟨(o6s _).1, (o6s _).2⟩) (first | (go_at_call 61; refine cG2.mono ?_; rintro e w3 ⟨rfl, g3, k3⟩; have o6 : w3.cell? ⟨pb, 6, none⟩ = some (.slice q5 P.main.length k5) := g3.cell 6 rfl; have o5 : w3.cell? ⟨pb, 5, none⟩ = some (.slice q4 P.sts.length k4) := g3.cell 5 rfl; have o11 : w3.cell? ⟨pb, 11, none⟩ = some (.bool false) := g3.cell 11 rfl; have o12 := At.free g3.cells 11; have cN := gNext_any pb G1.met (Nat.le_trans g3.met HST.out) w3 (g3.cell 10 rfl); have o6s : ∀ b, (w3.setCell ⟨pb, 11, none⟩ (.bool b)).cell? ⟨pb, 6, none⟩ = some (.slice q5 P.main.length k5) ∧ (w3.setCell ⟨pb, 11, none⟩ (.bool b)).cell? ⟨pb, 5, none⟩ = some (.slice q4 P.sts.length k4) := fun b => ⟨(g3.setOrd HX.out b).cell 6 rfl, (g3.setOrd HX.out b).cell 5 rfl⟩) | (go_at_call 62; refine cN.mono ?_; rintro e w4 ⟨rfl, rfl⟩))
      all_goals (first | go_end0 | (simp only [Exit.inBlock, Exit.then]; refine bodyPost_ret (results_none rfl _ _ _) rfl ?_) | refine bodyPost_ret (results_none rfl _ _ _) rfl ?_)
      all_goals exact ⟨rfl, ⟨ib, ib + 1, true, G1, HX.out, g3.setOrd HX.out true, by unfold goA; rw [HR.out]; simp [hm]⟩, (B2.out.trans (below_drewL k3.b)).setCell (p := ⟨pb, 11, none⟩) (Nat.le_refl _) _⟩
    · have hmb : ((G1.met : Int) == (P.sts.length : Int)) = false := by rw [beq_eq_false_iff_ne]; omega
      go_wp2_with fail
      go_region_held3 (fun w' => w'.cell? ⟨pb, 6, none⟩ = some (.slice q5 P.main.length k5) ∧ w'.cell? ⟨pb, 5, none⟩ = some (.slice q4 P.sts.length k4)) (first | exact ⟨d6, d5⟩ | exact ⟨o6, o5⟩ | exact ⟨(o6s _).1, (o6s _).2⟩) (first | (go_at_call 61; refine cG2.mono ?_; rintro e w3 ⟨rfl, g3, k3⟩; have o6 : w3.cell? ⟨pb, 6, none⟩ = some (.slice q5 P.main.length k5) := g3.cell 6 rfl; have o5 : w3.cell? ⟨pb, 5, none⟩ = some (.slice q4 P.sts.length k4) := g3.cell 5 rfl; have o11 : w3.cell? ⟨pb, 11, none⟩ = some (.bool false) := g3.cell 11 rfl; have o12 := At.free g3.cells 11; have cN := gNext_any pb G1.met (Nat.le_trans g3.met HST.out) w3 (g3.cell 10 rfl); have o6s : ∀ b, (w3.setCell ⟨pb, 11, none⟩ (.bool b)).cell? ⟨pb, 6, none⟩ = some (.slice q5 P.main.length k5) ∧ (w3.setCell ⟨pb, 11, none⟩ (.bool b)).cell? ⟨pb, 5, none⟩ = some (.slice q4 P.sts.length k4) := fun b => ⟨(g3.setOrd HX.out b).cell 6 rfl, (g3.setOrd HX.out b).cell 5 rfl⟩) | (go_at_call 62; refine cN.mono ?_; rintro e w4 ⟨rfl, rfl⟩))
      all_goals (first | go_end0 | (simp only [Exit.inBlock, Exit.then]; refine bodyPost_ret (results_none rfl _ _ _) rfl ?_) | refine bodyPost_ret (results_none rfl _ _ _) rfl ?_)
      all_goals exact ⟨rfl, ⟨ib, ib + 1, false, G1, HX.out, g3.setOrd HX.out false, by unfold goA; rw [HR.out]; simp [hm]⟩, (B2.out.trans (below_drewL k3.b)).setCell (p := ⟨pb, 11, none⟩) (Nat.le_refl _) _⟩

end Go.Proofs.YtncdbjflfhfddaaGreat
