/- Package maths: Two of add, at two sets of one member, 8 bits: the sum is told alone. -/
import Derived.Test.YtblahbmhbfcggaaGreatDoorMOnce
import Derived.Test.YtblahbmhbfcggaaGreatDoorMAdd
namespace Go.Proofs.YtblahbmhbfcggaaGreatDoor
open Go.ChangeShapes Go.WideShapes Go.ChangeAt Go.RowKit Go.Joins Go.Deep
set_option linter.unusedVariables false

/-- a call's work of add, 8 bits, nothing told yet; the sum told -/
def W0 (w : World) (bw : Nat) : Prop := Wk8 w bw 1 8 false true 0 0 0 0
def WD (w : World) (bw : Nat) (m : Nat) : Prop := Tells8 w bw 1 8 false (fun M => ∀ z, M z → z = m)
theorem W0.wd {w : World} {bw : Nat} (h : W0 w bw) (m : Nat) : WD w bw m := ⟨true, 0, 0, 0, 0, h, none_ok2 (Or.inl rfl), ok_may (none_ok2 (Or.inl rfl)) (fun _ => ⟨rfl, rfl, rfl, rfl⟩), fun z h => by cases h.1⟩
theorem WD.below {w w' : World} {bw m : Nat} (h : WD w bw m) (hb : Below w.heap.size w w') : WD w' bw m := by
  obtain ⟨a, b, c, d, e, h1, h2⟩ := h
  exact ⟨a, b, c, d, e, At.below' hb h1, h2⟩
def W1 (w : World) (bw : Nat) (m : Nat) : Prop := Tells8 w bw 1 8 false (fun M => ∀ z, M z ↔ z = m)
theorem W1.wd {w : World} {bw m : Nat} (h : W1 w bw m) : WD w bw m := by
  obtain ⟨a, b, c, d, e, h1, h2, h3, h4⟩ := h
  exact ⟨a, b, c, d, e, h1, h2, h3, fun z hz => (h4 z).1 hz⟩
theorem no_8 : ValOk 8 true 0 0 0 0 := none_ok2 (Or.inl rfl)
theorem no_8m : mayB (8 : Nat) true (0 : Nat) (0 : Nat) (0 : Nat) (0 : Nat) = true := ok_may no_8 (fun _ => ⟨rfl, rfl, rfl, rfl⟩)
set_option maxRecDepth 100000 in
set_option maxHeartbeats 1600000 in
theorem alone_1 (bw a c : Nat) (ha : a < 100) (hc : c < 100) (w : World) (hD : WD w bw (a + c)) :
    Calls Tryz.prog 102 #[.pointer (some ⟨bw, 0, none⟩), .int .i64 a, .int .i64 c] w fun e w' => e = .returned (.tuple #[]) ∧ W1 w' bw (a + c) ∧ Keeps bw w w' := by
  have hN : ∀ n : Nat, n < 100 → Al.isN (n : Int) (Al.widthI 1) := fun n hn => ⟨by omega, by show (n : Int) < 2 ^ 8; omega⟩
  have cT := fun w => Al.Two_yes 8 1 (a : Int) (c : Int) (by omega) (by omega) (hN a ha) (hN c hc) w
  have s1 : ∀ n, Al.seeI 1 n = n := fun n => if_neg (by decide)
  have f1 : ∀ v, Al.fitI 1 v = (v % 256, 0) := fun v => if_pos rfl
  obtain ⟨m, hm⟩ : ∃ m, m = a + c := ⟨_, rfl⟩
  rw [← hm]
  have e1 : Al.twoI 8 1 (a : Int) (c : Int) = ((m : Int), 0) := by
    unfold Al.twoI
    rw [if_pos rfl, f1, s1, s1]
    have : ((a : Int) + (c : Int)) % 256 = (m : Int) := by omega
    rw [this]
  rw [e1] at cT
  rw [← hm] at hD
  obtain ⟨tno, tl, th, tf, tb, hW, okT, hmT, hP⟩ := hD
  have HP := Lib.hid hP
  have cA := fun w h => add8 bw 1 8 false tno tl th tf tb okT hmT m (by omega) w h
  have cX := fun w => except8 m (by omega) w
  clear hm hP okT hmT
  unfold Wk8 wkC at hW
  have n0 : w.cell? ⟨bw, 0, none⟩ = some (.int .i64 1) := hW.cell 0 rfl
  have n3 : w.cell? ⟨bw, 3, none⟩ = some (.int .i64 8) := hW.cell 3 rfl
  go_enter Tryz.func102, Tryz.ntmps102
  go_upto_region 0 with (fail)
  go_cut [6, 7, 8] from 9 to 24 (fun v6 v7 v8 wx => v6 = .int .i64 m ∧ v7 = .int .i64 0 ∧ v8 = .int .i64 0 ∧ Below w.heap.size w wx)
  case first =>
    have q0 := fun p : BelowBy w => p.cell n0
    have q3 := fun p : BelowBy w => p.cell n3
    clear n0 n3 hW cA cX
    refine wp_region_quiet_below (by kernel_rfl) (by kernel_rfl) ?_
    repeat (go_big_quiet_step ((go_at_call 30; with_reducible exact Calls.below_of (cT _))))
    refine wpQuiet_nil ?_
    intro wx hw'
    obtain ⟨⟨wx', hbx⟩, hw''⟩ := hw'
    subst hw''
    go_wp2_with fail
    go_meet
    exact ⟨rfl, rfl, rfl, hbx⟩
  case rest =>
  obtain ⟨rfl, rfl, rfl, hbx⟩ := hcut
  have hW2 := At.below' hbx hW
  clear cT n0 n3 hW
  go_wp2_with fail
  refine (cX _).mono ?_
  rintro e w2 ⟨rfl, hb2⟩
  have hW3 := At.below' hb2 hW2
  have hbE := hbx.trans (hb2.mono hbx.size)
  clear hb2 hbx hW2 cX
  go_wp2_with fail
  refine (cA _ hW3).mono ?_
  rintro e w3 ⟨rfl, hT, hK⟩
  have hKE := (Keeps.of_below hbE).trans hK
  have fin : W1 w3 bw m := by
    obtain ⟨xno, xl, xh, xf, xb, h1, h2, h3, _, h5⟩ := hT
    exact ⟨xno, xl, xh, xf, xb, h1, h2, h3, h5 HP.out⟩
  clear cA hT hbE hK hW3
  go_wp2_with fail
  first | go_end0 | (simp only [Exit.inBlock, Exit.then]; refine bodyPost_ret (results_none rfl _ _ _) rfl ?_) | refine bodyPost_ret (results_none rfl _ _ _) rfl ?_
  exact ⟨rfl, fin, hKE⟩
end Go.Proofs.YtblahbmhbfcggaaGreatDoor

/- Package maths: a pair of pieces that are one number each. -/
namespace Go.Proofs.YtblahbmhbfcggaaGreatDoor
open Go.ChangeShapes Go.WideShapes Go.ChangeAt Go.RowKit Go.Joins Go.Deep
set_option linter.unusedVariables false

/-- what of the world the region of a pair asks -/
theorem pairS_below {w w1 w2 : World} {a c bw m A B : Nat} (h : w1.cell? ⟨A, 0, none⟩ = some (.int .i64 a) ∧ w1.cell? ⟨B, 0, none⟩ = some (.int .i64 c) ∧ w1.cell? ⟨bw, 0, none⟩ = some (.int .i64 1) ∧ w1.cell? ⟨bw, 1, none⟩ = some (.int .i64 8) ∧ w1.cell? ⟨bw, 2, none⟩ = some (.bool false) ∧ WD w1 bw m ∧ Keeps bw w w1) (hb : Below w1.heap.size w1 w2) :
    w2.cell? ⟨A, 0, none⟩ = some (.int .i64 a) ∧ w2.cell? ⟨B, 0, none⟩ = some (.int .i64 c) ∧ w2.cell? ⟨bw, 0, none⟩ = some (.int .i64 1) ∧ w2.cell? ⟨bw, 1, none⟩ = some (.int .i64 8) ∧ w2.cell? ⟨bw, 2, none⟩ = some (.bool false) ∧ WD w2 bw m ∧ Keeps bw w w2 :=
  ⟨cell_below h.1 hb, cell_below h.2.1 hb, cell_below h.2.2.1 hb, cell_below h.2.2.2.1 hb, cell_below h.2.2.2.2.1 hb, h.2.2.2.2.2.1.below hb, h.2.2.2.2.2.2.trans (Keeps.of_below hb)⟩
theorem cellK {w1 w2 : World} {bw : Nat} {p : Addr} {v : Value} (h : w1.cell? p = some v) (hk : Keeps bw w1 w2) (hp : p.block ≠ bw) : w2.cell? p = some v := (World.cell?_of_block (hk.block p.block (World.block_lt_of_cell? w1 _ h) hp)).trans h
theorem pairS_keeps {w w1 w2 : World} {a c bw m : Nat} (h : w1.cell? ⟨w.heap.size, 0, none⟩ = some (.int .i64 a) ∧ w1.cell? ⟨w.heap.size + 1, 0, none⟩ = some (.int .i64 c) ∧ w1.cell? ⟨bw, 0, none⟩ = some (.int .i64 1) ∧ w1.cell? ⟨bw, 1, none⟩ = some (.int .i64 8) ∧ w1.cell? ⟨bw, 2, none⟩ = some (.bool false) ∧ WD w1 bw m ∧ Keeps bw w w1) (hT : W1 w2 bw m) (hk : Keeps bw w1 w2) (hbw : bw < w.heap.size) :
    w2.cell? ⟨w.heap.size, 0, none⟩ = some (.int .i64 a) ∧ w2.cell? ⟨w.heap.size + 1, 0, none⟩ = some (.int .i64 c) ∧ w2.cell? ⟨bw, 0, none⟩ = some (.int .i64 1) ∧ w2.cell? ⟨bw, 1, none⟩ = some (.int .i64 8) ∧ w2.cell? ⟨bw, 2, none⟩ = some (.bool false) ∧ WD w2 bw m ∧ Keeps bw w w2 := by
  have hA : ∃ a b c d e, At w2 bw (wkC 1 8 false 8 8 a b c d e 0) 80 := by
    obtain ⟨a, b, c, d, e, h1, _⟩ := hT
    exact ⟨_, _, _, _, _, h1⟩
  obtain ⟨_, _, _, _, _, hA⟩ := hA
  exact ⟨cellK h.1 hk (by show w.heap.size ≠ bw; omega), cellK h.2.1 hk (by show w.heap.size + 1 ≠ bw; omega), hA.cell 0 rfl, hA.cell 1 rfl, hA.cell 2 rfl, hT.wd, h.2.2.2.2.2.2.trans hk⟩
theorem pairS_wd {w w1 : World} {a c bw m A B : Nat} (h : w1.cell? ⟨A, 0, none⟩ = some (.int .i64 a) ∧ w1.cell? ⟨B, 0, none⟩ = some (.int .i64 c) ∧ w1.cell? ⟨bw, 0, none⟩ = some (.int .i64 1) ∧ w1.cell? ⟨bw, 1, none⟩ = some (.int .i64 8) ∧ w1.cell? ⟨bw, 2, none⟩ = some (.bool false) ∧ WD w1 bw m ∧ Keeps bw w w1) : WD w1 bw m := h.2.2.2.2.2.1
theorem pairS_kk {w w1 w2 : World} {a c bw m A B : Nat} (h : w1.cell? ⟨A, 0, none⟩ = some (.int .i64 a) ∧ w1.cell? ⟨B, 0, none⟩ = some (.int .i64 c) ∧ w1.cell? ⟨bw, 0, none⟩ = some (.int .i64 1) ∧ w1.cell? ⟨bw, 1, none⟩ = some (.int .i64 8) ∧ w1.cell? ⟨bw, 2, none⟩ = some (.bool false) ∧ WD w1 bw m ∧ Keeps bw w w1) (hk : Keeps bw w1 w2) : Keeps bw w w2 := h.2.2.2.2.2.2.trans hk
theorem cbW {w w' : World} {p : Addr} {v : Value} (hb : Below w.heap.size w w') (h : w.cell? p = some v) : w'.cell? p = some v := cell_below h hb
set_option maxRecDepth 100000 in
set_option maxHeartbeats 1600000 in
theorem single_1 (n : Nat) (w : World) : Calls Tryz.prog 101 #[pcV n] w fun e w' => e = .returned (.bool true) ∧ Below w.heap.size w w' := by
  go_enter Tryz.func101, Tryz.ntmps101
  go_wp2_with fail
  go_ret
  exact ⟨rfl, (Below.refl _ _).alloc (Nat.le_refl _) _⟩
set_option maxRecDepth 100000 in
set_option maxHeartbeats 1600000 in
theorem pair_1 (bw a c : Nat) (ha : a < 100) (hc : c < 100) (w : World) (hW : W0 w bw) :
    Calls Tryz.prog 65 #[.pointer (some ⟨bw, 0, none⟩), pcV a, pcV c] w fun e w' => e = .returned (.tuple #[]) ∧ W1 w' bw (a + c) ∧ Keeps bw w w' := by
  have cS1 := fun w => single_1 a w
  have cS2 := fun w => single_1 c w
  have cN1 := fun w => number8 a (by omega) w
  have cN2 := fun w => number8 c (by omega) w
  have cA := fun w h => alone_1 bw a c ha hc w h
  obtain ⟨dA, dB, hb0⟩ := two_boxes w #[.int .i64 a, .int .i64 a, .int .i64 0, .int .i64 a] #[.int .i64 c, .int .i64 c, .int .i64 0, .int .i64 c] 112
  have hW1 : W0 _ bw := At.alloc (At.alloc hW (.cells #[.int .i64 a, .int .i64 a, .int .i64 0, .int .i64 a] 112)) (.cells #[.int .i64 c, .int .i64 c, .int .i64 0, .int .i64 c] 112)
  obtain ⟨m, hm⟩ : ∃ m, m = a + c := ⟨_, rfl⟩
  rw [← hm] at cA ⊢
  have hbw : bw < w.heap.size := At.lt hW
  clear hm ha hc hW
  go_enter Tryz.func65, Tryz.ntmps65
  go_upto_region 1 with (fail)
  generalize (w.alloc (.cells #[.int .i64 a, .int .i64 a, .int .i64 0, .int .i64 a] 112)).alloc (.cells #[.int .i64 c, .int .i64 c, .int .i64 0, .int .i64 c] 112) = w1 at *
  have p0 : w1.cell? ⟨w.heap.size, 0, none⟩ = some (.int .i64 a) := dA.cell 0 rfl
  have p1 : w1.cell? ⟨w.heap.size, 1, none⟩ = some (.int .i64 a) := dA.cell 1 rfl
  have p2 : w1.cell? ⟨w.heap.size, 2, none⟩ = some (.int .i64 0) := dA.cell 2 rfl
  have p3 : w1.cell? ⟨w.heap.size, 3, none⟩ = some (.int .i64 a) := dA.cell 3 rfl
  go_wp2_with fail
  refine (cS1 _).mono ?_
  rintro e w2 ⟨rfl, hb2⟩
  replace dA := At.below' hb2 dA
  replace dB := At.below' hb2 dB
  replace hW1 : W0 w2 bw := At.below' hb2 hW1
  replace hb0 := hb0.trans (hb2.mono hb0.size)
  clear p0 p1 p2 p3 hb2 cS1
  have q0 : w2.cell? ⟨(w.heap.size + 1), 0, none⟩ = some (.int .i64 c) := dB.cell 0 rfl
  have q1 : w2.cell? ⟨(w.heap.size + 1), 1, none⟩ = some (.int .i64 c) := dB.cell 1 rfl
  have q2 : w2.cell? ⟨(w.heap.size + 1), 2, none⟩ = some (.int .i64 0) := dB.cell 2 rfl
  have q3 : w2.cell? ⟨(w.heap.size + 1), 3, none⟩ = some (.int .i64 c) := dB.cell 3 rfl
  go_wp2_with fail
  refine (cS2 _).mono ?_
  rintro e w3 ⟨rfl, hb2⟩
  replace dA := At.below' hb2 dA
  replace dB := At.below' hb2 dB
  replace hW1 : W0 w3 bw := At.below' hb2 hW1
  replace hb0 := hb0.trans (hb2.mono hb0.size)
  clear q0 q1 q2 q3 hb2 cS2
  go_upto_region 2 with (fail)
  have p0 : w3.cell? ⟨w.heap.size, 0, none⟩ = some (.int .i64 a) := dA.cell 0 rfl
  have q0 : w3.cell? ⟨w.heap.size + 1, 0, none⟩ = some (.int .i64 c) := dB.cell 0 rfl
  have hX : At w3 bw (wkC 1 8 false 8 8 true 0 0 0 0 0) 80 := hW1
  have hSd : (fun w' => w'.cell? ⟨w.heap.size, 0, none⟩ = some (.int .i64 a) ∧ w'.cell? ⟨w.heap.size + 1, 0, none⟩ = some (.int .i64 c) ∧ w'.cell? ⟨bw, 0, none⟩ = some (.int .i64 1) ∧ w'.cell? ⟨bw, 1, none⟩ = some (.int .i64 8) ∧ w'.cell? ⟨bw, 2, none⟩ = some (.bool false) ∧ WD w' bw m ∧ Keeps bw w w') w3.drew := ⟨p0, q0, hX.cell 0 rfl, hX.cell 1 rfl, hX.cell 2 rfl, W0.wd hW1 m, (Keeps.of_below hb0).drew⟩
  clear hX dA dB p0 q0 hW1 hb0
  go_region_held3 (fun w' => w'.cell? ⟨w.heap.size, 0, none⟩ = some (.int .i64 a) ∧ w'.cell? ⟨w.heap.size + 1, 0, none⟩ = some (.int .i64 c) ∧ w'.cell? ⟨bw, 0, none⟩ = some (.int .i64 1) ∧ w'.cell? ⟨bw, 1, none⟩ = some (.int .i64 8) ∧ w'.cell? ⟨bw, 2, none⟩ = some (.bool false) ∧ WD w' bw m ∧ Keeps bw w w')
    (first
      | with_reducible exact hSd
      | exact pairS_below (by assumption) hbN
      | exact pairS_keeps (by assumption) hT hK hbw)
    ((first
      | (go_at_call 103
         (first | (with_reducible refine (cN1 _).mono ?_) | (with_reducible refine (cN2 _).mono ?_))
         rintro e w' ⟨rfl, hbN⟩)
      | (go_at_call 102
         refine (cA _ (pairS_wd (by assumption))).mono ?_
         rintro e w' ⟨rfl, hT, hK⟩
         have hKE := pairS_kk (by assumption) hK)))
  clear hSd hK hbN cA cN1 cN2
  go_wp2_with fail
  first | go_end0 | (simp only [Exit.inBlock, Exit.then]; refine bodyPost_ret (results_none rfl _ _ _) rfl ?_) | refine bodyPost_ret (results_none rfl _ _ _) rfl ?_
  exact ⟨rfl, hT, hKE⟩
end Go.Proofs.YtblahbmhbfcggaaGreatDoor

/- Package maths: two, of add, at two operands of one member. -/
namespace Go.Proofs.YtblahbmhbfcggaaGreatDoor
open Go.ChangeShapes Go.WideShapes Go.ChangeAt Go.RowKit Go.Joins Go.Deep
set_option linter.unusedVariables false

set_option maxRecDepth 100000 in
set_option maxHeartbeats 1600000 in
theorem seconds_1 (bw sb n : Nat) (hn : n < 255) (w : World) (hW : W0 w bw) (hA : Op1 w sb n 0 0 (.slice none 0 0)) :
    Calls Tryz.prog 63 #[.pointer (some ⟨bw, 0, none⟩), .pointer (some ⟨sb, 0, none⟩)] w (PiecesP sb n w) := by
  have cP := fun w h => pieces_1 sb n hn w h
  have hX : At w bw (wkC 1 8 false 8 8 true 0 0 0 0 0) 80 := hW
  have n3 : w.cell? ⟨bw, 3, none⟩ = some (.int .i64 8) := hX.cell 3 rfl
  clear hX hW
  go_enter Tryz.func63, Tryz.ntmps63
  go_wp2_with fail
  refine (cP _ hA).mono ?_
  rintro e w1 ⟨g, cap, rfl, h1, h2, h3⟩
  have fin : PiecesP sb n w (.returned (.slice (some ⟨g, 0, none⟩) 1 cap)) w1 := ⟨g, cap, rfl, h1, h2, h3⟩
  clear h1 h2 h3 n3 cP hA
  go_wp2_with fail
  go_ret
  exact fin
set_option maxRecDepth 100000 in
set_option maxHeartbeats 1600000 in
theorem two_1 (bw xa xb a c : Nat) (ha : a < 100) (hc : c < 100) (w : World) (hW : W0 w bw) (hA : Op1 w xa a 0 0 (.slice none 0 0)) (hB : Op1 w xb c 0 0 (.slice none 0 0)) (h1 : xa ≠ xb) (h2 : xa ≠ bw) (h3 : xb ≠ bw) :
    Calls Tryz.prog 34 #[.pointer (some ⟨bw, 0, none⟩), .pointer (some ⟨xa, 0, none⟩), .pointer (some ⟨xb, 0, none⟩)] w fun e w' => e = .returned (.tuple #[]) ∧ W1 w' bw (a + c) ∧ (∀ b cs t, b ≠ bw → b ≠ xa → b ≠ xb → At w b cs t → At w' b cs t) ∧ (∀ B, B ≤ bw → B ≤ xa → B ≤ xb → B ≤ w.heap.size → Below B w w') := by
  have hX : At w bw (wkC 1 8 false 8 8 true 0 0 0 0 0) 80 := hW
  have n3 : w.cell? ⟨bw, 3, none⟩ = some (.int .i64 8) := hX.cell 3 rfl
  have lA : xa < w.heap.size := At.lt hA
  have lB : xb < w.heap.size := At.lt hB
  have lW : bw < w.heap.size := At.lt hW
  obtain ⟨m, hm⟩ : ∃ m, m = a + c := ⟨_, rfl⟩
  have cPr := fun w h => pair_1 bw a c ha hc w h
  rw [← hm] at cPr ⊢
  clear hm
  go_enter Tryz.func34, Tryz.ntmps34
  go_wp2_with fail
  refine (seconds_1 bw xb c (by omega) _ hW hB).mono ?_
  rintro e w1 ⟨gy, capy, rfl, hgy, hgyb, hk1⟩
  have hW1 : W0 w1 bw := At.keeps hW hk1 (Ne.symm h3)
  have hA1 : Op1 w1 xa a 0 0 (.slice none 0 0) := At.keeps hA hk1 h1
  have hs1 := hk1.size
  clear n3 hX hW hA hB
  go_wp2_with fail
  refine (pieces_1 xa a (by omega) _ hA1).mono ?_
  rintro e w2 ⟨gx, capx, rfl, hgx, hgxb, hk2⟩
  have hW2 : W0 w2 bw := At.keeps hW1 hk2 (Ne.symm h2)
  have hgy2 : PieceAt w2 gy c := hgy.keeps hk2 (by omega)
  have hs2 := hk2.size
  clear hA1 hW1 hgy
  go_wp2_with fail
  have hge : gx ≠ bw := by omega
  have hgf : gy ≠ bw := by omega
  go_loopw [33] (fun v wr => Keeps bw w2 wr ∧ ((v = .int .i64 0 ∧ W0 wr bw) ∨ (v = .int .i64 1 ∧ W1 wr bw m))) (fun v _ => 2 - (intOf v).toNat)
  case atStart => exact ⟨Keeps.refl _ _, Or.inl ⟨rfl, hW2⟩⟩
  case round =>
    obtain ⟨hk, ⟨rfl, hW3⟩ | ⟨rfl, hT⟩⟩ := hrel
    · obtain ⟨wq, rfl⟩ : ∃ wq : World, wq = wr := ⟨_, rfl⟩
      obtain ⟨x0, x1, x2, x3⟩ := hgx.keeps hk hge
      have hgy3 := hgy2.keeps hk hgf
      have dX := At.new wq #[.int .i64 a, .int .i64 a, .int .i64 0, .int .i64 a] 112
      have hbo : Below wq.heap.size wq (wq.alloc (.cells #[.int .i64 a, .int .i64 a, .int .i64 0, .int .i64 a] 112)) := (Below.refl _ _).alloc (Nat.le_refl _) _
      have hW4 : W0 (wq.alloc (.cells #[.int .i64 a, .int .i64 a, .int .i64 0, .int .i64 a] 112)) bw := At.alloc hW3 _
      have hgy4 := hgy3.below hbo
      have hko := hk.trans (Keeps.of_below (bl := bw) hbo)
      have lbw : bw < wq.heap.size := At.lt hW3
      clear hW3 hgy3 hbo hk
      go_wp2_with fail
      generalize wq.alloc (.cells #[.int .i64 a, .int .i64 a, .int .i64 0, .int .i64 a] 112) = wo at *
      clear x0 x1 x2 x3
      go_loopw [39] (fun v wi => Keeps bw wo wi ∧ ((v = .int .i64 0 ∧ W0 wi bw) ∨ (v = .int .i64 1 ∧ W1 wi bw m))) (fun v _ => 2 - (intOf v).toNat)
      case atStart => exact ⟨Keeps.refl _ _, Or.inl ⟨rfl, hW4⟩⟩
      case round =>
        obtain ⟨hj, ⟨rfl, hW5⟩ | ⟨rfl, hT⟩⟩ := hrel
        · obtain ⟨y0, y1, y2, y3⟩ := hgy4.keeps hj hgf
          have dX6 := At.alloc (At.keeps dX hj (by omega)) (.cells #[.int .i64 c, .int .i64 c, .int .i64 0, .int .i64 c] 112)
          have x0 : (wr.alloc (.cells #[.int .i64 c, .int .i64 c, .int .i64 0, .int .i64 c] 112)).cell? ⟨wq.heap.size, 0, none⟩ = some (.int .i64 a) := dX6.cell 0 rfl
          have x1 : (wr.alloc (.cells #[.int .i64 c, .int .i64 c, .int .i64 0, .int .i64 c] 112)).cell? ⟨wq.heap.size, 1, none⟩ = some (.int .i64 a) := dX6.cell 1 rfl
          have x2 : (wr.alloc (.cells #[.int .i64 c, .int .i64 c, .int .i64 0, .int .i64 c] 112)).cell? ⟨wq.heap.size, 2, none⟩ = some (.int .i64 0) := dX6.cell 2 rfl
          have x3 : (wr.alloc (.cells #[.int .i64 c, .int .i64 c, .int .i64 0, .int .i64 c] 112)).cell? ⟨wq.heap.size, 3, none⟩ = some (.int .i64 a) := dX6.cell 3 rfl
          have hW6 : W0 (wr.alloc (.cells #[.int .i64 c, .int .i64 c, .int .i64 0, .int .i64 c] 112)) bw := At.alloc hW5 _
          have hjo := hj.trans (Keeps.of_below (bl := bw) ((Below.refl _ _).alloc (Nat.le_refl _) (.cells #[.int .i64 c, .int .i64 c, .int .i64 0, .int .i64 c] 112)))
          clear dX6 hW5 hj
          go_wp2_with fail
          refine (cPr _ hW6).mono ?_
          rintro e w6 ⟨rfl, hT, hK⟩
          have hJ := hjo.trans hK
          clear hK hjo hW6 x0 x1 x2 x3 y0 y1 y2 y3
          go_wp2_with fail
          go_roundw
          case rel => exact ⟨hJ, Or.inr ⟨rfl, hT⟩⟩
          case measure => simp [intOf]
        · have hJ := hko.trans hj
          clear hj hko
          go_wp2_with fail
          go_roundw
          case rel => exact ⟨hJ, Or.inr ⟨rfl, hT⟩⟩
          case measure => simp [intOf]
    · have hsz := hk.size
      have hall : ∀ b cs t, b ≠ bw → b ≠ xa → b ≠ xb → At w b cs t → At wr b cs t := fun b cs t n1 n2 n3 h => At.keeps (At.keeps (At.keeps h hk1 n3) hk2 n2) hk n1
      have hbl : ∀ B, B ≤ bw → B ≤ xa → B ≤ xb → B ≤ w.heap.size → Below B w wr := fun B n1 n2 n3 n4 => ((hk1.below n3 n4).trans (hk2.below n2 (by omega))).trans (hk.below n1 (by omega))
      clear hk hk1 hk2
      go_wp2_with fail
      first | go_end0 | (simp only [Exit.inBlock, Exit.then]; refine bodyPost_ret (results_none rfl _ _ _) rfl ?_) | refine bodyPost_ret (results_none rfl _ _ _) rfl ?_
      exact ⟨rfl, hT, hall, hbl⟩
end Go.Proofs.YtblahbmhbfcggaaGreatDoor

/- Package maths: Two of add, at {a} and {c} of 8 bits. -/
namespace Go.Proofs.YtblahbmhbfcggaaGreatDoor
open Go.ChangeShapes Go.WideShapes Go.ChangeAt Go.RowKit Go.Joins Go.Deep
set_option linter.unusedVariables false

/-- just the sum is told -/
def MSum (m : Nat) (w : World) (e : Ending) (w' : World) : Prop := ∃ tno tl th tf tb, e = .returned (.tuple #[valV 8 tno (tl : Nat) (th : Nat) (tf : Nat) (tb : Nat), .slice none 0 0, .int .i64 0]) ∧ ValOk 8 tno tl th tf tb ∧ mayB (8 : Nat) tno tl th tf tb = true ∧ (∀ z, MemV 8 tno tl th tf tb z ↔ z = m) ∧ Below w.heap.size w w'
set_option maxRecDepth 100000 in
set_option maxHeartbeats 1600000 in
theorem MTwo_add (a c : Nat) (ha : a < 100) (hc : c < 100) (kd : Int) (ekd : kd = 1) (K : Nat) (eK : K = 8) (no : Bool) (l h f b : Nat) (eA : no = false ∧ l = a ∧ h = a ∧ f = 0 ∧ b = a) (no2 : Bool) (l2 h2 f2 b2 : Nat) (eB : no2 = false ∧ l2 = c ∧ h2 = c ∧ f2 = 0 ∧ b2 = c) (w : World) :
    Calls Tryz.prog 10 #[.int .i64 8, .int .i64 kd, valV K no l h f b, valV K no2 l2 h2 f2 b2] w (MSum (a + c) w) := by
  have hk : 1 ≤ kd ∧ kd ≤ 6 := by omega
  have hK : Al.widthI kd = K := by rw [ekd, eK]; rfl
  have okA : ValOk K no l h f b := by
    obtain ⟨rfl, rfl, rfl, rfl, rfl⟩ := eA
    subst eK
    exact one_ok (Or.inl rfl) (by omega)
  have okB : ValOk K no2 l2 h2 f2 b2 := by
    obtain ⟨rfl, rfl, rfl, rfl, rfl⟩ := eB
    subst eK
    exact one_ok (Or.inl rfl) (by omega)
  have hmA : mayB K no l h f b = true := ok_may okA (fun hh => by rw [eA.1] at hh; cases hh)
  have hmB : mayB K no2 l2 h2 f2 b2 = true := ok_may okB (fun hh => by rw [eB.1] at hh; cases hh)
  have hne : ∃ z, MemV K no l h f b z := by
    obtain ⟨e1, e2, e3, e4, e5⟩ := eA
    refine ⟨a, ?_⟩
    rw [eK, e1, e2, e3, e4, e5]
    exact ((mem1 (by omega : a < 2 ^ 8)).2 rfl)
  have hne2 : ∃ z, MemV K no2 l2 h2 f2 b2 z := by
    obtain ⟨e1, e2, e3, e4, e5⟩ := eB
    refine ⟨c, ?_⟩
    rw [eK, e1, e2, e3, e4, e5]
    exact ((mem1 (by omega : c < 2 ^ 8)).2 rfl)
  have toA : ∀ w sb, OpNew w sb kd K no l h f b → Op1 w sb a 0 0 (.slice none 0 0) := by
    obtain ⟨rfl, rfl, rfl, rfl, rfl⟩ := eA
    subst eK ekd
    exact fun w sb hh => hh
  have toB : ∀ w sb, OpNew w sb kd K no2 l2 h2 f2 b2 → Op1 w sb c 0 0 (.slice none 0 0) := by
    obtain ⟨rfl, rfl, rfl, rfl, rfl⟩ := eB
    subst eK ekd
    exact fun w sb hh => hh
  have TOA := Lib.hid toA
  have TOB := Lib.hid toB
  have cS : ∀ w, Calls Tryz.prog 32 #[.int .i64 8, .agg #[.int .i64 kd, .int .i64 K, .bool (Al.signedB kd)]] w fun e w' => ∃ bw, e = .returned (.pointer (some ⟨bw, 0, none⟩)) ∧ W0 w' bw ∧ w.heap.size ≤ bw ∧ Below w.heap.size w w' := by
    subst eK ekd
    exact fun w => start8 1 false w
  clear eA eB ekd eK toA toB
  have NE := Lib.hid hne
  have NE2 := Lib.hid hne2
  obtain ⟨dA0, dB0, hb00⟩ := two_boxes w #[.int .i64 K, .bool no, .int .i64 l, .int .i64 h, .int .i64 f, .int .i64 b] #[.int .i64 K, .bool no2, .int .i64 l2, .int .i64 h2, .int .i64 f2, .int .i64 b2] 30
  have d4 := At.new ((w.alloc (.cells #[.int .i64 K, .bool no, .int .i64 l, .int .i64 h, .int .i64 f, .int .i64 b] 30)).alloc (.cells #[.int .i64 K, .bool no2, .int .i64 l2, .int .i64 h2, .int .i64 f2, .int .i64 b2] 30)) #[.int .i64 0, .bool false, .int .i64 0, .int .i64 0, .int .i64 0, .int .i64 0] 30
  have d8 : At (((w.alloc (.cells #[.int .i64 K, .bool no, .int .i64 l, .int .i64 h, .int .i64 f, .int .i64 b] 30)).alloc (.cells #[.int .i64 K, .bool no2, .int .i64 l2, .int .i64 h2, .int .i64 f2, .int .i64 b2] 30)).alloc (.cells #[.int .i64 0, .bool false, .int .i64 0, .int .i64 0, .int .i64 0, .int .i64 0] 30)) (w.heap.size + 1 + 1) #[.int .i64 0, .bool false, .int .i64 0, .int .i64 0, .int .i64 0, .int .i64 0] 30 := by simpa only [World.size_alloc] using d4
  have dA := At.alloc dA0 (.cells #[.int .i64 0, .bool false, .int .i64 0, .int .i64 0, .int .i64 0, .int .i64 0] 30)
  have dB := At.alloc dB0 (.cells #[.int .i64 0, .bool false, .int .i64 0, .int .i64 0, .int .i64 0, .int .i64 0] 30)
  have hbE := hb00.alloc hb00.size (.cells #[.int .i64 0, .bool false, .int .i64 0, .int .i64 0, .int .i64 0, .int .i64 0] 30)
  have hz0 : Al.isN 0 (Al.widthI kd) := by rcases Al.num_cases hk with rfl | rfl | rfl | rfl | rfl | rfl <;> exact ⟨Int.le_refl 0, by decide⟩
  have cT2 := fun w => Al.Two_yes 8 kd 0 0 (by omega) hk hz0 hz0 w
  generalize Al.twoI 8 kd 0 0 = r at *
  obtain ⟨r1, r2⟩ := r
  have cX := fun w => mtake_yes kd hk K hK no l h f b hmA w
  have cY := fun w => mtake_yes kd hk K hK no2 l2 h2 f2 b2 hmB w
  clear hne hne2 dA0 dB0 hb00 d4 hz0
  go_enter Tryz.func10, Tryz.ntmps10
  go_wp2_with fail
  refine (cT2 _).mono ?_
  rintro e w1 ⟨rfl, hb1⟩
  replace dA := At.below' hb1 dA
  replace dB := At.below' hb1 dB
  replace d8 := At.below' hb1 d8
  replace hbE := hbE.trans (hb1.mono hbE.size)
  clear hb1 cT2
  have p0 : w1.cell? ⟨w.heap.size, 0, none⟩ = some (.int .i64 K) := dA.cell 0 rfl
  have p1 : w1.cell? ⟨w.heap.size, 1, none⟩ = some (.bool no) := dA.cell 1 rfl
  have p2 : w1.cell? ⟨w.heap.size, 2, none⟩ = some (.int .i64 l) := dA.cell 2 rfl
  have p3 : w1.cell? ⟨w.heap.size, 3, none⟩ = some (.int .i64 h) := dA.cell 3 rfl
  have p4 : w1.cell? ⟨w.heap.size, 4, none⟩ = some (.int .i64 f) := dA.cell 4 rfl
  have p5 : w1.cell? ⟨w.heap.size, 5, none⟩ = some (.int .i64 b) := dA.cell 5 rfl
  go_wp2_with fail
  refine (cX _).mono ?_
  rintro e w2 ⟨xa, rfl, hXA, hxa, hb2⟩
  have nx7 : w.heap.size + 1 + 1 < xa := Nat.lt_of_lt_of_le d8.lt hxa
  have hxa2 := Nat.le_trans hbE.size hxa
  replace dB := At.below' hb2 dB
  replace d8 := At.below' hb2 d8
  replace hbE := hbE.trans (hb2.mono hbE.size)
  clear p0 p1 p2 p3 p4 p5
  clear hb2 cX dA hxa
  have q0 : w2.cell? ⟨w.heap.size + 1, 0, none⟩ = some (.int .i64 K) := dB.cell 0 rfl
  have q1 : w2.cell? ⟨w.heap.size + 1, 1, none⟩ = some (.bool no2) := dB.cell 1 rfl
  have q2 : w2.cell? ⟨w.heap.size + 1, 2, none⟩ = some (.int .i64 l2) := dB.cell 2 rfl
  have q3 : w2.cell? ⟨w.heap.size + 1, 3, none⟩ = some (.int .i64 h2) := dB.cell 3 rfl
  have q4 : w2.cell? ⟨w.heap.size + 1, 4, none⟩ = some (.int .i64 f2) := dB.cell 4 rfl
  have q5 : w2.cell? ⟨w.heap.size + 1, 5, none⟩ = some (.int .i64 b2) := dB.cell 5 rfl
  go_wp2_with fail
  refine (cY _).mono ?_
  rintro e w3 ⟨xb0, rfl, hXB, hxb, hb3⟩
  have nxy : xa < xb0 := Nat.lt_of_lt_of_le (At.lt hXA) hxb
  have nx8 : w.heap.size + 1 + 1 < xb0 := Nat.lt_of_lt_of_le d8.lt hxb
  have hXA3 : OpNew w3 xa kd K no l h f b := At.below' hb3 hXA
  replace d8 := At.below' hb3 d8
  replace hbE := hbE.trans (hb3.mono hbE.size)
  clear q0 q1 q2 q3 q4 q5
  clear hb3 cY dB hxb hXA
  have n0 : w3.cell? ⟨xa, 0, none⟩ = some (.int .i64 kd) := hXA3.cell 0 rfl
  have n1 : w3.cell? ⟨xa, 1, none⟩ = some (.int .i64 K) := hXA3.cell 1 rfl
  have n2 : w3.cell? ⟨xa, 2, none⟩ = some (.bool (Al.signedB kd)) := hXA3.cell 2 rfl
  go_wp2_with fail
  refine (cS _).mono ?_
  rintro e w4 ⟨bw, rfl, hW, hbw, hb4⟩
  have nxw : xa < bw := Nat.lt_of_lt_of_le (At.lt hXA3) hbw
  have nyw : xb0 < bw := Nat.lt_of_lt_of_le (At.lt hXB) hbw
  have hbw2 : w.heap.size + 1 + 1 < bw := Nat.lt_of_lt_of_le d8.lt hbw
  have hXA4 : OpNew w4 xa kd K no l h f b := At.below' hb4 hXA3
  have hXB4 : OpNew w4 xb0 kd K no2 l2 h2 f2 b2 := At.below' hb4 hXB
  replace d8 := At.below' hb4 d8
  replace hbE := hbE.trans (hb4.mono hbE.size)
  clear hb4 cS n0 n1 n2 hXA3 hXB hbw
  have cE1 := fun w g => mempty_any xa kd K no l h f b okA hmA w g
  have cE2 := fun w g => mempty_any xb0 kd K no2 l2 h2 f2 b2 okB hmB w g
  go_wp2_with fail
  refine (cE1 _ hXA4).mono ?_
  rintro e w5 ⟨is, his, rfl, hb5⟩
  obtain rfl : is = false := by
    cases is
    · rfl
    · obtain ⟨z, hz⟩ := NE.out
      exact absurd hz (his.1 rfl z)
  have hXA5 : OpNew w5 xa kd K no l h f b := At.below' hb5 hXA4
  have hXB5 : OpNew w5 xb0 kd K no2 l2 h2 f2 b2 := At.below' hb5 hXB4
  replace d8 := At.below' hb5 d8
  replace hW := At.below' hb5 hW
  replace hbE := hbE.trans (hb5.mono hbE.size)
  clear hb5 cE1 hXA4 hXB4 his
  go_wp2_with fail
  refine (cE2 _ hXB5).mono ?_
  rintro e w6 ⟨is, his, rfl, hb6⟩
  obtain rfl : is = false := by
    cases is
    · rfl
    · obtain ⟨z, hz⟩ := NE2.out
      exact absurd hz (his.1 rfl z)
  have hXA6 : OpNew w6 xa kd K no l h f b := At.below' hb6 hXA5
  have hXB6 : OpNew w6 xb0 kd K no2 l2 h2 f2 b2 := At.below' hb6 hXB5
  replace d8 := At.below' hb6 d8
  replace hW := At.below' hb6 hW
  replace hbE := hbE.trans (hb6.mono hbE.size)
  clear hb6 cE2 hXA5 hXB5 his
  have cM := two_1 bw xa xb0 a c ha hc w6 hW (TOA.out _ _ hXA6) (TOB.out _ _ hXB6) (by omega) (by omega) (by omega)
  go_wp2_with fail
  refine cM.mono ?_
  rintro e w7 ⟨rfl, ⟨tno, tl, th, tf, tb, hT, okT, hmT, eqt⟩, hall, hbl⟩
  have EQT := Lib.hid eqt
  have d8k := hall _ _ _ (by omega) (by omega) (by omega) d8
  have hbF := hbE.trans (hbl w.heap.size (by omega) (by omega) (by omega) hbE.size)
  have cC := fun w g => classes8 bw 1 8 false tno tl th tf tb w g
  clear cM hXA6 hXB6 hW hall hbl hbE d8 eqt okA okB hmA hmB TOA TOB
  obtain ⟨B8, hB8⟩ : ∃ B, B = w.heap.size + 1 + 1 := ⟨_, rfl⟩
  have hB8l : w.heap.size ≤ B8 := by omega
  rw [← hB8] at d8k
  go_upto_region 13 with (fail)
  rw [← hB8]
  clear hB8 hbw2
  have o0 : w7.cell? ⟨bw, 4, none⟩ = some (.int .i64 8) := hT.cell 4 rfl
  have o1 : w7.cell? ⟨bw, 5, none⟩ = some (.bool tno) := hT.cell 5 rfl
  have o2 : w7.cell? ⟨bw, 6, none⟩ = some (.int .i64 tl) := hT.cell 6 rfl
  have o3 : w7.cell? ⟨bw, 7, none⟩ = some (.int .i64 th) := hT.cell 7 rfl
  have o4 : w7.cell? ⟨bw, 8, none⟩ = some (.int .i64 tf) := hT.cell 8 rfl
  have o5 : w7.cell? ⟨bw, 9, none⟩ = some (.int .i64 tb) := hT.cell 9 rfl
  have HT := Lib.hid hT
  have D8 := Lib.hid d8k
  clear hT d8k
  go_region_with
    ((go_at_call 35; refine (cC _ (At.drew HT.out)).mono ?_; rintro e w8 ⟨rfl, hb8⟩
      have dR := At.below' hb8 D8.out.drew
      have hT8 := At.below' hb8 (At.drew HT.out)
      have u0 : w8.cell? ⟨bw, 4, none⟩ = some (.int .i64 8) := hT8.cell 4 rfl
      have u1 : w8.cell? ⟨bw, 5, none⟩ = some (.bool tno) := hT8.cell 5 rfl
      have u2 : w8.cell? ⟨bw, 6, none⟩ = some (.int .i64 tl) := hT8.cell 6 rfl
      have u3 : w8.cell? ⟨bw, 7, none⟩ = some (.int .i64 th) := hT8.cell 7 rfl
      have u4 : w8.cell? ⟨bw, 8, none⟩ = some (.int .i64 tf) := hT8.cell 8 rfl
      have u5 : w8.cell? ⟨bw, 9, none⟩ = some (.int .i64 tb) := hT8.cell 9 rfl
      have tc0 : w8.cell? ⟨B8, 0, none⟩ = some (.int .i64 0) := dR.cell 0 rfl
      have tf0 : w8.frozen? ⟨B8, 0, none⟩ = false := At.free dR 0
      have ts0 : At (w8.setCell ⟨B8, 0, none⟩ (.int .i64 8)) B8 #[.int .i64 8, .bool false, .int .i64 0, .int .i64 0, .int .i64 0, .int .i64 0] 30 := At.set dR 0 (.int .i64 8) (by simp)
      have tc1 : (w8.setCell ⟨B8, 0, none⟩ (.int .i64 8)).cell? ⟨B8, 1, none⟩ = some (.bool false) := ts0.cell 1 rfl
      have tf1 : (w8.setCell ⟨B8, 0, none⟩ (.int .i64 8)).frozen? ⟨B8, 1, none⟩ = false := At.free ts0 1
      have ts1 : At ((w8.setCell ⟨B8, 0, none⟩ (.int .i64 8)).setCell ⟨B8, 1, none⟩ (.bool tno)) B8 #[.int .i64 8, .bool tno, .int .i64 0, .int .i64 0, .int .i64 0, .int .i64 0] 30 := At.set ts0 1 (.bool tno) (by simp)
      have tc2 : ((w8.setCell ⟨B8, 0, none⟩ (.int .i64 8)).setCell ⟨B8, 1, none⟩ (.bool tno)).cell? ⟨B8, 2, none⟩ = some (.int .i64 0) := ts1.cell 2 rfl
      have tf2 : ((w8.setCell ⟨B8, 0, none⟩ (.int .i64 8)).setCell ⟨B8, 1, none⟩ (.bool tno)).frozen? ⟨B8, 2, none⟩ = false := At.free ts1 2
      have ts2 : At (((w8.setCell ⟨B8, 0, none⟩ (.int .i64 8)).setCell ⟨B8, 1, none⟩ (.bool tno)).setCell ⟨B8, 2, none⟩ (.int .i64 tl)) B8 #[.int .i64 8, .bool tno, .int .i64 tl, .int .i64 0, .int .i64 0, .int .i64 0] 30 := At.set ts1 2 (.int .i64 tl) (by simp)
      have tc3 : (((w8.setCell ⟨B8, 0, none⟩ (.int .i64 8)).setCell ⟨B8, 1, none⟩ (.bool tno)).setCell ⟨B8, 2, none⟩ (.int .i64 tl)).cell? ⟨B8, 3, none⟩ = some (.int .i64 0) := ts2.cell 3 rfl
      have tf3 : (((w8.setCell ⟨B8, 0, none⟩ (.int .i64 8)).setCell ⟨B8, 1, none⟩ (.bool tno)).setCell ⟨B8, 2, none⟩ (.int .i64 tl)).frozen? ⟨B8, 3, none⟩ = false := At.free ts2 3
      have ts3 : At ((((w8.setCell ⟨B8, 0, none⟩ (.int .i64 8)).setCell ⟨B8, 1, none⟩ (.bool tno)).setCell ⟨B8, 2, none⟩ (.int .i64 tl)).setCell ⟨B8, 3, none⟩ (.int .i64 th)) B8 #[.int .i64 8, .bool tno, .int .i64 tl, .int .i64 th, .int .i64 0, .int .i64 0] 30 := At.set ts2 3 (.int .i64 th) (by simp)
      have tc4 : ((((w8.setCell ⟨B8, 0, none⟩ (.int .i64 8)).setCell ⟨B8, 1, none⟩ (.bool tno)).setCell ⟨B8, 2, none⟩ (.int .i64 tl)).setCell ⟨B8, 3, none⟩ (.int .i64 th)).cell? ⟨B8, 4, none⟩ = some (.int .i64 0) := ts3.cell 4 rfl
      have tf4 : ((((w8.setCell ⟨B8, 0, none⟩ (.int .i64 8)).setCell ⟨B8, 1, none⟩ (.bool tno)).setCell ⟨B8, 2, none⟩ (.int .i64 tl)).setCell ⟨B8, 3, none⟩ (.int .i64 th)).frozen? ⟨B8, 4, none⟩ = false := At.free ts3 4
      have ts4 : At (((((w8.setCell ⟨B8, 0, none⟩ (.int .i64 8)).setCell ⟨B8, 1, none⟩ (.bool tno)).setCell ⟨B8, 2, none⟩ (.int .i64 tl)).setCell ⟨B8, 3, none⟩ (.int .i64 th)).setCell ⟨B8, 4, none⟩ (.int .i64 tf)) B8 #[.int .i64 8, .bool tno, .int .i64 tl, .int .i64 th, .int .i64 tf, .int .i64 0] 30 := At.set ts3 4 (.int .i64 tf) (by simp)
      have tc5 : (((((w8.setCell ⟨B8, 0, none⟩ (.int .i64 8)).setCell ⟨B8, 1, none⟩ (.bool tno)).setCell ⟨B8, 2, none⟩ (.int .i64 tl)).setCell ⟨B8, 3, none⟩ (.int .i64 th)).setCell ⟨B8, 4, none⟩ (.int .i64 tf)).cell? ⟨B8, 5, none⟩ = some (.int .i64 0) := ts4.cell 5 rfl
      have tf5 : (((((w8.setCell ⟨B8, 0, none⟩ (.int .i64 8)).setCell ⟨B8, 1, none⟩ (.bool tno)).setCell ⟨B8, 2, none⟩ (.int .i64 tl)).setCell ⟨B8, 3, none⟩ (.int .i64 th)).setCell ⟨B8, 4, none⟩ (.int .i64 tf)).frozen? ⟨B8, 5, none⟩ = false := At.free ts4 5
      have ts5 : At ((((((w8.setCell ⟨B8, 0, none⟩ (.int .i64 8)).setCell ⟨B8, 1, none⟩ (.bool tno)).setCell ⟨B8, 2, none⟩ (.int .i64 tl)).setCell ⟨B8, 3, none⟩ (.int .i64 th)).setCell ⟨B8, 4, none⟩ (.int .i64 tf)).setCell ⟨B8, 5, none⟩ (.int .i64 tb)) B8 #[.int .i64 8, .bool tno, .int .i64 tl, .int .i64 th, .int .i64 tf, .int .i64 tb] 30 := At.set ts4 5 (.int .i64 tb) (by simp)
      have DR := Lib.hid ts5
      have HB8 := Lib.hid hb8
      clear dR hb8 hT8 ts5 ts0 ts1 ts2 ts3 ts4))
  all_goals
    have hbG : Below w.heap.size w ((((((w8.setCell ⟨B8, 0, none⟩ (.int .i64 8)).setCell ⟨B8, 1, none⟩ (.bool tno)).setCell ⟨B8, 2, none⟩ (.int .i64 tl)).setCell ⟨B8, 3, none⟩ (.int .i64 th)).setCell ⟨B8, 4, none⟩ (.int .i64 tf)).setCell ⟨B8, 5, none⟩ (.int .i64 tb)) := (((((((hbF.drew.trans (HB8.out.mono hbF.size)).setCell (p := ⟨B8, 0, none⟩) hB8l (.int .i64 8)).setCell (p := ⟨B8, 1, none⟩) hB8l (.bool tno)).setCell (p := ⟨B8, 2, none⟩) hB8l (.int .i64 tl)).setCell (p := ⟨B8, 3, none⟩) hB8l (.int .i64 th)).setCell (p := ⟨B8, 4, none⟩) hB8l (.int .i64 tf)).setCell (p := ⟨B8, 5, none⟩) hB8l (.int .i64 tb))
    have g0 : ((((((w8.setCell ⟨B8, 0, none⟩ (.int .i64 8)).setCell ⟨B8, 1, none⟩ (.bool tno)).setCell ⟨B8, 2, none⟩ (.int .i64 tl)).setCell ⟨B8, 3, none⟩ (.int .i64 th)).setCell ⟨B8, 4, none⟩ (.int .i64 tf)).setCell ⟨B8, 5, none⟩ (.int .i64 tb)).cell? ⟨B8, 0, none⟩ = some (.int .i64 8) := DR.out.cell 0 rfl
    have g1 : ((((((w8.setCell ⟨B8, 0, none⟩ (.int .i64 8)).setCell ⟨B8, 1, none⟩ (.bool tno)).setCell ⟨B8, 2, none⟩ (.int .i64 tl)).setCell ⟨B8, 3, none⟩ (.int .i64 th)).setCell ⟨B8, 4, none⟩ (.int .i64 tf)).setCell ⟨B8, 5, none⟩ (.int .i64 tb)).cell? ⟨B8, 1, none⟩ = some (.bool tno) := DR.out.cell 1 rfl
    have g2 : ((((((w8.setCell ⟨B8, 0, none⟩ (.int .i64 8)).setCell ⟨B8, 1, none⟩ (.bool tno)).setCell ⟨B8, 2, none⟩ (.int .i64 tl)).setCell ⟨B8, 3, none⟩ (.int .i64 th)).setCell ⟨B8, 4, none⟩ (.int .i64 tf)).setCell ⟨B8, 5, none⟩ (.int .i64 tb)).cell? ⟨B8, 2, none⟩ = some (.int .i64 tl) := DR.out.cell 2 rfl
    have g3 : ((((((w8.setCell ⟨B8, 0, none⟩ (.int .i64 8)).setCell ⟨B8, 1, none⟩ (.bool tno)).setCell ⟨B8, 2, none⟩ (.int .i64 tl)).setCell ⟨B8, 3, none⟩ (.int .i64 th)).setCell ⟨B8, 4, none⟩ (.int .i64 tf)).setCell ⟨B8, 5, none⟩ (.int .i64 tb)).cell? ⟨B8, 3, none⟩ = some (.int .i64 th) := DR.out.cell 3 rfl
    have g4 : ((((((w8.setCell ⟨B8, 0, none⟩ (.int .i64 8)).setCell ⟨B8, 1, none⟩ (.bool tno)).setCell ⟨B8, 2, none⟩ (.int .i64 tl)).setCell ⟨B8, 3, none⟩ (.int .i64 th)).setCell ⟨B8, 4, none⟩ (.int .i64 tf)).setCell ⟨B8, 5, none⟩ (.int .i64 tb)).cell? ⟨B8, 4, none⟩ = some (.int .i64 tf) := DR.out.cell 4 rfl
    have g5 : ((((((w8.setCell ⟨B8, 0, none⟩ (.int .i64 8)).setCell ⟨B8, 1, none⟩ (.bool tno)).setCell ⟨B8, 2, none⟩ (.int .i64 tl)).setCell ⟨B8, 3, none⟩ (.int .i64 th)).setCell ⟨B8, 4, none⟩ (.int .i64 tf)).setCell ⟨B8, 5, none⟩ (.int .i64 tb)).cell? ⟨B8, 5, none⟩ = some (.int .i64 tb) := DR.out.cell 5 rfl
    clear u0 u1 u2 u3 u4 u5 tc0 tc1 tc2 tc3 tc4 tc5 tf0 tf1 tf2 tf3 tf4 tf5 DR HB8 HT D8 o0 o1 o2 o3 o4 o5 cC hbF
    go_wp2_with fail
    exact bodyPost_ret (v := .tuple #[valV 8 tno tl th tf tb, .slice none 0 0, .int .i64 0]) (by simp [results, Tryz.results10, go_sem, g0, g1, g2, g3, g4, g5]) rfl ⟨tno, tl, th, tf, tb, rfl, okT, hmT, EQT.out, hbG⟩
end Go.Proofs.YtblahbmhbfcggaaGreatDoor
