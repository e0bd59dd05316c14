/- FilterZero: what its walk needs; its innermost loop. -/
import Derived.Test.YtdbbfcnblgokpaaGreatDoorVNextF
import Derived.Deep.CutRange
import Derived.Test.YtdbbfcnblgokpaaGreatDoorVSome30
import Derived.Test.YtdbbfcnblgokpaaGreatDoorVWithinL
import Derived.Test.YtdbbfcnblgokpaaGreatDoorVQuiet
import Derived.Test.YtdbbfcnblgokpaaGreatDoorVWake
namespace Go.Proofs.YtdbbfcnblgokpaaGreatDoor
open Go.ChangeShapes Go.WideShapes Go.ChangeAt Go.RowKit Go.Joins Go.Deep
set_option linter.unusedVariables false

theorem open_123 (t : Array Value) (h : t.size = 123) : t = #[sl t 0, sl t 1, sl t 2, sl t 3, sl t 4, sl t 5, sl t 6, sl t 7, sl t 8, sl t 9, sl t 10, sl t 11, sl t 12, sl t 13, sl t 14, sl t 15, sl t 16, sl t 17, sl t 18, sl t 19, sl t 20, sl t 21, sl t 22, sl t 23, sl t 24, sl t 25, sl t 26, sl t 27, sl t 28, sl t 29, sl t 30, sl t 31, sl t 32, sl t 33, sl t 34, sl t 35, sl t 36, sl t 37, sl t 38, sl t 39, sl t 40, sl t 41, sl t 42, sl t 43, sl t 44, sl t 45, sl t 46, sl t 47, sl t 48, sl t 49, sl t 50, sl t 51, sl t 52, sl t 53, sl t 54, sl t 55, sl t 56, sl t 57, sl t 58, sl t 59, sl t 60, sl t 61, sl t 62, sl t 63, sl t 64, sl t 65, sl t 66, sl t 67, sl t 68, sl t 69, sl t 70, sl t 71, sl t 72, sl t 73, sl t 74, sl t 75, sl t 76, sl t 77, sl t 78, sl t 79, sl t 80, sl t 81, sl t 82, sl t 83, sl t 84, sl t 85, sl t 86, sl t 87, sl t 88, sl t 89, sl t 90, sl t 91, sl t 92, sl t 93, sl t 94, sl t 95, sl t 96, sl t 97, sl t 98, sl t 99, sl t 100, sl t 101, sl t 102, sl t 103, sl t 104, sl t 105, sl t 106, sl t 107, sl t 108, sl t 109, sl t 110, sl t 111, sl t 112, sl t 113, sl t 114, sl t 115, sl t 116, sl t 117, sl t 118, sl t 119, sl t 120, sl t 121, sl t 122] := (frame_list t 123 h).trans (by kernel_rfl)
noncomputable def zbodyA : Code := (Tryz.f3.body.bind firstLoop).getD .skip
noncomputable def zbodyB : Code := (firstLoop zbodyA).getD .skip
noncomputable def zbodyC : Code := (firstLoop zbodyB).getD .skip
noncomputable def zreg (n : Nat) : Code := (findReg n zbodyB).getD .skip
set_option maxRecDepth 100000 in
set_option maxHeartbeats 1600000 in
theorem num5_any (n : Int) (w : World) : Calls Tryz.prog 7 #[.int .i64 n] w fun e w' => e = .returned (.int .i64 n) ∧ w = w' := by
  go_enter Tryz.func7, Tryz.ntmps7
  go_wp2_with fail
  go_ret
  exact ⟨rfl, rfl⟩
def FrZ (t : Array Value) (Bp BA BX i k : Nat) (sv : Value) : Prop := t.size = 123 ∧ sl t 1 = .pointer (some ⟨Bp, 0, none⟩) ∧ sl t 3 = .int .i64 (i : Nat) ∧ sl t 4 = .pointer (some ⟨BA, 0, none⟩) ∧ sl t 5 = .int .i64 (k : Nat) ∧ sl t 6 = .pointer (some ⟨BX, 0, none⟩) ∧ sl t 8 = sv
def RelZC (m Bp BA BX i k : Nat) (sv : Value) (w1 : World) (n : Nat) (a : Act) (wr : World) : Prop := ∃ t j z, a = ⟨t, []⟩ ∧ FrZ t Bp BA BX i k sv ∧ sl t 9 = .int .i64 z ∧ z = (j : Nat) ∧ j + n = m ∧ Below w1.heap.size w1 wr
set_option maxRecDepth 1000000 in
set_option maxHeartbeats 6400000 in
theorem zloopC (K : Nat) (no : Bool) (l h f b : Nat) (xno : Bool) (xl xh xf xb : Nat) (okX : ValOk K xno xl xh xf xb) (Bp BA BX i k : Nat) (hk : k = 0 ∨ k = 1) (m : Nat) (p : Option Addr) (cap : Nat) (zz : List Nat) (hm : m = zz.length) (hlen : m ≤ 1000) (w1 : World)
    (hI : HasInts w1 p zz) (hM : ∀ z ∈ zz, MemV K no l h f b z) (hXX : ∀ z, MemV K no l h f b z → (z = 0 ↔ k = 0) → MemV K xno xl xh xf xb z) (dX : At w1 BX #[.int .i64 K, .bool xno, .int .i64 xl, .int .i64 xh, .int .i64 xf, .int .i64 xb] 28)
    (t : Array Value) (hF : FrZ t Bp BA BX i k (.slice p m cap)) (hj0 : sl t 9 = .int .i64 0) (Q : Exit → Act → World → Prop)
    (hQ : ∀ t w', FrZ t Bp BA BX i k (.slice p m cap) → Below w1.heap.size w1 w' → Q (.exit 4) ⟨t, []⟩ w') :
    (Code.loop zbodyC).wp Tryz.prog (NoPanic Q) ⟨t, []⟩ w1 := by
  refine wp_loop_ghost_k (RelZC m Bp BA BX i k (.slice p m cap) w1) m ⟨t, 0, 0, rfl, hF, hj0, rfl, by omega, Below.refl _ _⟩ ?_
  clear hF hj0
  intro n a wr hR iK iJv hJ hK
  clear t
  obtain ⟨t, j, z, rfl, ⟨f0, f1, f3, f4, f5, f6, f8⟩, f9, rfl, hjn, hbj⟩ := hR
  rw [open_123 t f0]
  simp only [f1, f3, f4, f5, f6, f8, f9]
  clear f0 f1 f3 f4 f5 f6 f8 f9
  conv => arg 2; whnf
  by_cases hlt : j < m
  · have hjt1 : (j : Int) < (m : Int) := by omega
    have hjz : j < zz.length := by omega
    obtain ⟨g, rfl, hc⟩ := hI.resolve_left (by omega)
    have cj := cell_below (hc j hjz) hbj
    obtain ⟨z, hz⟩ : ∃ z : Nat, z = zz[j] := ⟨_, rfl⟩
    rw [← hz] at cj
    have hzM : MemV K no l h f b z := by rw [hz]; exact hM _ (List.getElem_mem _)
    have hz2 : z < 2 ^ K := hzM.2.lt
    have cX := fun w => rHas_b K xno xl xh xf xb z okX hz2 w
    have iX := hasB_iff okX hz2
    obtain ⟨oX, eX⟩ : ∃ o, o = hasB xno xl xh xf xb z := ⟨_, rfl⟩
    rw [← eX] at cX iX
    have i1 : (z = 0 ↔ k = 0) → oX = true := fun h => iX.2 (hXX z hzM h)
    have dX2 := At.below' hbj dX
    clear hz hc eX iX
    go_upto_region 22 with (fail)
    go_cut [93] from 77 to 93 (fun v93 wx => v93 = .bool false ∧ Below wr.heap.size wr wx)
    case first =>
      have hcj := fun p : BelowBy wr => p.cell cj
      have hx0 := fun p : BelowBy wr => p.cell (dX2.cell 0 rfl : wr.cell? ⟨BX, 0, none⟩ = some (.int .i64 K))
      have hx1 := fun p : BelowBy wr => p.cell (dX2.cell 1 rfl : wr.cell? ⟨BX, 1, none⟩ = some (.bool xno))
      have hx2 := fun p : BelowBy wr => p.cell (dX2.cell 2 rfl : wr.cell? ⟨BX, 2, none⟩ = some (.int .i64 xl))
      have hx3 := fun p : BelowBy wr => p.cell (dX2.cell 3 rfl : wr.cell? ⟨BX, 3, none⟩ = some (.int .i64 xh))
      have hx4 := fun p : BelowBy wr => p.cell (dX2.cell 4 rfl : wr.cell? ⟨BX, 4, none⟩ = some (.int .i64 xf))
      have hx5 := fun p : BelowBy wr => p.cell (dX2.cell 5 rfl : wr.cell? ⟨BX, 5, none⟩ = some (.int .i64 xb))
      clear dX2 cj hI hM dX hbj okX hXX hQ
      by_cases hz0 : z = 0
      · subst hz0
        rcases hk with rfl | rfl
        · obtain rfl := i1 ⟨fun _ => rfl, fun _ => rfl⟩
          clear i1
          refine wp_region_quiet_below (by kernel_rfl) (by kernel_rfl) ?_
          repeat (go_big_quiet_step (((go_at_call 10; with_reducible exact Calls.below_of (cX _)))))
          refine wpQuiet_nil ?_
          intro wx hw'
          obtain ⟨⟨wx', hbx⟩, hw''⟩ := hw'
          subst hw''
          go_wp2_with fail
          go_meet
          exact ⟨rfl, hbx⟩
        · clear i1
          refine wp_region_quiet_below (by kernel_rfl) (by kernel_rfl) ?_
          repeat (go_big_quiet_step (((go_at_call 10; with_reducible exact Calls.below_of (cX _)))))
          refine wpQuiet_nil ?_
          intro wx hw'
          obtain ⟨⟨wx', hbx⟩, hw''⟩ := hw'
          subst hw''
          go_wp2_with fail
          go_meet
          exact ⟨rfl, hbx⟩
      · have hz1 : ((z : Int) == 0) = false := by simp [hz0]
        have hz3 : decide ((z : Int) = 0) = false := by simp [hz0]
        rcases hk with rfl | rfl
        · clear i1
          refine wp_region_quiet_below (by kernel_rfl) (by kernel_rfl) ?_
          repeat (go_big_quiet_step (((go_at_call 10; with_reducible exact Calls.below_of (cX _)))))
          refine wpQuiet_nil ?_
          intro wx hw'
          obtain ⟨⟨wx', hbx⟩, hw''⟩ := hw'
          subst hw''
          go_wp2_with fail
          go_meet
          exact ⟨rfl, hbx⟩
        · obtain rfl := i1 ⟨fun h => absurd h hz0, fun h => by cases h⟩
          clear i1
          refine wp_region_quiet_below (by kernel_rfl) (by kernel_rfl) ?_
          repeat (go_big_quiet_step (((go_at_call 10; with_reducible exact Calls.below_of (cX _)))))
          refine wpQuiet_nil ?_
          intro wx hw'
          obtain ⟨⟨wx', hbx⟩, hw''⟩ := hw'
          subst hw''
          go_wp2_with fail
          go_meet
          exact ⟨rfl, hbx⟩
    case rest =>
    obtain ⟨rfl, hbx⟩ := hcut
    have hbJ := hbj.trans (hbx.mono hbj.size)
    clear hbx dX2 hbj cj i1 cX
    go_wp2_with fail
    refine Handed.intro (n - 1) (by omega) (hJ _ _ _ ⟨_, j + 1, _, rfl, ⟨rfl, rfl, rfl, rfl, rfl, rfl, rfl⟩, rfl, by omega, by omega, hbJ⟩)
  · have hlt1 : decide ((j : Int) < (m : Int)) = false := by simp; omega
    clear hJ
    go_wp2_with fail
    exact hQ _ _ ⟨rfl, rfl, rfl, rfl, rfl, rfl, rfl⟩ hbj
end Go.Proofs.YtdbbfcnblgokpaaGreatDoor

/- FilterZero: the last question of a round. -/
namespace Go.Proofs.YtdbbfcnblgokpaaGreatDoor
open Go.ChangeShapes Go.WideShapes Go.ChangeAt Go.RowKit Go.Joins Go.Deep
set_option linter.unusedVariables false

/-- what is left of a set whose members were asked whether they are 0 -/
def ZeroTold (y : Bool) (A X : Nat → Prop) : Prop := (y = true → ∀ z, X z ↔ z = 0 ∧ A z) ∧ (y = false → (∀ z, A z → z ≠ 0 → X z) ∧ (∀ z, X z → A z) ∧ ((∀ z, A z → z = 0) → ∀ z, ¬ X z))
set_option maxRecDepth 1000000 in
set_option maxHeartbeats 6400000 in
theorem zcut24 (K : Nat) (no : Bool) (l h f b : Nat) (xno : Bool) (xl xh xf xb : Nat) (okA : ValOk K no l h f b) (okX : ValOk K xno xl xh xf xb) (Bp BA BX i k : Nat) (hk : k = 0 ∨ k = 1) (hZ : ZeroTold (decide (k = 0)) (MemV K no l h f b) (MemV K xno xl xh xf xb)) (wM : World)
    (dA : At wM BA #[.int .i64 K, .bool no, .int .i64 l, .int .i64 h, .int .i64 f, .int .i64 b] 28) (dX : At wM BX #[.int .i64 K, .bool xno, .int .i64 xl, .int .i64 xh, .int .i64 xf, .int .i64 xb] 28)
    (t : Array Value) (f0 : t.size = 123) (f1 : sl t 1 = .pointer (some ⟨Bp, 0, none⟩)) (f3 : sl t 3 = .int .i64 (i : Nat)) (f4 : sl t 4 = .pointer (some ⟨BA, 0, none⟩)) (f5 : sl t 5 = .int .i64 (k : Nat)) (f6 : sl t 6 = .pointer (some ⟨BX, 0, none⟩))
    (Q : Exit → Act → World → Prop) (hQ : ∀ t w', t.size = 123 → sl t 1 = .pointer (some ⟨Bp, 0, none⟩) → sl t 3 = .int .i64 (i : Nat) → sl t 4 = .pointer (some ⟨BA, 0, none⟩) → sl t 5 = .int .i64 (k : Nat) → sl t 121 = .bool false → Below wM.heap.size wM w' → Q .normal ⟨t, []⟩ w') :
    (zreg 24).wp Tryz.prog (NoPanic Q) ⟨t, []⟩ wM := by
  have hp0 : 0 < 2 ^ K := Nat.two_pow_pos K
  rw [open_123 t f0]
  simp only [f1, f3, f4, f5, f6]
  clear f0 f1 f3 f4 f5 f6
  have ha0 := fun p : BelowBy wM => p.cell (dA.cell 0 rfl : wM.cell? ⟨BA, 0, none⟩ = some (.int .i64 K))
  have ha1 := fun p : BelowBy wM => p.cell (dA.cell 1 rfl : wM.cell? ⟨BA, 1, none⟩ = some (.bool no))
  have ha2 := fun p : BelowBy wM => p.cell (dA.cell 2 rfl : wM.cell? ⟨BA, 2, none⟩ = some (.int .i64 l))
  have ha3 := fun p : BelowBy wM => p.cell (dA.cell 3 rfl : wM.cell? ⟨BA, 3, none⟩ = some (.int .i64 h))
  have ha4 := fun p : BelowBy wM => p.cell (dA.cell 4 rfl : wM.cell? ⟨BA, 4, none⟩ = some (.int .i64 f))
  have ha5 := fun p : BelowBy wM => p.cell (dA.cell 5 rfl : wM.cell? ⟨BA, 5, none⟩ = some (.int .i64 b))
  have hx0 := fun p : BelowBy wM => p.cell (dX.cell 0 rfl : wM.cell? ⟨BX, 0, none⟩ = some (.int .i64 K))
  have hx1 := fun p : BelowBy wM => p.cell (dX.cell 1 rfl : wM.cell? ⟨BX, 1, none⟩ = some (.bool xno))
  have hx2 := fun p : BelowBy wM => p.cell (dX.cell 2 rfl : wM.cell? ⟨BX, 2, none⟩ = some (.int .i64 xl))
  have hx3 := fun p : BelowBy wM => p.cell (dX.cell 3 rfl : wM.cell? ⟨BX, 3, none⟩ = some (.int .i64 xh))
  have hx4 := fun p : BelowBy wM => p.cell (dX.cell 4 rfl : wM.cell? ⟨BX, 4, none⟩ = some (.int .i64 xf))
  have hx5 := fun p : BelowBy wM => p.cell (dX.cell 5 rfl : wM.cell? ⟨BX, 5, none⟩ = some (.int .i64 xb))
  clear dA dX
  conv => arg 2; whnf
  rcases hk with rfl | rfl
  · have hr : LeastM (MemV K xno xl xh xf xb) 1 (-1) := Or.inl ⟨rfl, fun z hz hM => by have := ((hZ.1 rfl z).1 hM).1; omega⟩
    have cN : ∀ w, Calls Tryz.prog 11 #[valV K xno xl xh xf xb, .int .i64 1] w (fun e w' => e = .returned (.int .i64 (-1)) ∧ Below w.heap.size w w') := fun w => rNext_g K xno xl xh xf xb 1 okX (by omega) (-1) hr w
    have cHX : ∀ w, Calls Tryz.prog 10 #[valV K xno xl xh xf xb, .int .i64 0] w (fun e w' => e = .returned (.bool (hasB xno xl xh xf xb 0)) ∧ Below w.heap.size w w') := fun w => rHas_b K xno xl xh xf xb 0 okX hp0 w
    have cHA : ∀ w, Calls Tryz.prog 10 #[valV K no l h f b, .int .i64 0] w (fun e w' => e = .returned (.bool (hasB no l h f b 0)) ∧ Below w.heap.size w w') := fun w => rHas_b K no l h f b 0 okA hp0 w
    have he : hasB xno xl xh xf xb 0 = hasB no l h f b 0 := by rw [Bool.eq_iff_iff, hasB_iff okX hp0, hasB_iff okA hp0, hZ.1 rfl 0]; exact ⟨fun h => h.2, fun h => ⟨rfl, h⟩⟩
    rw [he] at cHX
    generalize hasB no l h f b 0 = oA at *
    clear he hr hZ okA okX hp0
    cases oA
    · refine wp_region_quiet_below (by kernel_rfl) (by kernel_rfl) ?_
      repeat (go_big_quiet_step (((first | (go_at_call 11; with_reducible exact Calls.below_of (cN _)) | (go_at_call 10; with_reducible exact Calls.below_of (cHX _)) | (go_at_call 10; with_reducible exact Calls.below_of (cHA _))))))
      refine wpQuiet_nil ?_
      intro wx hw'
      obtain ⟨⟨wx', hbx⟩, hw''⟩ := hw'
      subst hw''
      go_wp2_with fail
      refine hQ _ _ rfl rfl rfl rfl rfl rfl hbx
    · refine wp_region_quiet_below (by kernel_rfl) (by kernel_rfl) ?_
      repeat (go_big_quiet_step (((first | (go_at_call 11; with_reducible exact Calls.below_of (cN _)) | (go_at_call 10; with_reducible exact Calls.below_of (cHX _)) | (go_at_call 10; with_reducible exact Calls.below_of (cHA _))))))
      refine wpQuiet_nil ?_
      intro wx hw'
      obtain ⟨⟨wx', hbx⟩, hw''⟩ := hw'
      subst hw''
      go_wp2_with fail
      refine hQ _ _ rfl rfl rfl rfl rfl rfl hbx
  · obtain ⟨r, hr⟩ := least_ex_n (MemV K no l h f b) 1
    have cN : ∀ w, Calls Tryz.prog 11 #[valV K no l h f b, .int .i64 1] w (fun e w' => e = .returned (.int .i64 r) ∧ Below w.heap.size w w') := fun w => rNext_g K no l h f b 1 okA (by omega) r hr w
    by_cases hr0 : r < 0
    · have hno : ∀ z, ¬ MemV K xno xl xh xf xb z := (hZ.2 rfl).2.2 (fun z hz => by
        rcases hr with ⟨_, h⟩ | ⟨m, rfl, _⟩
        · refine Classical.byContradiction fun hz0 => h z (by omega) hz
        · omega)
      have cX := fun w => rNext_f K xno xl xh xf xb okX (-1) (Or.inl ⟨rfl, fun z _ => hno z⟩) w
      have hr1 : decide (r < 0) = true := by simpa using hr0
      clear hr hno hZ okA okX hp0
      refine wp_region_quiet_below (by kernel_rfl) (by kernel_rfl) ?_
      repeat (go_big_quiet_step (((first | (go_at_call 11; with_reducible exact Calls.below_of (cN _)) | (go_at_call 11; with_reducible exact Calls.below_of (cX _))))))
      refine wpQuiet_nil ?_
      intro wx hw'
      obtain ⟨⟨wx', hbx⟩, hw''⟩ := hw'
      subst hw''
      go_wp2_with fail
      refine hQ _ _ rfl rfl rfl rfl rfl rfl hbx
    · have hr1 : decide (r < 0) = false := by simpa using hr0
      clear hr hZ okA okX hp0
      refine wp_region_quiet_below (by kernel_rfl) (by kernel_rfl) ?_
      repeat (go_big_quiet_step (((first | (go_at_call 11; with_reducible exact Calls.below_of (cN _))))))
      refine wpQuiet_nil ?_
      intro wx hw'
      obtain ⟨⟨wx', hbx⟩, hw''⟩ := hw'
      subst hw''
      go_wp2_with fail
      refine hQ _ _ rfl rfl rfl rfl rfl rfl hbx
end Go.Proofs.YtdbbfcnblgokpaaGreatDoor
