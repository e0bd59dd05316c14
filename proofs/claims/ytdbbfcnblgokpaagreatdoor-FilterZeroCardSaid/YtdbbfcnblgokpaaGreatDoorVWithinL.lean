/- The law's own: Within: are all members of one set (as far as they are looked at) another one's. -/
import Derived.Test.YtdbbfcnblgokpaaGreatDoorVSome24
import Derived.Test.YtdbbfcnblgokpaaGreatDoorVBoth
namespace Go.Proofs.YtdbbfcnblgokpaaGreatDoor
open Go.ChangeShapes Go.WideShapes Go.ChangeAt Go.RowKit Go.Joins Go.Deep
set_option linter.unusedVariables false

/-- whether a number is a member, as a Bool -/
def hasB (no : Bool) (l h f b n : Nat) : Bool := !no && memB l h f b n
theorem hasB_iff {k : Nat} {no : Bool} {l h f b n : Nat} (ok : ValOk k no l h f b) (hn : n < 2 ^ k) : hasB no l h f b n = true ↔ MemV k no l h f b n := by
  cases no
  · unfold hasB MemV
    rw [Bool.and_eq_true, memB_iff ok.setOk hn]
    simp
  · unfold hasB MemV
    simp
theorem rHas_b (k : Nat) (no : Bool) (l h f b n : Nat) (ok : ValOk k no l h f b) (hn : n < 2 ^ k) (w : World) :
    Calls Tryz.prog 10 #[valV k no l h f b, .int .i64 n] w (fun e w' => e = .returned (.bool (hasB no l h f b n)) ∧ Below w.heap.size w w') := by
  cases no
  · exact rHas_any k l h f b n ok.setOk (by have := ok.pat.hk.pow; omega) w
  · exact rHas_no k l h f b n w
def AllP (A B : Nat → Prop) (w : World) (e : Ending) (w' : World) : Prop := ∃ is : Bool, e = .returned (.bool is) ∧ ((∀ z, A z → B z) → is = true) ∧ Below w.heap.size w w'
set_option maxRecDepth 100000 in
set_option maxHeartbeats 1600000 in
theorem lawWithin_any (k : Nat) (no : Bool) (l h f b : Nat) (no2 : Bool) (l2 h2 f2 b2 : Nat) (ok : ValOk k no l h f b) (ok2 : ValOk k no2 l2 h2 f2 b2) (sd : Int) (w : World) :
    Calls Tryz.prog 8 #[valV k no l h f b, valV k no2 l2 h2 f2 b2, .int .i64 sd] w (AllP (MemV k no l h f b) (MemV k no2 l2 h2 f2 b2) w) := by
  obtain ⟨dA, dB, hb0⟩ := two_boxes w #[.int .i64 k, .bool no, .int .i64 l, .int .i64 h, .int .i64 f, .int .i64 b] #[.int .i64 k, .bool no2, .int .i64 l2, .int .i64 h2, .int .i64 f2, .int .i64 b2] 28
  have cS := fun w => some_24 k no l h f b ok sd w
  go_enter Tryz.func8, Tryz.ntmps8
  go_wp2_with fail
  refine (cS _).mono ?_
  rintro e w1 ⟨zs, p, cap, rfl, hI, hM, _, hlen, hb1⟩
  have hbE := hb0.trans (hb1.mono hb0.size)
  have dB1 := At.below' hb1 dB
  obtain ⟨N1, hN1⟩ : ∃ N, N = w.heap.size + 1 := ⟨_, rfl⟩
  rw [← hN1] at dB1 ⊢
  obtain ⟨m, hm⟩ : ∃ m, m = zs.length := ⟨_, rfl⟩
  rw [← hm] at hlen ⊢
  have HM := Lib.hid hm
  clear hb0 hb1 dA dB cS hN1 hm
  go_wp2_with fail
  go_loopw [8] (fun v wr => ∃ i : Nat, i ≤ m ∧ v = .int .i64 i ∧ Below w1.heap.size w1 wr) (fun v _ => m - (intOf v).toNat)
  case atStart => exact ⟨0, by omega, rfl, Below.refl _ _⟩
  case round =>
    obtain ⟨i, hi, rfl, hbr⟩ := hrel
    by_cases hlt : i < m
    · have hlt1 : (i : Int) < (m : Int) := by omega
      have hiz : i < zs.length := by have := HM.out; omega
      obtain ⟨g, rfl, hc⟩ := hI.resolve_left (by omega)
      have ci := cell_below (hc i hiz) hbr
      obtain ⟨x, hx⟩ : ∃ x : Nat, x = zs[i] := ⟨_, rfl⟩
      rw [← hx] at ci
      have hxM : MemV k no l h f b x := by rw [hx]; exact hM _ (List.getElem_mem _)
      have hx2 : x < 2 ^ k := hxM.2.lt
      have cH := fun w => rHas_b k no2 l2 h2 f2 b2 x ok2 hx2 w
      have hiff := hasB_iff ok2 hx2
      obtain ⟨o, ho⟩ : ∃ o, o = hasB no2 l2 h2 f2 b2 x := ⟨_, rfl⟩
      rw [← ho] at cH hiff
      have dB2 := At.below' hbr dB1
      have hbG := hbE.trans (hbr.mono hbE.size)
      clear hx hc ho
      go_upto_region 5 with (fail)
      go_cut [24] from 18 to 24 (fun v24 wx => v24 = .bool (!o) ∧ Below wr.heap.size wr wx)
      case first =>
        have hci := fun p : BelowBy wr => p.cell ci
        have hq0 := fun p : BelowBy wr => p.cell (dB2.cell 0 rfl : wr.cell? ⟨N1, 0, none⟩ = some (.int .i64 k))
        have hq1 := fun p : BelowBy wr => p.cell (dB2.cell 1 rfl : wr.cell? ⟨N1, 1, none⟩ = some (.bool no2))
        have hq2 := fun p : BelowBy wr => p.cell (dB2.cell 2 rfl : wr.cell? ⟨N1, 2, none⟩ = some (.int .i64 l2))
        have hq3 := fun p : BelowBy wr => p.cell (dB2.cell 3 rfl : wr.cell? ⟨N1, 3, none⟩ = some (.int .i64 h2))
        have hq4 := fun p : BelowBy wr => p.cell (dB2.cell 4 rfl : wr.cell? ⟨N1, 4, none⟩ = some (.int .i64 f2))
        have hq5 := fun p : BelowBy wr => p.cell (dB2.cell 5 rfl : wr.cell? ⟨N1, 5, none⟩ = some (.int .i64 b2))
        clear dB2 dB1 ci hbG hbr hI hM hbE
        refine wp_region_quiet_below (by kernel_rfl) (by kernel_rfl) ?_
        repeat (go_big_quiet_step ((go_at_call 10; with_reducible exact Calls.below_of (cH _))))
        refine wpQuiet_nil ?_
        intro wx hw'
        obtain ⟨⟨wx', hbx⟩, hw''⟩ := hw'
        subst hw''
        go_wp2_with fail
        go_meet
        exact ⟨rfl, hbx⟩
      case rest =>
      obtain ⟨rfl, hbx⟩ := hcut
      have hbH := hbr.trans (hbx.mono hbr.size)
      have hbF := hbE.trans (hbH.mono hbE.size)
      clear cH dB2 ci hbx hbr
      cases o
      · have fin : AllP (MemV k no l h f b) (MemV k no2 l2 h2 f2 b2) w (.returned (.bool false)) wc := ⟨false, rfl, (fun ha => hiff.2 (ha x hxM)), hbF⟩
        clear hiff hbH hbF
        go_wp2_with fail
        go_ret
        exact fin
      · go_wp2_with fail
        go_roundw
        case rel => exact ⟨i + 1, by omega, by go_num, hbH⟩
        case measure => simp [intOf]; omega
    · have hlt1 : decide ((i : Int) < (m : Int)) = false := by simp; omega
      have fin : AllP (MemV k no l h f b) (MemV k no2 l2 h2 f2 b2) w (.returned (.bool true)) wr := ⟨true, rfl, fun _ => rfl, hbE.trans (hbr.mono hbE.size)⟩
      clear hbE hbr dB1
      go_wp2_with fail
      go_ret
      exact fin
end Go.Proofs.YtdbbfcnblgokpaaGreatDoor
