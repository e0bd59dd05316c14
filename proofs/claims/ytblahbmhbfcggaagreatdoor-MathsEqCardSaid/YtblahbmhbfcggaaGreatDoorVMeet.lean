/- Package val: meet: just what both have. -/
import Derived.Test.YtblahbmhbfcggaaGreatDoorVMeetM
import Derived.Test.YtblahbmhbfcggaaGreatDoorVQuiet
import Derived.Test.YtblahbmhbfcggaaGreatDoorVConcat
import Derived.BigRegion
import Derived.Deep.AppendLies
import Derived.Deep.DeepMust
import Derived.Deep.CutRange
namespace Go.Proofs.YtblahbmhbfcggaaGreatDoor
open Go.ChangeShapes Go.WideShapes Go.ChangeAt Go.RowKit Go.Joins Go.Deep
set_option linter.unusedVariables false

theorem meetS_none (s : Nat × Nat) : meetS [s] [] = [] := by simp [meetS]
/-- the spans of both, as the outer loop gathers them -/
def RelMo (A C : Spans) (w1 : World) (v vi : Value) (wr : World) : Prop :=
  ∃ i : Nat, i ≤ A.length ∧ vi = .int .i64 i ∧ wr.ownsRow w1.heap.size 166 2 v (meetS (A.take i) C).length (spansC (meetS (A.take i) C)) ∧ (meetS (A.take i) C = [] → v = .slice none 0 0) ∧ Below w1.heap.size w1 wr
/-- and the inner one -/
def RelMi (A C : Spans) (i x y Bs : Nat) (w1 : World) (v vj : Value) (wr : World) : Prop :=
  ∃ j : Nat, j ≤ C.length ∧ vj = .int .i64 j ∧ wr.ownsRow w1.heap.size 166 2 v (meetS (A.take i) C ++ meetS [(x, y)] (C.take j)).length (spansC (meetS (A.take i) C ++ meetS [(x, y)] (C.take j))) ∧ (meetS (A.take i) C ++ meetS [(x, y)] (C.take j) = [] → v = .slice none 0 0) ∧ v.ownBlock ≠ some Bs ∧ At wr Bs #[.int .i64 x, .int .i64 y] 166 ∧ Below w1.heap.size w1 wr
set_option maxRecDepth 100000 in
set_option maxHeartbeats 6400000 in
theorem meet_any (bla blb k fa ba fb bb : Nat) (La Lb : Spans) (sla slb : Value) (ca cb : Int) (ga : GoodL k fa ba La ca) (gb : GoodL k fb bb Lb cb) (h9a : La.length ≤ 9) (h9b : Lb.length ≤ 9) (w : World)
    (hA : At w bla (layC k fa ba sla ca) 158) (hB : At w blb (layC k fb bb slb cb) 158) (hsa : SrcV w sla La) (hsb : SrcV w slb Lb) :
    Calls Tryz.prog 131 #[.pointer (some ⟨bla, 0, none⟩), .pointer (some ⟨blb, 0, none⟩)] w (MeetPost k fa ba La fb bb Lb w) := by
  have ha := ga.pat
  have hb := gb.pat
  have a0 : w.cell? ⟨bla, 0, none⟩ = some (.int .i64 k) := hA.cell 0 rfl
  have a1 : w.cell? ⟨bla, 1, none⟩ = some (.int .i64 fa) := hA.cell 1 rfl
  have a2 : w.cell? ⟨bla, 2, none⟩ = some (.int .i64 ba) := hA.cell 2 rfl
  have b1 : w.cell? ⟨blb, 1, none⟩ = some (.int .i64 fb) := hB.cell 1 rfl
  have b2 : w.cell? ⟨blb, 2, none⟩ = some (.int .i64 bb) := hB.cell 2 rfl
  have hp := ha.hk.pow
  have hk3 := ha.hk.le
  have la1 := ha.hf
  have la2 := ha.hb
  have lb1 := hb.hf
  have lb2 := hb.hb
  have e1 := bits_and (x := fa) (y := fb) (by omega) (by omega)
  have e2 := bits_or (x := ba) (y := bb) (by omega) (by omega)
  obtain ⟨F, hF⟩ : ∃ F, F = fa &&& fb := ⟨_, rfl⟩
  obtain ⟨B, hB2⟩ : ∃ B, B = ba ||| bb := ⟨_, rfl⟩
  have okM := meet_pat ha hb
  have hfit : ∀ z, (∀ i, fa.testBit i = false → fb.testBit i = false → ba.testBit i = bb.testBit i) → (Fits F B z ↔ Fits fa ba z ∧ Fits fb bb z) := fun z h => by rw [hF, hB2]; exact meet_fits ha.hbf hb.hbf h
  rw [← hF] at e1 okM
  rw [← hB2] at e2 okM
  clear hF hB2
  obtain ⟨FA, hFA⟩ : ∃ F, F = fixedN k fa := ⟨_, rfl⟩
  obtain ⟨FB, hFB⟩ : ∃ F, F = fixedN k fb := ⟨_, rfl⟩
  have lFA := fixedN_lt k fa
  have lFB := fixedN_lt k fb
  rw [← hFA] at lFA
  rw [← hFB] at lFB
  have lx1 : ba ^^^ bb < 2 ^ k := Nat.xor_lt_two_pow la2 lb2
  have e3 := bits_xor (x := ba) (y := bb) (by omega) (by omega)
  have cA := fun w => fixed_any k fa ba hk3 w
  have cB := fun w => fixed_any k fb bb hk3 w
  replace cA : ∀ w, Calls Tryz.prog 161 #[patV k fa ba] w (fun e w' => e = .returned (.int .i64 (fixedN k fa : Nat)) ∧ Below w.heap.size w w') := cA
  replace cB : ∀ w, Calls Tryz.prog 161 #[patV k fb bb] w (fun e w' => e = .returned (.int .i64 (fixedN k fb : Nat)) ∧ Below w.heap.size w w') := cB
  have hoff := offM_zero ha hb
  have hnone : offM k fa ba fb bb ≠ 0 → ∀ z, ¬ (MemL k fa ba La z ∧ MemL k fb bb Lb z) := fun hx z h => meet_none ha hb hx ⟨h.1.2.1, h.2.2.1⟩
  unfold offM at hoff hnone
  rw [← hFA] at cA hoff hnone
  rw [← hFB] at cB hoff hnone
  obtain ⟨x1, hx1⟩ : ∃ x, x = ba ^^^ bb := ⟨_, rfl⟩
  rw [← hx1] at lx1 e3 hoff hnone
  have e4 := bits_and (x := x1) (y := FA) (by omega) (by omega)
  have lx2 : x1 &&& FA < 2 ^ k := lt_of_and lx1
  obtain ⟨x2, hx2⟩ : ∃ x, x = x1 &&& FA := ⟨_, rfl⟩
  rw [← hx2] at e4 lx2 hoff hnone
  have e5 := bits_and (x := x2) (y := FB) (by omega) (by omega)
  obtain ⟨x3, hx3⟩ : ∃ x, x = x2 &&& FB := ⟨_, rfl⟩
  rw [← hx3] at e5 hoff hnone
  have HO := Lib.hid hoff
  have HNO := Lib.hid hnone
  have HFI := Lib.hid hfit
  have HSA := Lib.hid hsa
  have HSB := Lib.hid hsb
  have HGA := Lib.hid ga
  have HGB := Lib.hid gb
  have m1 : fa < 4294967296 := by omega
  have m2 : ba < 4294967296 := by omega
  have m3 : fb < 4294967296 := by omega
  have m4 : bb < 4294967296 := by omega
  have m5 : FA < 4294967296 := by omega
  have m6 : FB < 4294967296 := by omega
  have m7 : x1 < 4294967296 := by omega
  have m8 : x2 < 4294967296 := by omega
  have OM := Lib.hid okM
  clear hx1 hx2 hx3 hFA hFB hoff hnone hfit hsa hsb hp la1 la2 lb1 lb2 lFA lFB lx1 lx2 ha hb ga gb okM
  go_enter Tryz.func131, Tryz.ntmps131
  go_upto_region 1 with (fail)
  go_cut [5] from 13 to 40 (fun v5 wx => ∃ N, v5 = .pointer (some ⟨N, 0, none⟩) ∧ At wx N #[.int .i64 k, .int .i64 F, .int .i64 B] 152 ∧ Below w.heap.size w wx)
  case first =>
    have z0 := cell_alloc a0 (.cells #[.int .i64 0, .int .i64 0, .int .i64 0] 152)
    have z1 := cell_alloc a1 (.cells #[.int .i64 0, .int .i64 0, .int .i64 0] 152)
    have z2 := cell_alloc a2 (.cells #[.int .i64 0, .int .i64 0, .int .i64 0] 152)
    have z3 := cell_alloc b1 (.cells #[.int .i64 0, .int .i64 0, .int .i64 0] 152)
    have z4 := cell_alloc b2 (.cells #[.int .i64 0, .int .i64 0, .int .i64 0] 152)
    clear cA cB e3 e4 e5
    go_region
    go_wp2_with fail
    go_meet
    exact ⟨_, rfl, (At.new w #[.int .i64 k, .int .i64 F, .int .i64 B] 152).drew, ((Below.refl _ _).alloc (Nat.le_refl _) _).drew⟩
  case rest =>
    obtain ⟨N, rfl, dP, hbw⟩ := hcut
    clear e1 e2 a0 a1 a2 b1 b2
    have hA1 := At.below' hbw hA
    have hB1 := At.below' hbw hB
    go_upto_region 2 with (fail)
    go_cut [64] from 41 to 64 (fun v64 wx => v64 = .bool ((x3 : Int) != 0) ∧ Below wc.heap.size wc wx)
    case first =>
      have hS6 : wc.cell? ⟨bla, 0, none⟩ = some (.int .i64 k) ∧ wc.cell? ⟨bla, 1, none⟩ = some (.int .i64 fa) ∧ wc.cell? ⟨bla, 2, none⟩ = some (.int .i64 ba) ∧ wc.cell? ⟨blb, 0, none⟩ = some (.int .i64 k) ∧ wc.cell? ⟨blb, 1, none⟩ = some (.int .i64 fb) ∧ wc.cell? ⟨blb, 2, none⟩ = some (.int .i64 bb) := ⟨hA1.cell 0 rfl, hA1.cell 1 rfl, hA1.cell 2 rfl, hB1.cell 0 rfl, hB1.cell 1 rfl, hB1.cell 2 rfl⟩
      have q0 := fun p : BelowBy wc => p.cell hS6.1
      have q1 := fun p : BelowBy wc => p.cell hS6.2.1
      have q2 := fun p : BelowBy wc => p.cell hS6.2.2.1
      have q3 := fun p : BelowBy wc => p.cell hS6.2.2.2.1
      have q4 := fun p : BelowBy wc => p.cell hS6.2.2.2.2.1
      have q5 := fun p : BelowBy wc => p.cell hS6.2.2.2.2.2
      clear hS6 hA hB hA1 hB1 dP hbw HO HNO HFI HSA HSB HGA HGB h9a h9b OM
      refine wp_region_quiet_below (by kernel_rfl) (by kernel_rfl) ?_
      repeat (go_big_quiet_step ((go_at_call 161; (first | (with_reducible exact Calls.below_of (cA _)) | (with_reducible exact Calls.below_of (cB _))))))
      refine wpQuiet_nil ?_
      intro w2 hw'
      obtain ⟨⟨w2', hb2⟩, hw''⟩ := hw'
      subst hw''
      go_wp2_with fail
      go_meet
      exact ⟨rfl, hb2⟩
    case rest =>
      obtain ⟨rfl, hb2⟩ := hcut
      generalize wc = w2 at *
      have dP2 := At.below' hb2 dP
      have hb3 := hbw.trans (hb2.mono hbw.size)
      clear cA cB e3 e4 e5 hA1 hB1 hbw hb2 dP m1 m2 m3 m4 m5 m6 m7 m8
      by_cases h0 : x3 = 0
      · subst h0
        obtain ⟨pa, capa, rfl, hsa⟩ := HSA.out.below hb3
        obtain ⟨pb, capb, rfl, hsb⟩ := HSB.out.below hb3
        have a3 : w2.cell? ⟨bla, 3, none⟩ = some (.slice pa La.length capa) := (At.below' hb3 hA).cell 3 rfl
        have hB2 := At.below' hb3 hB
        have eAB := Lib.hid (HO.out.1 rfl)
        obtain ⟨n, hn⟩ : ∃ n, n = La.length := ⟨_, rfl⟩
        obtain ⟨m, hm⟩ : ∃ m, m = Lb.length := ⟨_, rfl⟩
        rw [← hn] at a3 hsa h9a
        rw [← hm] at hsb h9b hB2
        have HN1 := Lib.hid hn
        have HM1 := Lib.hid hm
        clear hn hm hA hB
        go_wp2_with fail
        go_loopw [6, 72] (fun v vi wr => RelMo La Lb w2 v vi wr) (fun _ vi _ => n - (intOf vi).toNat)
        case atStart => exact ⟨0, by omega, rfl, by simpa [meetS, spansC] using World.ownsRow_nil _ _ _ _, fun _ => rfl, Below.refl _ _⟩
        case round =>
          obtain ⟨i, hi, rfl, hown, hnil, hbr⟩ := hrel
          clear a3
          by_cases hlt : i < n
          · have hlt1 : (i : Int) < (n : Int) := by omega
            have hiA : i < La.length := by have := HN1.out; omega
            obtain ⟨ga0, rfl, hHa⟩ := hsa.resolve_left (by omega)
            obtain ⟨s0, s1, hgl⟩ := hHa.at hbr hiA
            obtain ⟨x, y, hxy⟩ : ∃ x y, La[i] = (x, y) := ⟨_, _, rfl⟩
            rw [hxy] at s0 s1
            simp only at s0 s1
            have HXY := Lib.hid hxy
            have b3 : wr.cell? ⟨blb, 3, none⟩ = some (.slice pb m capb) := (At.below' hbr hB2).cell 3 rfl
            have b3' := cell_alloc b3 (.cells #[.int .i64 x, .int .i64 y] 166)
            have hbs := hbr.size
            have dS := At.new wr #[.int .i64 x, .int .i64 y] 166
            have hownS := hown.alloc (.cells #[.int .i64 x, .int .i64 y] 166)
            have hbS := hbr.alloc hbs (.cells #[.int .i64 x, .int .i64 y] 166)
            have hneS : u6.ownBlock ≠ some wr.heap.size := own_lt hown (Nat.le_refl _)
            clear hxy hsa hHa hown b3 hbr
            go_wp2_with fail
            obtain ⟨Bs, hBs⟩ : ∃ Bs, Bs = wr.heap.size := ⟨_, rfl⟩
            rw [← hBs] at dS hneS ⊢
            clear s0 s1 hgl hbs b3' hBs
            generalize wr.alloc (.cells #[.int .i64 x, .int .i64 y] 166) = wi at *
            go_loopw [6, 81] (fun v vj wr => RelMi La Lb i x y Bs w2 v vj wr) (fun _ vj _ => m - (intOf vj).toNat)
            case atStart => exact ⟨0, by omega, rfl, by simpa [meetS_none] using hownS, by simpa [meetS_none] using hnil, hneS, dS, hbS⟩
            case round =>
              clear hownS hneS dS hbS hnil
              obtain ⟨j, hj, rfl, hown, hnil, hne, dS, hbr⟩ := hrel
              by_cases hlt : j < m
              · have hlt1 : (j : Int) < (m : Int) := by omega
                have hjB : j < Lb.length := by have := HM1.out; omega
                obtain ⟨gb0, rfl, hHb⟩ := hsb.resolve_left (by omega)
                obtain ⟨t0, t1, hgl⟩ := hHb.at hbr hjB
                obtain ⟨p, q, hpq⟩ : ∃ p q, Lb[j] = (p, q) := ⟨_, _, rfl⟩
                rw [hpq] at t0 t1
                simp only at t0 t1
                have HPQ := Lib.hid hpq
                have hbs := hbr.size
                have dT := At.new wr #[.int .i64 p, .int .i64 q] 166
                have dS2 := dS.alloc (.cells #[.int .i64 p, .int .i64 q] 166)
                have hownT := hown.alloc (.cells #[.int .i64 p, .int .i64 q] 166)
                have hbT := hbr.alloc hbs (.cells #[.int .i64 p, .int .i64 q] 166)
                have c0 : (wr.alloc (.cells #[.int .i64 p, .int .i64 q] 166)).cell? ⟨Bs, 0, none⟩ = some (.int .i64 x) := dS2.cell 0 rfl
                have c1 : (wr.alloc (.cells #[.int .i64 p, .int .i64 q] 166)).cell? ⟨Bs, 1, none⟩ = some (.int .i64 y) := dS2.cell 1 rfl
                have hbox : Bs < wr.heap.size := At.lt dS
                clear hpq hsb hHb hown hbr dS
                go_wp2_with fail
                obtain ⟨Bt, hBt⟩ : ∃ Bt, Bt = wr.heap.size := ⟨_, rfl⟩
                rw [← hBt] at dT ⊢
                have c2 : (wr.alloc (.cells #[.int .i64 p, .int .i64 q] 166)).cell? ⟨Bt, 0, none⟩ = some (.int .i64 p) := dT.cell 0 rfl
                have c3 : (wr.alloc (.cells #[.int .i64 p, .int .i64 q] 166)).cell? ⟨Bt, 1, none⟩ = some (.int .i64 q) := dT.cell 1 rfl
                have hbox2 : Bs < (wr.alloc (.cells #[.int .i64 p, .int .i64 q] 166)).heap.size := by simp; omega
                clear t0 t1 hgl hbs hbox hBt dT
                generalize wr.alloc (.cells #[.int .i64 p, .int .i64 q] 166) = wt at *
                obtain ⟨lo, elo⟩ : ∃ lo, lo = max x p := ⟨_, rfl⟩
                obtain ⟨hi2, ehi⟩ : ∃ hi2, hi2 = min y q := ⟨_, rfl⟩
                have em : max (x : Int) (p : Int) = (lo : Int) := by omega
                have en : min (y : Int) (q : Int) = (hi2 : Int) := by omega
                have EL := Lib.hid elo
                have EH := Lib.hid ehi
                clear elo ehi
                by_cases hle : lo ≤ hi2
                · have hd : (lo : Int) ≤ (hi2 : Int) := by omega
                  go_region
                  have hownR := hownT.drew
                  have dSR := dS2.drew
                  have hbR := hbT.drew
                  have hboxR : Bs < wt.drew.heap.size := hbox2
                  clear c0 c1 c2 c3 em en hownT dS2 hbT hbox2
                  generalize wt.drew = wq at *
                  have hownA := hownR.alloc (.cells #[.int .i64 lo, .int .i64 hi2] 166)
                  have hbA := hbR.alloc hbR.size (.cells #[.int .i64 lo, .int .i64 hi2] 166)
                  have dSA := dSR.alloc (.cells #[.int .i64 lo, .int .i64 hi2] 166)
                  obtain ⟨i0, hi0, hz0, hz1, hz2⟩ := info_parts Tryz.infoSpan
                  have hlenL : (meetS (La.take i) Lb ++ meetS [(x, y)] (Lb.take j)).length ≤ 90 := by
                    have h1 := meetS_len (La.take i) Lb
                    have h2 := meetS_len1 (x, y) (Lb.take j)
                    have h3 := HM1.out
                    have h4 : (La.take i).length * Lb.length ≤ 9 * 9 := Nat.mul_le_mul (by rw [List.length_take]; omega) (by omega)
                    rw [List.length_take] at h2
                    rw [List.length_append]
                    omega
                  have eL : meetS (La.take i) Lb ++ meetS [(x, y)] (Lb.take j) ++ [(lo, hi2)] = meetS (La.take i) Lb ++ meetS [(x, y)] (Lb.take (j + 1)) := by
                    rw [List.take_succ_eq_append_getElem hjB, HPQ.out, meetS_snocC]
                    simp only
                    rw [← EL.out, ← EH.out, if_pos hle, List.append_assoc]
                  have HEL := Lib.hid eL
                  obtain ⟨M, hM⟩ : ∃ M, M = meetS (La.take i) Lb ++ meetS [(x, y)] (Lb.take j) := ⟨_, rfl⟩
                  rw [← hM] at hownA hnil hlenL
                  have HM := Lib.hid hM
                  clear hM eL hownR hbR dSR
                  go_wp2_with ((at_builtin; go_must (refine wpList_append_lies _ rfl _ _ 153 rfl w2.heap.size 166 i0 _ 2 16 Tryz.underlying153 hi0 hz0 hz1 hz2 rfl (by decide) _ M.length (spansC M) rfl hownA ⟨wq.heap.size, 0, none⟩ 1 1 [.int .i64 lo, .int .i64 hi2] rfl rfl (World.news_of_block (cs := #[.int .i64 lo, .int .i64 hi2]) (t := 166) (fr := (0, 0)) (heap_alloc_new wq _)) (by simp [Value.oneCell']) (by decide) (by unfold maxLen; omega) (by omega) hbA.size _ rfl ?_)))
                  intro g cap w4 hown3 hgrow hat hlt3
                  have hbF := hbA.grown hgrow hbA.size (fun i hi => own_ge hownA hi)
                  have dSF := At.grown dSA hgrow hne
                  have hneF : (Value.slice (some ⟨g, 0, none⟩) (M.length + 1) cap).ownBlock ≠ some Bs := by
                    intro h
                    simp [Value.ownBlock] at h
                    rcases hat with h' | h'
                    · exact hne (by rw [h', h])
                    · rw [h] at h'; first | omega | (simp at h'; omega)
                  have hownF : w4.ownsRow w2.heap.size 166 2 (.slice (some ⟨g, 0, none⟩) (M.length + 1) cap) (meetS (La.take i) Lb ++ meetS [(x, y)] (Lb.take (j + 1))).length (spansC (meetS (La.take i) Lb ++ meetS [(x, y)] (Lb.take (j + 1)))) := by
                    rw [← HEL.out, ← HM.out, spansC_snoc]
                    simpa using hown3
                  have hneL : meetS (La.take i) Lb ++ meetS [(x, y)] (Lb.take (j + 1)) ≠ [] := by
                    rw [← HEL.out]; simp
                  clear hown3 hgrow hat hlt3 hownA dSA hbA hi0 hz0 hz1 hz2 hnil hne hlenL
                  go_wp2_with fail
                  go_roundw
                  case rel => exact ⟨j + 1, by omega, by go_num, hownF, fun h => absurd h hneL, hneF, dSF, hbF⟩
                  case measure => simp [intOf]; omega
                · have hd : decide ((lo : Int) ≤ (hi2 : Int)) = false := by simp; omega
                  go_region
                  have eL : meetS (La.take i) Lb ++ meetS [(x, y)] (Lb.take j) = meetS (La.take i) Lb ++ meetS [(x, y)] (Lb.take (j + 1)) := by
                    rw [List.take_succ_eq_append_getElem hjB, HPQ.out, meetS_snocC]
                    simp only
                    rw [← EL.out, ← EH.out, if_neg hle, List.append_nil]
                  have hownR := hownT.drew
                  have dSR := dS2.drew
                  have hbR := hbT.drew
                  rw [eL] at hownR hnil
                  clear c0 c1 c2 c3 em en hownT dS2 hbT hbox2 eL
                  go_wp2_with fail
                  go_roundw
                  case rel => exact ⟨j + 1, by omega, by go_num, hownR, hnil, hne, dSR, hbR⟩
                  case measure => simp [intOf]; omega
              · have hjm : j = m := by have := HM1.out; omega
                have hlt1 : decide ((j : Int) < (m : Int)) = false := by simp; omega
                have eL : meetS (La.take i) Lb ++ meetS [(x, y)] (Lb.take j) = meetS (La.take (i + 1)) Lb := by
                  rw [hjm, HM1.out, List.take_length, List.take_succ_eq_append_getElem hiA, HXY.out, meetS_snocA]
                rw [eL] at hown hnil
                clear hsb eL
                go_wp2_with fail
                go_roundw
                case rel => exact ⟨i + 1, by omega, by go_num, hown, hnil, hbr⟩
                case measure => simp [intOf]; omega
          · have hlt1 : decide ((i : Int) < (n : Int)) = false := by simp; omega
            have hin : i = n := by have := HN1.out; omega
            have eL : La.take i = La := by rw [hin, HN1.out, List.take_length]
            rw [eL] at hown hnil
            have hlen : (meetS La Lb).length ≤ 81 := by
              have h1 := meetS_len La Lb
              have h2 := HN1.out
              have h3 := HM1.out
              exact Nat.le_trans h1 (Nat.mul_le_mul (by omega : La.length ≤ 9) (by omega : Lb.length ≤ 9))
            have hsv : SrcV wr u6 (meetS La Lb) := by
              rcases Nat.eq_zero_or_pos (meetS La Lb).length with h | h
              · have h' := List.eq_nil_of_length_eq_zero h
                exact ⟨none, 0, by rw [h']; exact hnil h', Or.inl h⟩
              · obtain ⟨g2, cap2, e2, hH2, _⟩ := own_spans hown h
                exact ⟨_, cap2, e2, Or.inr ⟨g2, rfl, hH2⟩⟩
            have hbE := hb3.trans (hbr.mono hb3.size)
            have dP3 := At.below' hbr dP2
            have p0 : wr.cell? ⟨N, 0, none⟩ = some (.int .i64 k) := dP3.cell 0 rfl
            have p1 : wr.cell? ⟨N, 1, none⟩ = some (.int .i64 F) := dP3.cell 1 rfl
            have p2 : wr.cell? ⟨N, 2, none⟩ = some (.int .i64 B) := dP3.cell 2 rfl
            have hS := meetS_lt (k := k) (fun t ht => ⟨(HGA.out.ends t ht).1, (HGA.out.ends t ht).2.1⟩) (fun t ht => ⟨(HGB.out.ends t ht).1, (HGB.out.ends t ht).2.1⟩)
            have cL := fun w h => lay_any k F B (meetS La Lb) u6 OM.out hS (by omega) w h
            clear hsa hsb hown hnil hbr dP2 hB2 dP3 eL hS
            go_wp2_with fail
            refine (cL _ hsv).mono ?_
            rintro e w3 ⟨L, bl, hlaid, rfl, hlay, hbl, hb4⟩
            have hlo : LayAt w3 w.heap.size bl k (narF F L) (narB F B L) L (sumR F L) := hlay.lower hbE.size
            have hg := good_of_lay OM.out hlaid (meetS_rise HGA.out.rise HGB.out.rise)
            have hbF := hbE.trans (hb4.mono hbE.size)
            have hbl2 : w.heap.size ≤ bl := by have := hbE.size; omega
            have hfi := fun z => HFI.out z eAB.out
            have fin : MeetPost k fa ba La fb bb Lb w (.returned (.pointer (some ⟨bl, 0, none⟩))) w3 := by
              refine ⟨_, _, _, _, bl, rfl, hlo, hg.1, fun z => (hg.2 z).trans ?_, sub_of_laid hlaid meetS_sub (fun z hz => ((hfi z).1 hz).1), hbl2, hbF⟩
              rw [hfi z, meetS_in]
              unfold MemL
              exact ⟨fun ⟨h1, ⟨h2, h3⟩, h4, h5⟩ => ⟨⟨h1, h2, h4⟩, h1, h3, h5⟩, fun ⟨⟨h1, h2, h4⟩, _, h3, h5⟩ => ⟨h1, ⟨h2, h3⟩, h4, h5⟩⟩
            clear hlay hlaid hb4 cL hsv hfi hg hlo p0 p1 p2
            go_wp2_with fail
            go_ret
            exact fin
      · have t0 : ((x3 : Int) == 0) = false := by simp; omega
        have t1 : ((x3 : Int) != 0) = true := by simp; omega
        have t2 : (x3 == 0) = false := by simp; omega
        have t3 : (x3 != 0) = true := by simp; omega
        have p0 : w2.cell? ⟨N, 0, none⟩ = some (.int .i64 k) := dP2.cell 0 rfl
        have p1 : w2.cell? ⟨N, 1, none⟩ = some (.int .i64 F) := dP2.cell 1 rfl
        have p2 : w2.cell? ⟨N, 2, none⟩ = some (.int .i64 B) := dP2.cell 2 rfl
        go_wp2_with fail
        refine (lay_any k F B [] (.slice none 0 0) OM.out (by simp) (by simp) _ ⟨none, 0, rfl, Or.inl rfl⟩).mono ?_
        rintro e w3 ⟨L, bl, hlaid, rfl, hlay, hbl, hb4⟩
        obtain rfl : L = [] := by
          have := hlaid.short
          simpa using this
        have hno := HNO.out h0
        have hlo : LayAt w3 w.heap.size bl k (narF F []) (narB F B []) [] (sumR F []) := hlay.lower hb3.size
        have hg := good_of_lay OM.out hlaid List.Pairwise.nil
        have hbE := hb3.trans (hb4.mono hb3.size)
        have hbl2 : w.heap.size ≤ bl := by have := hb3.size; omega
        clear hlay hlaid hb4 t0 t1 t2 t3 p0 p1 p2
        have fin : MeetPost k fa ba La fb bb Lb w (.returned (.pointer (some ⟨bl, 0, none⟩))) w3 := by
          refine ⟨_, _, _, _, bl, rfl, hlo, hg.1, fun z => ?_, SubL.nil, hbl2, hbE⟩
          refine ⟨fun hz => ?_, fun hz => absurd hz (hno z)⟩
          obtain ⟨_, _, t, ht, _⟩ := hz
          cases ht
        go_wp2_with fail
        go_ret
        exact fin
theorem meet_holds : MeetHolds := fun bla blb k fa ba fb bb La Lb sla slb ca cb ga gb h9a h9b w hA hB hsa hsb => meet_any bla blb k fa ba fb bb La Lb sla slb ca cb ga gb h9a h9b w hA hB hsa hsb
end Go.Proofs.YtblahbmhbfcggaaGreatDoor
