/- Package val: merge: what lies in the spans of one or of the other. -/
import Derived.Test.YtblahbmhbfcggaaGreatDoorVConcat
import Derived.Test.YtblahbmhbfcggaaGreatDoorVTellM
import Derived.Deep.DeepMust
namespace Go.Proofs.YtblahbmhbfcggaaGreatDoor
open Go.ChangeShapes Go.WideShapes Go.ChangeAt Go.RowKit Go.Joins Go.Deep
set_option linter.unusedVariables false

def RelMg (S : Spans) (w3 : World) (v vi : Value) (wr : World) : Prop := ∃ (j : Nat) (M : Spans), j ≤ S.length ∧ vi = .int .i64 j ∧ Merged (S.take j) M ∧ wr.ownsRow w3.heap.size 166 2 v M.length (spansC M) ∧ (M = [] → v = .slice none 0 0) ∧ Below w3.heap.size w3 wr
set_option maxRecDepth 100000 in
set_option maxHeartbeats 3200000 in
theorem merge_any (A C : Spans) (svA svC : Value) (w : World) (h2 : A.length ≤ 2) (h3 : C.length ≤ 2) (h0 : 0 < A.length) (h1 : 0 < C.length) (eA : ∀ t ∈ A, t.1 ≤ t.2 ∧ t.2 < 4294967296) (eC : ∀ t ∈ C, t.1 ≤ t.2 ∧ t.2 < 4294967296) (hA : SrcV w svA A) (hC : SrcV w svC C) :
    Calls Tryz.prog 180 #[svA, svC] w (MergePost A C w) := by
  obtain ⟨pA, capA, rfl, hA⟩ := hA
  obtain ⟨pC, capC, rfl, hC⟩ := hC
  obtain ⟨ga, rfl, hHA⟩ := hA.resolve_left (by omega)
  obtain ⟨gc, rfl, hHC⟩ := hC.resolve_left (by omega)
  have dX := At.new w #[.slice (some ⟨ga, 0, none⟩) A.length capA, .slice (some ⟨gc, 0, none⟩) C.length capC] 153
  have hb0 : Below w.heap.size w (w.alloc (.cells #[.slice (some ⟨ga, 0, none⟩) A.length capA, .slice (some ⟨gc, 0, none⟩) C.length capC] 153)) := (Below.refl _ _).alloc (Nat.le_refl _) _
  have cC := concat_any A C w.heap.size 2 ga gc capA capC _ (hHA.below hb0) (hHC.below hb0) h0 h1 (by omega) (by omega) (dX.cell 0 rfl) (dX.cell 1 rfl)
  have EA := Lib.hid eA
  have EC := Lib.hid eC
  clear eA eC hA hC hHA hHC dX
  go_enter Tryz.func180, Tryz.ntmps180
  go_wp2_with fail
  refine cC.mono ?_
  rintro e w1 ⟨g, cap, rfl, hH, hf, hge, hlt, hb1⟩
  have hbE := hb0.trans (hb1.mono hb0.size)
  have hge2 : w.heap.size ≤ g := by have := hb0.size; omega
  have cS := sort_spans g cap (A ++ C) w1 hH hf hlt (by simp; omega)
  rw [List.length_append] at cS
  clear cC hb0 hb1 hH hf hge
  go_wp2_with fail
  refine cS.mono ?_
  rintro e w3 ⟨S, hperm, hrise, rfl, hHS, hK⟩
  have hbS := hbE.trans (hK.below hge2 hbE.size)
  have hlen : A.length + C.length = S.length := by rw [hperm.length_eq, List.length_append]
  rw [hlen]
  have HP := Lib.hid hperm
  have HR := Lib.hid hrise
  have hn4 : S.length ≤ 4 := by omega
  obtain ⟨n, hn⟩ : ∃ n, n = S.length := ⟨_, rfl⟩
  rw [← hn] at hn4 ⊢
  have HN := Lib.hid hn
  clear hlen hperm hrise hK hbE cS hn
  go_wp2_with fail
  go_loopw [6, 18] (fun v vi wr => RelMg S w3 v vi wr) (fun _ vi _ => n - (intOf vi).toNat)
  case atStart => exact ⟨0, [], by omega, rfl, by simpa using Merged.nil, World.ownsRow_nil _ _ _ _, fun _ => rfl, Below.refl _ _⟩
  case round =>
    obtain ⟨j, M, hj, rfl, hM, hown, hnil, hbr⟩ := hrel
    by_cases hlt2 : j < n
    · have hjS : j < S.length := by have := HN.out; omega
      obtain ⟨s0, s1, hgl⟩ := hHS.at hbr hjS
      obtain ⟨x, y, hxy⟩ : ∃ x y, S[j] = (x, y) := ⟨_, _, rfl⟩
      rw [hxy] at s0 s1
      simp only at s0 s1
      have HXY := Lib.hid hxy
      have hlt1 : (j : Int) < (n : Int) := by omega
      have hbs := hbr.size
      have eS : S[j].1 ≤ S[j].2 := by
        rcases List.mem_append.1 (HP.out.mem_iff.1 (List.getElem_mem hjS)) with h | h
        · exact (EA.out _ h).1
        · exact (EC.out _ h).1
      rw [hxy] at eS
      simp only at eS
      have hxy1 : x ≤ y := eS
      clear eS hxy
      have hcat := List.eq_nil_or_concat M
      simp only [List.concat_eq_append] at hcat
      rcases hcat with rfl | ⟨I, ⟨a, b⟩, rfl⟩
      · obtain rfl := hnil rfl
        have dB := At.new wr #[.int .i64 x, .int .i64 y] 166
        have hbB := hbr.alloc hbs (.cells #[.int .i64 x, .int .i64 y] 166)
        have eR : Merged (S.take (j + 1)) [(x, y)] := by
          rw [List.take_succ_eq_append_getElem hjS, HXY.out]
          exact hM.push hxy1 (by simp)
        have ER := Lib.hid eR
        clear eR hM hown hnil
        go_wp2_with fail
        go_quiet (fail)
        have dB2 := dB.drewN nq
        have hbQ : Below w3.heap.size w3 ((wr.alloc (.cells #[.int .i64 x, .int .i64 y] 166)).drewN nq) := hbB.trans ((Joins.below_draws _ _ _).mono hbB.size)
        clear dB hbB
        generalize (wr.alloc (.cells #[.int .i64 x, .int .i64 y] 166)).drewN nq = wq at *
        obtain ⟨Bx, hBx⟩ : ∃ Bx, Bx = wr.heap.size := ⟨_, rfl⟩
        rw [← hBx] at dB2 ⊢
        clear hBx
        have v0 : wq.cell? ⟨Bx, 0, none⟩ = some (.int .i64 x) := dB2.cell 0 rfl
        have v1 : wq.cell? ⟨Bx, 1, none⟩ = some (.int .i64 y) := dB2.cell 1 rfl
        have hqs := hbQ.size
        have hown0 : (wq.alloc (.cells #[.int .i64 x, .int .i64 y] 166)).ownsRow w3.heap.size 166 2 (.slice none 0 0) 0 [] := World.ownsRow_nil _ _ _ _
        have hbA := hbQ.alloc hqs (.cells #[.int .i64 x, .int .i64 y] 166)
        obtain ⟨i0, hi0, hz0, hz1, hz2⟩ := info_parts Tryz.infoSpan
        clear hbQ dB2
        go_wp2_with ((at_builtin; go_must (refine wpList_append_own _ rfl _ _ 153 rfl w3.heap.size 166 i0 _ 2 16 Tryz.underlying153 hi0 hz0 hz1 hz2 rfl (by decide) _ 0 [] rfl hown0 ⟨wq.heap.size, 0, none⟩ 1 1 [.int .i64 x, .int .i64 y] rfl rfl (World.news_of_block (cs := #[.int .i64 x, .int .i64 y]) (t := 166) (fr := (0, 0)) (heap_alloc_new wq _)) (by simp [Value.oneCell']) (by unfold maxLen; omega) (by omega) hbA.size ?_)))
        intro v3 w4 hown3 hgrow _
        have hbF := hbA.grown hgrow hbA.size (fun i hi => own_ge hown0 hi)
        clear hown0 hbA hgrow v0 v1 hi0 hz0 hz1 hz2
        go_wp2_with fail
        go_roundw
        case rel => exact ⟨j + 1, [(x, y)], by omega, by go_num, ER.out, by simpa [spansC] using hown3, (fun h => by cases h), hbF⟩
        case measure => simp [intOf]; omega
      · obtain ⟨g2, cap2, e2, hH2, hf2, hg2, hg2l⟩ := own_spans hown (by simp)
        subst e2
        obtain ⟨m, hm⟩ : ∃ m, m = I.length := ⟨_, rfl⟩
        have cl := (hH2 I.length (by simp)).2
        have ei : (I ++ [(a, b)])[I.length]'(by simp) = (a, b) := by simp
        rw [ei] at cl
        simp only at cl
        have hown5 : wr.ownsRow w3.heap.size 166 2 (.slice (some ⟨g2, 0, none⟩) (m + 1) cap2) (m + 1) (spansC (I ++ [(a, b)])) := by
          rw [hm]; simpa using hown
        have elen : (I ++ [(a, b)]).length = m + 1 := by rw [hm]; simp
        rw [← hm] at cl
        rw [elen]
        have hm4 : m + 1 ≤ 4 := by have h1 := hM.short; rw [elen, List.length_take] at h1; have := HN.out; omega
        have dB := At.new wr #[.int .i64 x, .int .i64 y] 166
        have hbB := hbr.alloc hbs (.cells #[.int .i64 x, .int .i64 y] 166)
        have clB := cell_alloc cl (.cells #[.int .i64 x, .int .i64 y] 166)
        have HMg := Lib.hid hM
        have HML := Lib.hid hm
        clear hM hown hnil hm elen hH2
        by_cases hbx : b < x
        · have t0 : decide ((b : Int) < (x : Int)) = true := by simp; omega
          have t1 : decide (b < x) = true := by simpa using hbx
          have tm : decide ((m : Int) < 0) = false := by simp
          have tm1 : (m : Int) < ((m + 1 : Nat) : Int) := by omega
          go_wp2_with fail
          go_quiet (fail)
          have dB2 := dB.drewN nq
          have hown6 : ((wr.alloc (.cells #[.int .i64 x, .int .i64 y] 166)).drewN nq).ownsRow w3.heap.size 166 2 (.slice (some ⟨g2, 0, none⟩) (m + 1) cap2) (m + 1) (spansC (I ++ [(a, b)])) := hown5.alloc _
          have hbQ : Below w3.heap.size w3 ((wr.alloc (.cells #[.int .i64 x, .int .i64 y] 166)).drewN nq) := hbB.trans ((Joins.below_draws _ _ _).mono hbB.size)
          clear dB hbB hown5 cl clB tm tm1 t0 t1
          generalize (wr.alloc (.cells #[.int .i64 x, .int .i64 y] 166)).drewN nq = wq at *
          obtain ⟨Bx, hBx⟩ : ∃ Bx, Bx = wr.heap.size := ⟨_, rfl⟩
          rw [← hBx] at dB2 ⊢
          clear hBx
          have v0 : wq.cell? ⟨Bx, 0, none⟩ = some (.int .i64 x) := dB2.cell 0 rfl
          have v1 : wq.cell? ⟨Bx, 1, none⟩ = some (.int .i64 y) := dB2.cell 1 rfl
          have hown0 := hown6.alloc (.cells #[.int .i64 x, .int .i64 y] 166)
          have hbA := hbQ.alloc hbQ.size (.cells #[.int .i64 x, .int .i64 y] 166)
          obtain ⟨i0, hi0, hz0, hz1, hz2⟩ := info_parts Tryz.infoSpan
          clear hbQ dB2 hown6
          go_wp2_with ((at_builtin; go_must (refine wpList_append_own _ rfl _ _ 153 rfl w3.heap.size 166 i0 _ 2 16 Tryz.underlying153 hi0 hz0 hz1 hz2 rfl (by decide) _ (m + 1) (spansC (I ++ [(a, b)])) rfl hown0 ⟨wq.heap.size, 0, none⟩ 1 1 [.int .i64 x, .int .i64 y] rfl rfl (World.news_of_block (cs := #[.int .i64 x, .int .i64 y]) (t := 166) (fr := (0, 0)) (heap_alloc_new wq _)) (by simp [Value.oneCell']) (by unfold maxLen; omega) (by omega) hbA.size ?_)))
          intro v3 w4 hown3 hgrow hne
          have hbF := hbA.grown hgrow hbA.size (fun i hi => own_ge hown0 hi)
          have eR : Merged (S.take (j + 1)) (I ++ [(a, b)] ++ [(x, y)]) := by
            rw [List.take_succ_eq_append_getElem hjS, HXY.out]
            exact HMg.out.push hxy1 (last_above HMg.out.rise HMg.out.le hbx)
          have hown4 : w4.ownsRow w3.heap.size 166 2 v3 (I ++ [(a, b)] ++ [(x, y)]).length (spansC (I ++ [(a, b)] ++ [(x, y)])) := by
            have e1 := HML.out
            rw [spansC_snoc]
            simpa [← e1] using hown3
          have ER := Lib.hid eR
          clear hown0 hbA hgrow v0 v1 hi0 hz0 hz1 hz2 eR hown3 hne
          go_wp2_with fail
          go_roundw
          case rel => exact ⟨j + 1, _, by omega, by go_num, ER.out, hown4, (fun h => by simp at h), hbF⟩
          case measure => simp [intOf]; omega
        · have t0 : decide ((b : Int) < (x : Int)) = false := by simp; omega
          have t1 : decide (b < x) = false := by simpa using hbx
          have tm : decide ((m : Int) < 0) = false := by simp
          have tm1 : (m : Int) < ((m + 1 : Nat) : Int) := by omega
          go_wp2_with fail
          go_quiet (fail)
          have dB2 := dB.drewN nq
          have v1 : ((wr.alloc (.cells #[.int .i64 x, .int .i64 y] 166)).drewN nq).cell? ⟨wr.heap.size, 1, none⟩ = some (.int .i64 y) := dB2.cell 1 rfl
          have cl2 : ((wr.alloc (.cells #[.int .i64 x, .int .i64 y] 166)).drewN nq).cell? ⟨g2, m * 2 + 1, none⟩ = some (.int .i64 b) := clB
          have hf3 : ((wr.alloc (.cells #[.int .i64 x, .int .i64 y] 166)).drewN nq).frozen? ⟨g2, m * 2 + 1, none⟩ = false := by
            exact (hown5.alloc (.cells #[.int .i64 x, .int .i64 y] 166)).frozenAt (m * 2 + 1)
          have hown6 : ((wr.alloc (.cells #[.int .i64 x, .int .i64 y] 166)).drewN nq).ownsRow w3.heap.size 166 2 (.slice (some ⟨g2, 0, none⟩) (m + 1) cap2) (m + 1) (spansC (I ++ [(a, b)])) := hown5.alloc _
          have hbQ : Below w3.heap.size w3 ((wr.alloc (.cells #[.int .i64 x, .int .i64 y] 166)).drewN nq) := hbB.trans ((Joins.below_draws _ _ _).mono hbB.size)
          generalize (wr.alloc (.cells #[.int .i64 x, .int .i64 y] 166)).drewN nq = wq at *
          clear dB2 clB cl dB hbB hown5
          go_wp2_with fail
          go_region
          obtain ⟨hown7, _⟩ := hown6.stored (m * 2 + 1) (.int .i64 (max b y : Nat))
          have hb7 := hbQ.setCell (p := ⟨g2, m * 2 + 1, none⟩) hg2 (.int .i64 (max b y : Nat))
          have emax : (max (b : Int) (y : Int)) = ((max b y : Nat) : Int) := by omega
          have eR : Merged (S.take (j + 1)) (I ++ [(a, max b y)]) := by
            rw [List.take_succ_eq_append_getElem hjS, HXY.out]
            refine HMg.out.widen hxy1 (low_le HMg.out (fun s hs => ?_)) (by omega)
            obtain ⟨i, hi, rfl⟩ := List.getElem_of_mem hs
            have hij : i < j := by simp at hi; omega
            have := List.pairwise_iff_getElem.1 HR.out i j (by omega) hjS hij
            rw [HXY.out] at this
            simpa using this
          have ec : (spansC (I ++ [(a, b)])).set (m * 2 + 1) (.int .i64 (max b y : Nat)) = spansC (I ++ [(a, max b y)]) := by
            rw [spansC_snoc, spansC_snoc, List.set_append_right _ _ (by rw [spansC_length, HML.out]; omega), spansC_length, HML.out]
            have e0 : I.length * 2 + 1 - 2 * I.length = 1 := by omega
            rw [e0]
            rfl
          rw [ec] at hown7
          have ER := Lib.hid eR
          have EM := Lib.hid emax
          have elen2 : (I ++ [(a, max b y)]).length = m + 1 := by rw [HML.out]; simp
          rw [← elen2] at hown7
          have own8 : ((wq.setCell ⟨g2, m * 2 + 1, none⟩ (.int .i64 (max (b : Int) (y : Int)))).drew).ownsRow w3.heap.size 166 2 (.slice (some ⟨g2, 0, none⟩) (m + 1) cap2) (I ++ [(a, max b y)]).length (spansC (I ++ [(a, max b y)])) := by
            rw [emax]
            rw [elen2] at hown7 ⊢
            exact hown7
          have hb8 : Below w3.heap.size w3 ((wq.setCell ⟨g2, m * 2 + 1, none⟩ (.int .i64 (max (b : Int) (y : Int)))).drew) := by
            rw [emax]
            exact hb7.drew
          clear ec eR emax hown6 hbQ v1 cl2 hf3 tm tm1 t0 t1 hown7 hb7 elen2
          go_wp2_with fail
          go_roundw
          case rel => exact ⟨j + 1, _, by omega, by go_num, ER.out, own8, (fun h => by simp at h), hb8⟩
          case measure => simp [intOf]; omega
    · have hjn : j = S.length := by have := HN.out; omega
      have hM2 : Merged S M := by rw [hjn, List.take_length] at hM; exact hM
      have hbF := hbS.trans (hbr.mono hbS.size)
      have hlt1 : decide ((j : Int) < (n : Int)) = false := by simp; omega
      have each : ∀ s ∈ S, s ∈ A ++ C := fun s hs => HP.out.mem_iff.1 hs
      have hsv : SrcV wr u6 M := by
        rcases Nat.eq_zero_or_pos M.length with h | h
        · obtain rfl : M = [] := List.eq_nil_of_length_eq_zero h
          exact ⟨none, 0, hnil rfl, Or.inl rfl⟩
        · obtain ⟨g2, cap2, e2, hH2, _⟩ := own_spans hown h
          exact ⟨_, cap2, e2, Or.inr ⟨g2, rfl, hH2⟩⟩
      have fin : MergePost A C w (.returned u6) wr := ⟨M, u6, rfl, hsv, hM2.rise, fun z => (hM2.inn z).trans ((inSpans_perm HP.out).trans inSpans_append), fun t ht => ⟨by obtain ⟨s, hs, e⟩ := hM2.low t ht; exact ⟨s, each s hs, e⟩, by obtain ⟨s, hs, e⟩ := hM2.high t ht; exact ⟨s, each s hs, e⟩⟩, by have := hM2.short; have := HN.out; omega, hbF⟩
      clear hM hM2 hown hnil hsv hbF hbr hbS
      go_wp2_with fail
      go_ret
      exact fin
theorem merge_holds : MergeHolds := merge_any
end Go.Proofs.YtblahbmhbfcggaaGreatDoor
