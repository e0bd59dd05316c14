/- ProgNested: its body. -/
import Derived.Test.YtofpfmdbmbfapaaGN1
import Derived.Deep.RegionHeld3
namespace Go.Proofs.Ytofpfmdbmbfapaa
open Go.ChangeShapes Go.WideShapes Go.ChangeAt Go.RowKit Go.Joins Go.Deep
set_option linter.unusedVariables false

theorem at_grown {w w' : World} {b : Nat} {cs : Array Value} {t : TypeId} {row : Option Nat} (h : At w b cs t) (hg : w.grownBy w' row) (hn : row ≠ some b) : At w' b cs t := (hg.block b h.lt (Ne.symm hn)).trans h
theorem rowT_other {w w' : World} {base : Nat} {r : List (SX × Value × Value)} {v : Value} (h : RowT base r v w) (hb : ∀ c, base ≤ c → w'.heap[c]? = w.heap[c]?) : RowT base r v w' :=
  ⟨fun t ht => ⟨rowZ_other (h.1 t ht).1 hb, rowZ_other (h.1 t ht).2 hb⟩, ownsRow_other h.2 hb⟩
set_option maxRecDepth 100000 in
set_option maxHeartbeats 12800000 in
theorem progNested_any (vP vN : Value) (xs : List PX) (ns : List Int) (w : World) (hP : IsPs w vP xs) (hN : IsIs w vN ns) : Calls Try.prog 5 #[.agg #[vP, vN]] w (WakesP w) := by
  have hb0 := below_box1 w (.cells #[vP, vN] 25)
  have hA := At.new w #[vP, vN] 25
  obtain ⟨w1, hw1⟩ : ∃ w1, w.alloc (.cells #[vP, vN] 25) = w1 := ⟨_, rfl⟩
  rw [hw1] at hb0 hA
  obtain ⟨qn, cn, rfl, hnl, _⟩ := id hN
  obtain ⟨qp, cp, rfl, hlp, hkp, hcp⟩ := id (hP.below hb0)
  have a1 : w1.cell? ⟨w.heap.size, 1, none⟩ = some (.slice qn ns.length cn) := hA.cell 1 rfl
  have HB0 := Lib.hid hb0
  have HA1 := Lib.hid a1
  have hl1 : w.heap.size < w1.heap.size := hA.lt
  have HL1 := Lib.hid hl1
  have cW := fun w => wakes12_any w
  unfold WakesP at cW
  have cN := fun n w => num12_any n w
  have CW := Lib.hid cW
  have CN := Lib.hid cN
  clear hb0 hA hP hcp hN a1 hl1 cW cN
  go_enter Try.func5, Try.ntmps5
  go_wp2_with fail
  go_loopw [3] (fun v wr => ∃ n : Nat, n ≤ 8 ∧ v = .int .i64 (n : Nat) ∧ Below w1.heap.size w1 wr) (fun v _ => 8 - (intOf v).toNat)
  case atStart => exact ⟨0, by omega, rfl, Below.refl _ _⟩
  case round =>
    obtain ⟨n, hn, rfl, hbr⟩ := hrel
    by_cases hlt : n < 8
    · have hj3 : (n : Int) ≤ 7 := by omega
      obtain ⟨wo, hwo⟩ : ∃ wo, wo = wr := ⟨_, rfl⟩
      subst hwo
      have HBR := Lib.hid hbr
      clear hbr
      have Bwa := below_box1 wo (.cells #[.int .i64 1, .int .i64 6, .int .i64 1, .int .i64 0, .int .i64 0] 45)
      have Awa := At.new wo #[.int .i64 1, .int .i64 6, .int .i64 1, .int .i64 0, .int .i64 0] 45
      obtain ⟨wa, hwa⟩ : ∃ wa, wo.alloc (.cells #[.int .i64 1, .int .i64 6, .int .i64 1, .int .i64 0, .int .i64 0] 45) = wa := ⟨_, rfl⟩
      rw [hwa] at Bwa Awa
      have Bwb := below_box1 wa (.cells #[.int .i64 0] 3)
      have Awb := At.new wa #[.int .i64 0] 3
      obtain ⟨wb, hwb⟩ : ∃ wb, wa.alloc (.cells #[.int .i64 0] 3) = wb := ⟨_, rfl⟩
      rw [hwb] at Bwb Awb
      have Bwc := below_box1 wb (.cells #[.bool false, .int .i64 2, .slice none 0 0, .slice none 0 0, .slice (some ⟨wo.heap.size, 0, none⟩) 1 1, .slice none 0 0, .slice (some ⟨wa.heap.size, 0, none⟩) 1 1] 33)
      have Awc := At.new wb #[.bool false, .int .i64 2, .slice none 0 0, .slice none 0 0, .slice (some ⟨wo.heap.size, 0, none⟩) 1 1, .slice none 0 0, .slice (some ⟨wa.heap.size, 0, none⟩) 1 1] 33
      obtain ⟨wc, hwc⟩ : ∃ wc, wb.alloc (.cells #[.bool false, .int .i64 2, .slice none 0 0, .slice none 0 0, .slice (some ⟨wo.heap.size, 0, none⟩) 1 1, .slice none 0 0, .slice (some ⟨wa.heap.size, 0, none⟩) 1 1] 33) = wc := ⟨_, rfl⟩
      rw [hwc] at Bwc Awc
      have la : wo.heap.size < wa.heap.size := Awa.lt
      have lb : wa.heap.size < wb.heap.size := Awb.lt
      have lc : wb.heap.size < wc.heap.size := Awc.lt
      have HB := Lib.hid (And.intro Bwa (And.intro Bwb Bwc))
      have HAA := Lib.hid (And.intro Awa (And.intro Awb Awc))
      have HL := Lib.hid (And.intro la (And.intro lb lc))
      clear Bwa Bwb Bwc Awa Awb Awc la lb lc
      go_upto_region 5 with (fail)
      go_wp2_with fail
      clear hwa hwb hwc
      go_loopw [5] (fun v wr => ∃ (i : Nat) (r : List (SX × Value × Value)) (z : Value), i ≤ n ∧ v = .int .i64 (i : Nat) ∧ r.map (·.1) = (List.range i).map nS ∧ RowT wc.heap.size r z wr ∧ At wr wb.heap.size #[.bool false, .int .i64 2, .slice none 0 0, .slice none 0 0, .slice (some ⟨wo.heap.size, 0, none⟩) 1 1, z, .slice (some ⟨wa.heap.size, 0, none⟩) 1 1] 33 ∧ At wr wo.heap.size #[.int .i64 1, .int .i64 6, .int .i64 1, .int .i64 0, .int .i64 0] 45 ∧ At wr wa.heap.size #[.int .i64 0] 3 ∧ Below wo.heap.size wo wr ∧ wc.heap.size ≤ wr.heap.size) (fun v _ => n - (intOf v).toNat)
      case atStart => 
        have h1 := HAA.out
        have h2 := HB.out
        exact ⟨0, [], _, Nat.zero_le _, rfl, rfl, RowT.nil _ _, h1.2.2, At.below' h2.2.2 (At.below' h2.2.1 h1.1), At.below' h2.2.2 h1.2.1, h2.1.trans ((h2.2.1.trans (h2.2.2.mono h2.2.1.size)).mono h2.1.size), Nat.le_refl _⟩
      case round =>
        obtain ⟨i, r, z, hi, rfl, hr, hR, hX, hEx, hMn, hbi, hsz⟩ := hrel
        have hrl : r.length = i := by simpa using congrArg List.length hr
        by_cases hli : i < n
        · have hj5 : (i : Int) < (n : Int) := by omega
          obtain ⟨q, c, rfl⟩ := hR.form
          rw [hrl] at hX
          have z5 : wr.cell? ⟨wb.heap.size, 5, none⟩ = some (.slice q i c) := hX.cell 5 rfl
          obtain ⟨o2, ho2⟩ : ∃ o2 : Int, 5 + (i : Int) % 2 = o2 := ⟨_, rfl⟩
          have Bwd := below_box1 wr (.cells #[.int .i64 ((i : Nat) + 1)] 3)
          have Awd := At.new wr #[.int .i64 ((i : Nat) + 1)] 3
          obtain ⟨wd, hwd⟩ : ∃ wd, wr.alloc (.cells #[.int .i64 ((i : Nat) + 1)] 3) = wd := ⟨_, rfl⟩
          rw [hwd] at Bwd Awd
          have Bwe := below_box1 wd (.cells #[.int .i64 o2, .int .i64 0, .int .i64 0, .int .i64 0, .int .i64 0, .slice (some ⟨wr.heap.size, 0, none⟩) 1 1, .slice none 0 0] 47)
          have Awe := At.new wd #[.int .i64 o2, .int .i64 0, .int .i64 0, .int .i64 0, .int .i64 0, .slice (some ⟨wr.heap.size, 0, none⟩) 1 1, .slice none 0 0] 47
          obtain ⟨we, hwe⟩ : ∃ we, wd.alloc (.cells #[.int .i64 o2, .int .i64 0, .int .i64 0, .int .i64 0, .int .i64 0, .slice (some ⟨wr.heap.size, 0, none⟩) 1 1, .slice none 0 0] 47) = we := ⟨_, rfl⟩
          rw [hwe] at Bwe Awe
          have ld : wr.heap.size < wd.heap.size := Awd.lt
          have le : wd.heap.size < we.heap.size := Awe.lt
          obtain ⟨i0, hi0, hz0, hz1, hz2⟩ := info_parts gStmt
          have Bie := Bwd.trans (Bwe.mono Bwd.size)
          have hRe := hR.bel Bie
          have hown0 := hRe.2
          rw [hrl] at hown0
          have hze := rowZ_one (base := wc.heap.size) (At.below' Bwe Awd) hsz
          have hm1 : i + 1 ≤ maxLen := by unfold maxLen; omega
          have hm2 : (i + 1) * 88 ≤ 140737488355328 := by omega
          have hbs : wc.heap.size ≤ we.heap.size := by omega
          have HX := Lib.hid (And.intro (At.below' Bie hX) (And.intro (At.below' Bie hEx) (And.intro (At.below' Bie hMn) (hbi.trans (Bie.mono hbi.size)))))
          have HR := Lib.hid (And.intro hRe hze)
          have HRR := Lib.hid hr
          have HRL := Lib.hid hrl
          have HAWE := Lib.hid Awe
          have HRN : RowT wc.heap.size (r ++ [(nS i, .slice (some ⟨wr.heap.size, 0, none⟩) 1 1, .slice none 0 0)]) (.slice none 0 0) we → True := fun _ => trivial
          clear Bwd Awd Bwe Bie hRe hze hR hr hrl hX hEx hMn hbi HRN Awe
          go_wp2_with ((at_builtin; refine wpList_append_lies _ rfl _ _ 31 rfl wc.heap.size 47 i0 _ 7 88 Try.underlying31 hi0 hz0 hz1 hz2 rfl (by decide) (.slice q i c) i (r.flatMap tsC) rfl hown0 ⟨wd.heap.size, 0, none⟩ 1 1 [.int .i64 o2, .int .i64 0, .int .i64 0, .int .i64 0, .int .i64 0, .slice (some ⟨wr.heap.size, 0, none⟩) 1 1, .slice none 0 0] rfl rfl (World.news_of_block (cs := #[.int .i64 o2, .int .i64 0, .int .i64 0, .int .i64 0, .int .i64 0, .slice (some ⟨wr.heap.size, 0, none⟩) 1 1, .slice none 0 0]) (t := 47) (fr := (0, 0)) HAWE.out) (by simp [Value.oneCell']) (by omega) hm1 hm2 hbs we.heap.size rfl ?_; intro g2 cap2 w3 hown3 hgrow hat hlt3; have hne : (Value.slice q i c).ownBlock ≠ some wb.heap.size := (fun hh => by have := own_geG hown0 hh; have := HL.out; omega); have hX3 := at_grown HX.out.1 hgrow hne; have y5 : w3.cell? ⟨wb.heap.size, 5, none⟩ = some (.slice q i c) := hX3.cell 5 rfl; have y6 := At.free hX3 5))
          subst ho2
          go_roundw
          case rel =>
            have hrow : RowT wc.heap.size (r ++ [(nS i, .slice (some ⟨wr.heap.size, 0, none⟩) 1 1, .slice none 0 0)]) (.slice (some ⟨g2, 0, none⟩) (i + 1) cap2) w3 :=
              RowT.grown HR.out.1 HR.out.2 (RowZ.nil _ _) (by rw [HRL.out]; exact hgrow) (by rw [HRL.out]; exact hown3)
            have hl := HL.out
            have ho : ∀ c : Nat, c ≠ wb.heap.size → (w3.setCell ⟨wb.heap.size, 5, none⟩ (.slice (some ⟨g2, 0, none⟩) (i + 1) cap2)).heap[c]? = w3.heap[c]? := fun c hc => heap_setCell_lt w3 wb.heap.size 5 c _ hc
            have hbw := HX.out.2.2.2.grown hgrow (by have := HX.out.2.2.2.size; omega) (fun j hj => by have := own_geG hown0 hj; omega)
            have hne2 : (Value.slice q i c).ownBlock ≠ some wo.heap.size := (fun hh => by have := own_geG hown0 hh; have := HL.out; omega)
            have hne3 : (Value.slice q i c).ownBlock ≠ some wa.heap.size := (fun hh => by have := own_geG hown0 hh; have := HL.out; omega)
            exact ⟨i + 1, _, _, by omega, by go_num, by rw [List.range_succ, List.map_append, List.map_append, HRR.out]; rfl, rowT_other hrow (fun c hc => ho c (by omega)), At.set hX3 5 _ (by simp), (ho _ (by omega)).trans (at_grown HX.out.2.1 hgrow hne2), (ho _ (by omega)).trans (at_grown HX.out.2.2.1 hgrow hne3), hbw.setCell (p := ⟨wb.heap.size, 5, none⟩) (by show wo.heap.size ≤ wb.heap.size; omega) _, by have := hgrow.size; simp; omega⟩
          case measure => simp [intOf]; omega
        · obtain rfl : i = n := by omega
          have hj5 : ¬ ((i : Int) < (i : Int)) := by omega
          obtain ⟨q, c, rfl⟩ := hR.form
          rw [hrl] at hX
          have z5 : wr.cell? ⟨wb.heap.size, 5, none⟩ = some (.slice q i c) := hX.cell 5 rfl
          have Bie := below_box1 wr (.cells #[.int .i64 7, .int .i64 0, .int .i64 0, .int .i64 0, .int .i64 0, .slice none 0 0, .slice none 0 0] 47)
          have Awe := At.new wr #[.int .i64 7, .int .i64 0, .int .i64 0, .int .i64 0, .int .i64 0, .slice none 0 0, .slice none 0 0] 47
          obtain ⟨we, hwe⟩ : ∃ we, wr.alloc (.cells #[.int .i64 7, .int .i64 0, .int .i64 0, .int .i64 0, .int .i64 0, .slice none 0 0, .slice none 0 0] 47) = we := ⟨_, rfl⟩
          rw [hwe] at Bie Awe
          have le : wr.heap.size < we.heap.size := Awe.lt
          obtain ⟨i0, hi0, hz0, hz1, hz2⟩ := info_parts gStmt
          have hRe := hR.bel Bie
          have hown0 := hRe.2
          rw [hrl] at hown0
          have hm1 : i + 1 ≤ maxLen := by unfold maxLen; omega
          have hm2 : (i + 1) * 88 ≤ 140737488355328 := by omega
          have hbs : wc.heap.size ≤ we.heap.size := by omega
          have HX := Lib.hid (And.intro (At.below' Bie hX) (And.intro (At.below' Bie hEx) (And.intro (At.below' Bie hMn) (hbi.trans (Bie.mono hbi.size)))))
          have HR := Lib.hid hRe
          have HRR := Lib.hid hr
          have HRL := Lib.hid hrl
          have HAWE := Lib.hid Awe
          clear Bie hRe hR hr hrl hX hEx hMn hbi Awe
          go_wp2_with ((at_builtin; refine wpList_append_lies _ rfl _ _ 31 rfl wc.heap.size 47 i0 _ 7 88 Try.underlying31 hi0 hz0 hz1 hz2 rfl (by decide) (.slice q i c) i (r.flatMap tsC) rfl hown0 ⟨wr.heap.size, 0, none⟩ 1 1 [.int .i64 7, .int .i64 0, .int .i64 0, .int .i64 0, .int .i64 0, .slice none 0 0, .slice none 0 0] rfl rfl (World.news_of_block (cs := #[.int .i64 7, .int .i64 0, .int .i64 0, .int .i64 0, .int .i64 0, .slice none 0 0, .slice none 0 0]) (t := 47) (fr := (0, 0)) HAWE.out) (by simp [Value.oneCell']) (by omega) hm1 hm2 hbs we.heap.size rfl ?_; intro g2 cap2 w3 hown3 hgrow hat hlt3; have hne : (Value.slice q i c).ownBlock ≠ some wb.heap.size := (fun hh => by have := own_geG hown0 hh; have := HL.out; omega); have hX3 := at_grown HX.out.1 hgrow hne; have y5 : w3.cell? ⟨wb.heap.size, 5, none⟩ = some (.slice q i c) := hX3.cell 5 rfl; have y6 := At.free hX3 5; have X4 : At (w3.setCell ⟨wb.heap.size, 5, none⟩ (.slice (some ⟨g2, 0, none⟩) (i + 1) cap2)) wb.heap.size #[.bool false, .int .i64 2, .slice none 0 0, .slice none 0 0, .slice (some ⟨wo.heap.size, 0, none⟩) 1 1, .slice (some ⟨g2, 0, none⟩) (i + 1) cap2, .slice (some ⟨wa.heap.size, 0, none⟩) 1 1] 33 := At.set hX3 5 _ (by simp); have r0 : (w3.setCell ⟨wb.heap.size, 5, none⟩ (.slice (some ⟨g2, 0, none⟩) (i + 1) cap2)).cell? ⟨wb.heap.size, 0, none⟩ = some (.bool false) := X4.cell 0 rfl; have r1 : (w3.setCell ⟨wb.heap.size, 5, none⟩ (.slice (some ⟨g2, 0, none⟩) (i + 1) cap2)).cell? ⟨wb.heap.size, 1, none⟩ = some (.int .i64 2) := X4.cell 1 rfl; have r2 : (w3.setCell ⟨wb.heap.size, 5, none⟩ (.slice (some ⟨g2, 0, none⟩) (i + 1) cap2)).cell? ⟨wb.heap.size, 2, none⟩ = some (.slice none 0 0) := X4.cell 2 rfl; have r3 : (w3.setCell ⟨wb.heap.size, 5, none⟩ (.slice (some ⟨g2, 0, none⟩) (i + 1) cap2)).cell? ⟨wb.heap.size, 3, none⟩ = some (.slice none 0 0) := X4.cell 3 rfl; have r4 : (w3.setCell ⟨wb.heap.size, 5, none⟩ (.slice (some ⟨g2, 0, none⟩) (i + 1) cap2)).cell? ⟨wb.heap.size, 4, none⟩ = some (.slice (some ⟨wo.heap.size, 0, none⟩) 1 1) := X4.cell 4 rfl; have r5 : (w3.setCell ⟨wb.heap.size, 5, none⟩ (.slice (some ⟨g2, 0, none⟩) (i + 1) cap2)).cell? ⟨wb.heap.size, 5, none⟩ = some (.slice (some ⟨g2, 0, none⟩) (i + 1) cap2) := X4.cell 5 rfl; have r6 : (w3.setCell ⟨wb.heap.size, 5, none⟩ (.slice (some ⟨g2, 0, none⟩) (i + 1) cap2)).cell? ⟨wb.heap.size, 6, none⟩ = some (.slice (some ⟨wa.heap.size, 0, none⟩) 1 1) := X4.cell 6 rfl))
          have hrow : RowT wc.heap.size (r ++ [((⟨7, 0, 0, 0, 0, [], []⟩ : SX), .slice none 0 0, .slice none 0 0)]) (.slice (some ⟨g2, 0, none⟩) (i + 1) cap2) w3 :=
            RowT.grown HR.out (RowZ.nil _ _) (RowZ.nil _ _) (by rw [HRL.out]; exact hgrow) (by rw [HRL.out]; exact hown3)
          have hl := HL.out
          have ho : ∀ c : Nat, c ≠ wb.heap.size → (w3.setCell ⟨wb.heap.size, 5, none⟩ (.slice (some ⟨g2, 0, none⟩) (i + 1) cap2)).heap[c]? = w3.heap[c]? := fun c hc => heap_setCell_lt w3 wb.heap.size 5 c _ hc
          have hbw := HX.out.2.2.2.grown hgrow (by have := HX.out.2.2.2.size; omega) (fun j hj => by have := own_geG hown0 hj; omega)
          have hne2 : (Value.slice q i c).ownBlock ≠ some wo.heap.size := (fun hh => by have := own_geG hown0 hh; have := HL.out; omega)
          have hne3 : (Value.slice q i c).ownBlock ≠ some wa.heap.size := (fun hh => by have := own_geG hown0 hh; have := HL.out; omega)
          have hrow4 := rowT_other hrow (fun c hc => ho c (by omega))
          have hE4 := (ho wo.heap.size (by omega)).trans (at_grown HX.out.2.1 hgrow hne2)
          have hM4 := (ho wa.heap.size (by omega)).trans (at_grown HX.out.2.2.1 hgrow hne3)
          have hb4 := hbw.setCell (p := ⟨wb.heap.size, 5, none⟩) (by show wo.heap.size ≤ wb.heap.size; omega) (.slice (some ⟨g2, 0, none⟩) (i + 1) cap2)
          obtain ⟨w4, hw4⟩ : ∃ w4, (w3.setCell ⟨wb.heap.size, 5, none⟩ (.slice (some ⟨g2, 0, none⟩) (i + 1) cap2)) = w4 := ⟨_, rfl⟩
          rw [hw4] at X4 r0 r1 r2 r3 r4 r5 r6 hrow4 hE4 hM4 hb4
          rw [hw4]
          clear hw4 hrow ho hbw hne hne2 hne3 hX3 y5 y6 hown3 hgrow hat hlt3 hown0 z5 X4
          have hS := hrow4.is (by rw [List.length_append, HRL.out]; unfold maxLen; simp; omega) (fun t ht => by
            have h9 := List.mem_map_of_mem (f := fun t : SX × Value × Value => t.1) ht
            rw [List.map_append, HRR.out] at h9
            rcases List.mem_append.1 h9 with h9 | h9
            · obtain ⟨j, _, hj⟩ := List.mem_map.1 h9
              rw [← hj]
              simp [nS, maxLen]
            · have := List.mem_singleton.1 h9
              rw [this]
              simp [maxLen])
          rw [List.map_append, HRR.out] at hS
          have hpr : IsPr w4 (.slice none 0 0) (.slice none 0 0) (.slice (some ⟨wo.heap.size, 0, none⟩) 1 1) (.slice (some ⟨g2, 0, none⟩) (i + 1) cap2) (.slice (some ⟨wa.heap.size, 0, none⟩) 1 1) (nP i) :=
            ⟨is_nil _, is_nil _, isE_one hE4, hS, isI_one hM4⟩
          have cI := Inner_prog (nP i) _ _ _ _ _ w4 hpr
          unfold InnerP at cI
          have HPR := Lib.hid hpr
          have HB4 := Lib.hid hb4
          clear hrow4 hE4 hM4 hb4 hS hpr hl
          refine cI.mono ?_
          rintro e w5 ⟨v5, k5, rfl, hb5, hf, ht⟩
          have cC := Check_prog (nP i) _ _ _ _ _ w5 (HPR.out.below hb5)
          unfold CheckP at cC
          rw [nP_ok i hlt] at cC hf ht
          have t0 := cell_below r0 hb5
          have t1 := cell_below r1 hb5
          have t2 := cell_below r2 hb5
          have t3 := cell_below r3 hb5
          have t4 := cell_below r4 hb5
          have t5 := cell_below r5 hb5
          have t6 := cell_below r6 hb5
          have HB5 := Lib.hid (HB4.out.trans (hb5.mono HB4.out.size))
          clear cI r0 r1 r2 r3 r4 r5 r6 hb5
          by_cases h5 : i ≤ 5
          · rw [decide_eq_true h5] at cC hf ht
            obtain ⟨rfl, hiv, _⟩ := ht rfl
            have hin := nP_in i (by omega)
            obtain ⟨L, hL⟩ : ∃ L, L = innerL (nP i) := ⟨_, rfl⟩
            rw [← hL] at hiv hin
            obtain ⟨q5, c5, rfl, hll, hcp, hcs⟩ := hiv
            rw [hin.1] at hll hcp hcs
            obtain ⟨b, off, rfl, hbb, hc9⟩ := hcs (by omega)
            have hce : w5.cell? ⟨b, off + i, none⟩ = some (.int .i64 (i : Nat)) := by have := hc9 i _ hin.2; simpa [QI] using this
            have h5z : (i : Int) ≤ 5 := by omega
            have HIN := Lib.hid hin
            rw [hin.1]
            clear hf ht hcs hc9 hL hin
            go_wp2_with fail
            refine cC.mono ?_
            rintro e w6 ⟨k6, rfl, rfl, hb6⟩
            have hc6 := cell_below hce hb6
            have HB6 := Lib.hid (HB5.out.trans (hb6.mono HB5.out.size))
            have cN := CN.out
            clear hce t0 t1 t2 t3 t4 t5 t6 cC hb6
            go_wp2_with (go_at_call 11; refine (cN _ _).mono ?_; rintro e w' ⟨rfl, rfl⟩)
            go_roundw
            case rel => exact ⟨i + 1, by omega, by go_num, HBR.out.trans (HB6.out.mono HBR.out.size)⟩
            case measure => simp [intOf]; omega
          · rw [decide_eq_false h5] at cC hf ht
            obtain ⟨rfl, rfl⟩ := hf rfl
            have h5z : ¬ ((i : Int) ≤ 5) := by omega
            clear ht
            go_wp2_with fail
            refine cC.mono ?_
            rintro e w6 ⟨k6, rfl, rfl, hb6⟩
            have HB6 := Lib.hid (HB5.out.trans (hb6.mono HB5.out.size))
            have cN := CN.out
            clear t0 t1 t2 t3 t4 t5 t6 cC hb6
            go_wp2_with (go_at_call 11; refine (cN _ _).mono ?_; rintro e w' ⟨rfl, rfl⟩)
            go_roundw
            case rel => exact ⟨i + 1, by omega, by go_num, HBR.out.trans (HB6.out.mono HBR.out.size)⟩
            case measure => simp [intOf]; omega
    · obtain rfl : n = 8 := by omega
      obtain ⟨ws, hws⟩ : ∃ ws, ws = wr := ⟨_, rfl⟩
      subst hws
      have HBS := Lib.hid (HB0.out.trans (hbr.mono HB0.out.size))
      have a1 := cell_below HA1.out hbr
      have HA1' := Lib.hid a1
      have hcs9 : w.heap.size < ws.heap.size := by have := HL1.out; have := hbr.size; omega
      have HLS := Lib.hid hcs9
      clear hbr a1 hcs9 hlt hn
      have Bx1 := below_box1 ws (.cells #[.int .i64 2, .int .i64 7, .int .i64 1, .int .i64 0, .int .i64 0, .int .i64 1, .int .i64 6, .int .i64 1, .int .i64 0, .int .i64 0] 45)
      have Ax1 := At.new ws #[.int .i64 2, .int .i64 7, .int .i64 1, .int .i64 0, .int .i64 0, .int .i64 1, .int .i64 6, .int .i64 1, .int .i64 0, .int .i64 0] 45
      obtain ⟨x1, hx1⟩ : ∃ x1, ws.alloc (.cells #[.int .i64 2, .int .i64 7, .int .i64 1, .int .i64 0, .int .i64 0, .int .i64 1, .int .i64 6, .int .i64 1, .int .i64 0, .int .i64 0] 45) = x1 := ⟨_, rfl⟩
      rw [hx1] at Bx1 Ax1
      have c := made_any 2 x1
      unfold MadeP at c
      go_wp2_with fail
      refine c.mono ?_
      rintro e x2 ⟨rfl, b2⟩
      clear c hx1
      go_upto_region 15 with (fail)
      have Bx3 := below_box1 x2 (.cells #[.int .i64 3, .int .i64 0, .int .i64 0, .int .i64 0, .int .i64 2, .slice none 0 0, .slice none 0 0] 47)
      have Ax3 := At.new x2 #[.int .i64 3, .int .i64 0, .int .i64 0, .int .i64 0, .int .i64 2, .slice none 0 0, .slice none 0 0] 47
      obtain ⟨x3, hx3⟩ : ∃ x3, x2.alloc (.cells #[.int .i64 3, .int .i64 0, .int .i64 0, .int .i64 0, .int .i64 2, .slice none 0 0, .slice none 0 0] 47) = x3 := ⟨_, rfl⟩
      rw [hx3] at Bx3 Ax3
      rw [hx3]
      clear hx3
      have Bx4 := below_box1 x3 (.cells #[.int .i64 4] 3)
      have Ax4 := At.new x3 #[.int .i64 4] 3
      obtain ⟨x4, hx4⟩ : ∃ x4, x3.alloc (.cells #[.int .i64 4] 3) = x4 := ⟨_, rfl⟩
      rw [hx4] at Bx4 Ax4
      have Bx5 := below_box1 x4 (.cells #[.int .i64 4] 3)
      have Ax5 := At.new x4 #[.int .i64 4] 3
      obtain ⟨x5, hx5⟩ : ∃ x5, x4.alloc (.cells #[.int .i64 4] 3) = x5 := ⟨_, rfl⟩
      rw [hx5] at Bx5 Ax5
      have Bx6 := below_box1 x5 (.cells #[.int .i64 1] 3)
      have Ax6 := At.new x5 #[.int .i64 1] 3
      obtain ⟨x6, hx6⟩ : ∃ x6, x5.alloc (.cells #[.int .i64 1] 3) = x6 := ⟨_, rfl⟩
      rw [hx6] at Bx6 Ax6
      have Bx7 := below_box1 x6 (.cells #[.int .i64 5, .int .i64 0, .int .i64 0, .int .i64 1, .int .i64 0, .slice (some ⟨x5.heap.size, 0, none⟩) 1 1, .slice none 0 0, .int .i64 3, .int .i64 0, .int .i64 0, .int .i64 0, .int .i64 2, .slice none 0 0, .slice none 0 0] 47)
      have Ax7 := At.new x6 #[.int .i64 5, .int .i64 0, .int .i64 0, .int .i64 1, .int .i64 0, .slice (some ⟨x5.heap.size, 0, none⟩) 1 1, .slice none 0 0, .int .i64 3, .int .i64 0, .int .i64 0, .int .i64 0, .int .i64 2, .slice none 0 0, .slice none 0 0] 47
      obtain ⟨x7, hx7⟩ : ∃ x7, x6.alloc (.cells #[.int .i64 5, .int .i64 0, .int .i64 0, .int .i64 1, .int .i64 0, .slice (some ⟨x5.heap.size, 0, none⟩) 1 1, .slice none 0 0, .int .i64 3, .int .i64 0, .int .i64 0, .int .i64 0, .int .i64 2, .slice none 0 0, .slice none 0 0] 47) = x7 := ⟨_, rfl⟩
      rw [hx7] at Bx7 Ax7
      have Bx8 := below_box1 x7 (.cells #[.int .i64 0] 3)
      have Ax8 := At.new x7 #[.int .i64 0] 3
      obtain ⟨x8, hx8⟩ : ∃ x8, x7.alloc (.cells #[.int .i64 0] 3) = x8 := ⟨_, rfl⟩
      rw [hx8] at Bx8 Ax8
      have Bx9 := below_box1 x8 (.cells #[.bool false, .int .i64 4, .slice (some ⟨x3.heap.size, 0, none⟩) 1 1, .slice (some ⟨x4.heap.size, 0, none⟩) 1 1, .slice (some ⟨ws.heap.size, 0, none⟩) 2 2, .slice (some ⟨x6.heap.size, 0, none⟩) 2 2, .slice (some ⟨x7.heap.size, 0, none⟩) 1 1] 33)
      have Ax9 := At.new x8 #[.bool false, .int .i64 4, .slice (some ⟨x3.heap.size, 0, none⟩) 1 1, .slice (some ⟨x4.heap.size, 0, none⟩) 1 1, .slice (some ⟨ws.heap.size, 0, none⟩) 2 2, .slice (some ⟨x6.heap.size, 0, none⟩) 2 2, .slice (some ⟨x7.heap.size, 0, none⟩) 1 1] 33
      obtain ⟨x9, hx9⟩ : ∃ x9, x8.alloc (.cells #[.bool false, .int .i64 4, .slice (some ⟨x3.heap.size, 0, none⟩) 1 1, .slice (some ⟨x4.heap.size, 0, none⟩) 1 1, .slice (some ⟨ws.heap.size, 0, none⟩) 2 2, .slice (some ⟨x6.heap.size, 0, none⟩) 2 2, .slice (some ⟨x7.heap.size, 0, none⟩) 1 1] 33) = x9 := ⟨_, rfl⟩
      rw [hx9] at Bx9 Ax9
      have b36 := Bx4.trans ((Bx5.trans (Bx6.mono Bx5.size)).mono Bx4.size)
      have Am := At.below' b36 Ax3
      have m0 : x6.cell? ⟨x2.heap.size, 0, none⟩ = some (.int .i64 3) := Am.cell 0 rfl
      have m1 : x6.cell? ⟨x2.heap.size, 1, none⟩ = some (.int .i64 0) := Am.cell 1 rfl
      have m2 : x6.cell? ⟨x2.heap.size, 2, none⟩ = some (.int .i64 0) := Am.cell 2 rfl
      have m3 : x6.cell? ⟨x2.heap.size, 3, none⟩ = some (.int .i64 0) := Am.cell 3 rfl
      have m4 : x6.cell? ⟨x2.heap.size, 4, none⟩ = some (.int .i64 2) := Am.cell 4 rfl
      have m5 : x6.cell? ⟨x2.heap.size, 5, none⟩ = some (.slice none 0 0) := Am.cell 5 rfl
      have m6 : x6.cell? ⟨x2.heap.size, 6, none⟩ = some (.slice none 0 0) := Am.cell 6 rfl
      have p0 : x9.cell? ⟨x8.heap.size, 0, none⟩ = some (.bool false) := Ax9.cell 0 rfl
      have p1 : x9.cell? ⟨x8.heap.size, 1, none⟩ = some (.int .i64 4) := Ax9.cell 1 rfl
      have p2 : x9.cell? ⟨x8.heap.size, 2, none⟩ = some (.slice (some ⟨x3.heap.size, 0, none⟩) 1 1) := Ax9.cell 2 rfl
      have p3 : x9.cell? ⟨x8.heap.size, 3, none⟩ = some (.slice (some ⟨x4.heap.size, 0, none⟩) 1 1) := Ax9.cell 3 rfl
      have p4 : x9.cell? ⟨x8.heap.size, 4, none⟩ = some (.slice (some ⟨ws.heap.size, 0, none⟩) 2 2) := Ax9.cell 4 rfl
      have p5 : x9.cell? ⟨x8.heap.size, 5, none⟩ = some (.slice (some ⟨x6.heap.size, 0, none⟩) 2 2) := Ax9.cell 5 rfl
      have p6 : x9.cell? ⟨x8.heap.size, 6, none⟩ = some (.slice (some ⟨x7.heap.size, 0, none⟩) 1 1) := Ax9.cell 6 rfl
      have b49 := (Bx5.trans (((Bx6.trans (((Bx7.trans (((Bx8.trans ((Bx9).mono Bx8.size))).mono Bx7.size))).mono Bx6.size))).mono Bx5.size))
      have b59 := (Bx6.trans (((Bx7.trans (((Bx8.trans ((Bx9).mono Bx8.size))).mono Bx7.size))).mono Bx6.size))
      have b69 := (Bx7.trans (((Bx8.trans ((Bx9).mono Bx8.size))).mono Bx7.size))
      have b79 := (Bx8.trans ((Bx9).mono Bx8.size))
      have b39 := (Bx4.trans ((b49).mono Bx4.size))
      have b19 := (b2.trans (((Bx3.trans ((b39).mono Bx3.size))).mono b2.size))
      have hpr : IsPr x9 (.slice (some ⟨x3.heap.size, 0, none⟩) 1 1) (.slice (some ⟨x4.heap.size, 0, none⟩) 1 1) (.slice (some ⟨ws.heap.size, 0, none⟩) 2 2) (.slice (some ⟨x6.heap.size, 0, none⟩) 2 2) (.slice (some ⟨x7.heap.size, 0, none⟩) 1 1) gP :=
        ⟨isI_one (At.below' b49 Ax4), isI_one (At.below' b59 Ax5), isE_two (At.below' b19 Ax1), isS_good (At.below' b79 Ax7) (At.below' b69 Ax6), isI_one (At.below' Bx9 Ax8)⟩
      have A9 := At.below' b39 Ax3
      have hb09 := Bx1.trans (b19.mono Bx1.size)
      have HPR := Lib.hid hpr
      have HBW := Lib.hid hb09
      have HBX := Lib.hid (HBS.out.trans (hb09.mono HBS.out.size))
      have HA9 := Lib.hid A9
      have HA10 := Lib.hid Ax9
      have HSZ := Lib.hid (And.intro Ax3.lt (And.intro (b39.size) Ax9.lt))
      have c := cpy_any _ _ _ _ _ x9 hpr
      unfold CpyP at c
      clear b49 b59 b69 b79 b39 b19 hpr A9 hb09 Bx1 b2 Bx3 Bx4 Bx5 Bx6 Bx7 Bx8 Bx9 Ax1 Ax3 Ax4 Ax5 Ax6 Ax7 Ax8 Ax9 b36 Am
      go_wp2_with fail
      clear hx4 hx5 hx6 hx7 hx8 hx9 m0 m1 m2 m3 m4 m5 m6 p0 p1 p2 p3 p4 p5 p6
      refine c.mono ?_
      rintro e y1 ⟨q1, k1, q2, k2, q3, k3, g4, k4, q5, k5, u1, u2, rfl, z1, z2, z3, z4, z5, hy1⟩
      clear c
      go_upto_region 17 with (fail)
      have By2 := below_box1 y1 (.cells #[.bool false, .int .i64 4, .slice q1 1 k1, .slice q2 1 k2, .slice q3 2 k3, .slice (some ⟨g4, 0, none⟩) 2 k4, .slice q5 1 k5] 33)
      have Ay2 := At.new y1 #[.bool false, .int .i64 4, .slice q1 1 k1, .slice q2 1 k2, .slice q3 2 k3, .slice (some ⟨g4, 0, none⟩) 2 k4, .slice q5 1 k5] 33
      obtain ⟨y2, hy2⟩ : ∃ y2, y1.alloc (.cells #[.bool false, .int .i64 4, .slice q1 1 k1, .slice q2 1 k2, .slice q3 2 k3, .slice (some ⟨g4, 0, none⟩) 2 k4, .slice q5 1 k5] 33) = y2 := ⟨_, rfl⟩
      rw [hy2] at By2 Ay2
      rw [hy2]
      clear hy2
      have s5 : y2.cell? ⟨y1.heap.size, 5, none⟩ = some (.slice (some ⟨g4, 0, none⟩) 2 k4) := Ay2.cell 5 rfl
      obtain ⟨hg1, hg2, _, _, _⟩ := rowT_op z4 6
      obtain ⟨_, _, hg3, hg4, z4'⟩ := rowT_op (z4.bel By2) 6
      obtain ⟨cur, hcur⟩ := (z4.bel By2).at0
      have z1' := rowZ_set (j := 0) (x := .int .i64 6) hcur (z1.bel By2)
      have z2' := rowZ_set (j := 0) (x := .int .i64 6) hcur (z2.bel By2)
      have z3' := rowE_set (j := 0) (x := .int .i64 6) hcur (z3.bel By2)
      have z5' := rowZ_set (j := 0) (x := .int .i64 6) hcur (z5.bel By2)
      have hy3 := (hy1.trans (By2.mono hy1.size)).setCell (p := ⟨g4, 0, none⟩) hg1 (.int .i64 6)
      have Ay3 := (heap_setCell_lt y2 g4 0 y1.heap.size (.int .i64 6) (by omega)).trans (show y2.heap[y1.heap.size]? = _ from Ay2)
      clear z1 z2 z3 z4 z5 hcur By2 Ay2 hg1 hg2
      dsimp only [gS1] at hg3
      go_upto_region 18 with (fail)
      obtain ⟨y3, hy3e⟩ : ∃ y3, y2.setCell ⟨g4, 0, none⟩ (.int .i64 6) = y3 := ⟨_, rfl⟩
      rw [hy3e] at z1' z2' z3' z4' z5' hy3 Ay3
      rw [hy3e]
      have hprL : IsPr y3 _ _ _ _ _ lP := ⟨z1'.is (by decide), z2'.is (by decide), z3'.is (by decide), z4'.is (by simp [maxLen]) (by
        intro t ht
        rcases List.mem_cons.1 ht with rfl | ht
        · exact ⟨by show [1].length ≤ maxLen; decide, by show [].length ≤ maxLen; decide⟩
        · obtain rfl := List.mem_singleton.1 ht
          exact ⟨by show [].length ≤ maxLen; decide, by show [].length ≤ maxLen; decide⟩), z5'.is (by decide)⟩
      have HL3 := Lib.hid (And.intro hprL (show At y3 y1.heap.size _ _ from Ay3))
      have HY3 := Lib.hid hy3
      clear hprL Ay3 z1' z2' z3' z4' z5' hy3e s5 hg3 hg4 hy1
      have A10 := At.below' hy3 HA10.out
      have p0 : y3.cell? ⟨x8.heap.size, 0, none⟩ = some (.bool false) := A10.cell 0 rfl
      have p1 : y3.cell? ⟨x8.heap.size, 1, none⟩ = some (.int .i64 4) := A10.cell 1 rfl
      have p2 : y3.cell? ⟨x8.heap.size, 2, none⟩ = some (.slice (some ⟨x3.heap.size, 0, none⟩) 1 1) := A10.cell 2 rfl
      have p3 : y3.cell? ⟨x8.heap.size, 3, none⟩ = some (.slice (some ⟨x4.heap.size, 0, none⟩) 1 1) := A10.cell 3 rfl
      have p4 : y3.cell? ⟨x8.heap.size, 4, none⟩ = some (.slice (some ⟨ws.heap.size, 0, none⟩) 2 2) := A10.cell 4 rfl
      have p5 : y3.cell? ⟨x8.heap.size, 5, none⟩ = some (.slice (some ⟨x6.heap.size, 0, none⟩) 2 2) := A10.cell 5 rfl
      have p6 : y3.cell? ⟨x8.heap.size, 6, none⟩ = some (.slice (some ⟨x7.heap.size, 0, none⟩) 1 1) := A10.cell 6 rfl
      have c := cpy_any _ _ _ _ _ y3 (HPR.out.below hy3)
      unfold CpyP at c
      clear A10 hy3
      go_wp2_with fail
      clear p0 p1 p2 p3 p4 p5 p6
      refine c.mono ?_
      rintro e t1 ⟨q1', k1', q2', k2', q3', k3', g4', k4', q5', k5', u1', u2', rfl, z1, z2, z3, z4, z5, ht1⟩
      clear c
      go_upto_region 19 with (fail)
      have Bt2 := below_box1 t1 (.cells #[.bool false, .int .i64 4, .slice q1' 1 k1', .slice q2' 1 k2', .slice q3' 2 k3', .slice (some ⟨g4', 0, none⟩) 2 k4', .slice q5' 1 k5'] 33)
      have At2 := At.new t1 #[.bool false, .int .i64 4, .slice q1' 1 k1', .slice q2' 1 k2', .slice q3' 2 k3', .slice (some ⟨g4', 0, none⟩) 2 k4', .slice q5' 1 k5'] 33
      obtain ⟨t2, ht2⟩ : ∃ t2, t1.alloc (.cells #[.bool false, .int .i64 4, .slice q1' 1 k1', .slice q2' 1 k2', .slice q3' 2 k3', .slice (some ⟨g4', 0, none⟩) 2 k4', .slice q5' 1 k5'] 33) = t2 := ⟨_, rfl⟩
      rw [ht2] at Bt2 At2
      rw [ht2]
      clear ht2
      obtain ⟨hg1, hg2, _, _, _⟩ := rowT_op z4 6
      have lt2 : t1.heap.size < t2.heap.size := At2.lt
      have Bt3 := below_box1 t2 (.cells #[.int .i64 3, .int .i64 0, .int .i64 0, .int .i64 0, .int .i64 2, .slice none 0 0, .slice none 0 0] 47)
      have At3 := At.new t2 #[.int .i64 3, .int .i64 0, .int .i64 0, .int .i64 0, .int .i64 2, .slice none 0 0, .slice none 0 0] 47
      obtain ⟨t3, ht3⟩ : ∃ t3, t2.alloc (.cells #[.int .i64 3, .int .i64 0, .int .i64 0, .int .i64 0, .int .i64 2, .slice none 0 0, .slice none 0 0] 47) = t3 := ⟨_, rfl⟩
      rw [ht3] at Bt3 At3
      have Bt23 := Bt2.trans (Bt3.mono Bt2.size)
      have hch := HY3.out.trans ((ht1.trans (Bt2.mono ht1.size)).mono HY3.out.size)
      have Am := At.below' (hch.mono (Nat.le_refl _)) HA9.out
      have X2 := At.below' Bt3 At2
      have Z1 := z1.bel Bt23
      have Z2 := z2.bel Bt23
      have Z3 := z3.bel Bt23
      have Z4 := z4.bel Bt23
      have Z5 := z5.bel Bt23
      have hown0 := Z4.2
      have s5 : t2.cell? ⟨t1.heap.size, 5, none⟩ = some (.slice (some ⟨g4', 0, none⟩) 2 k4') := At2.cell 5 rfl
      have m0 : t2.cell? ⟨x2.heap.size, 0, none⟩ = some (.int .i64 3) := Am.cell 0 rfl
      have m1 : t2.cell? ⟨x2.heap.size, 1, none⟩ = some (.int .i64 0) := Am.cell 1 rfl
      have m2 : t2.cell? ⟨x2.heap.size, 2, none⟩ = some (.int .i64 0) := Am.cell 2 rfl
      have m3 : t2.cell? ⟨x2.heap.size, 3, none⟩ = some (.int .i64 0) := Am.cell 3 rfl
      have m4 : t2.cell? ⟨x2.heap.size, 4, none⟩ = some (.int .i64 2) := Am.cell 4 rfl
      have m5 : t2.cell? ⟨x2.heap.size, 5, none⟩ = some (.slice none 0 0) := Am.cell 5 rfl
      have m6 : t2.cell? ⟨x2.heap.size, 6, none⟩ = some (.slice none 0 0) := Am.cell 6 rfl
      have hT := ht1.trans (Bt23.mono ht1.size)
      have hbs : y3.heap.size ≤ t3.heap.size := hT.size
      have HT := Lib.hid hT
      have HZ := Lib.hid (And.intro Z1 (And.intro Z2 (And.intro Z3 (And.intro Z4 Z5))))
      have HX := Lib.hid (And.intro X2 At3)
      have HG := Lib.hid (And.intro hg1 hg2)
      have HB1 := Lib.hid ht1.size
      obtain ⟨i0, hi0, hz0, hz1, hz2⟩ := info_parts gStmt
      clear z1 z2 z3 z4 z5 Z1 Z2 Z3 Z4 Z5 X2 At3 At2 Bt2 Bt3 Bt23 hch Am ht1 hT hg1 hg2
      go_upto_region 20 with ((at_builtin; refine wpList_append_lies _ rfl _ _ 31 rfl y3.heap.size 47 i0 _ 7 88 Try.underlying31 hi0 hz0 hz1 hz2 rfl (by decide) (.slice (some ⟨g4', 0, none⟩) 2 k4') 2 ([(gS1, u1'), (gS2, u2')].flatMap tsC) rfl hown0 ⟨t2.heap.size, 0, none⟩ 1 1 [.int .i64 3, .int .i64 0, .int .i64 0, .int .i64 0, .int .i64 2, .slice none 0 0, .slice none 0 0] rfl rfl (World.news_of_block (cs := #[.int .i64 3, .int .i64 0, .int .i64 0, .int .i64 0, .int .i64 2, .slice none 0 0, .slice none 0 0]) (t := 47) (fr := (0, 0)) HX.out.2) (by simp [Value.oneCell']) (by omega) (by decide) (by omega) hbs t3.heap.size rfl ?_; intro g2 cap2 w3 hown3 hgrow hat hlt3; have hne : (Value.slice (some ⟨g4', 0, none⟩) 2 k4').ownBlock ≠ some t1.heap.size := (fun hh => by have := HG.out.2; simp [Value.ownBlock] at hh; omega); have hX3 := at_grown HX.out.1 hgrow hne; have y5 : w3.cell? ⟨t1.heap.size, 5, none⟩ = some (.slice (some ⟨g4', 0, none⟩) 2 k4') := hX3.cell 5 rfl; have y6 := At.free hX3 5))
      have K1 := own_setT (j := 5) (x := .slice (some ⟨g2, 0, none⟩) 3 cap2) (by decide) hX3 (rowZ_keptS HZ.out.1 hown0 hgrow)
      have K2 := own_setT (j := 5) (x := .slice (some ⟨g2, 0, none⟩) 3 cap2) (by decide) hX3 (rowZ_keptS HZ.out.2.1 hown0 hgrow)
      have K3 := own_setT (j := 5) (x := .slice (some ⟨g2, 0, none⟩) 3 cap2) (by decide) hX3 (rowE_keptS HZ.out.2.2.1 hown0 hgrow)
      have K4 := rowT_setT (j := 5) (x := .slice (some ⟨g2, 0, none⟩) 3 cap2) hX3 (RowT.grown (t := (gS2, .slice none 0 0, .slice none 0 0)) HZ.out.2.2.2.1 (RowZ.nil _ _) (RowZ.nil _ _) hgrow hown3)
      have K5 := own_setT (j := 5) (x := .slice (some ⟨g2, 0, none⟩) 3 cap2) (by decide) hX3 (rowZ_keptS HZ.out.2.2.2.2 hown0 hgrow)
      have KX := At.set hX3 5 (.slice (some ⟨g2, 0, none⟩) 3 cap2) (by simp)
      have KB := (HT.out.grown hgrow hbs (fun j hj => by have := own_geG hown0 hj; omega)).setCell (p := ⟨t1.heap.size, 5, none⟩) HB1.out (.slice (some ⟨g2, 0, none⟩) 3 cap2)
      obtain ⟨t4, ht4⟩ : ∃ t4, w3.setCell ⟨t1.heap.size, 5, none⟩ (.slice (some ⟨g2, 0, none⟩) 3 cap2) = t4 := ⟨_, rfl⟩
      rw [ht4] at K1 K2 K3 K4 K5 KX KB
      rw [ht4]
      clear ht4 hX3 y5 y6 hne hown3 hgrow hat hlt3 hown0 s5 hi0 hz0 hz1 hz2
      clear ht3 m0 m1 m2 m3 m4 m5 m6
      have hbl : t1.heap.size < t4.heap.size := KX.lt
      have B5 := below_box1 t4 (.cells #[.int .i64 0, .int .i64 2] 3)
      have A5 := At.new t4 #[.int .i64 0, .int .i64 2] 3
      obtain ⟨t5, ht5⟩ : ∃ t5, t4.alloc (.cells #[.int .i64 0, .int .i64 2] 3) = t5 := ⟨_, rfl⟩
      rw [ht5] at B5 A5
      have X5 := At.below' B5 KX
      have y5 : t5.cell? ⟨t1.heap.size, 6, none⟩ = some (.slice q5' 1 k5') := X5.cell 6 rfl
      have y6 := At.free X5 6
      have J1 := own_setT (j := 6) (x := .slice (some ⟨t4.heap.size, 0, none⟩) 2 2) (by decide) X5 (ownsRow_belowG K1 B5)
      have J2 := own_setT (j := 6) (x := .slice (some ⟨t4.heap.size, 0, none⟩) 2 2) (by decide) X5 (ownsRow_belowG K2 B5)
      have J3 := own_setT (j := 6) (x := .slice (some ⟨t4.heap.size, 0, none⟩) 2 2) (by decide) X5 (ownsRow_belowG K3 B5)
      have J4 := rowT_setT (j := 6) (x := .slice (some ⟨t4.heap.size, 0, none⟩) 2 2) X5 (K4.bel B5)
      have J5 := (heap_setCell_lt t5 t1.heap.size 6 t4.heap.size (.slice (some ⟨t4.heap.size, 0, none⟩) 2 2) (by omega)).trans (show t5.heap[t4.heap.size]? = _ from A5)
      have JX := At.set X5 6 (.slice (some ⟨t4.heap.size, 0, none⟩) 2 2) (by simp)
      have JB := (KB.trans (B5.mono KB.size)).setCell (p := ⟨t1.heap.size, 6, none⟩) HB1.out (.slice (some ⟨t4.heap.size, 0, none⟩) 2 2)
      clear K1 K2 K3 K4 K5 KX KB B5 A5 X5 hbl
      go_upto_region 21 with (fail)
      obtain ⟨t6, ht6⟩ : ∃ t6, t5.setCell ⟨t1.heap.size, 6, none⟩ (.slice (some ⟨t4.heap.size, 0, none⟩) 2 2) = t6 := ⟨_, rfl⟩
      rw [ht6] at J1 J2 J3 J4 J5 JX JB
      rw [ht6]
      clear ht6 ht5 y5 y6
      have hprT : IsPr t6 _ _ _ _ _ tP := ⟨RowZ.is J1 (by decide), RowZ.is J2 (by decide), RowE.is J3 (by decide), (RowT.is J4 (by simp [maxLen]) (by
        intro t ht
        simp only [List.cons_append, List.nil_append, List.mem_cons, List.not_mem_nil, or_false] at ht
        rcases ht with rfl | rfl | rfl <;> simp [gS1, gS2, maxLen])), isI_two J5⟩
      have HT6 := Lib.hid (And.intro hprT JX)
      have HL6 := Lib.hid (And.intro (HL3.out.1.below JB) (At.below' JB HL3.out.2))
      have HY6 := Lib.hid (HY3.out.trans (JB.mono HY3.out.size))
      clear hprT JX JB J1 J2 J3 J4 J5 HT HZ HX HG HB1 HL3
      have A10 := At.below' HY6.out HA10.out
      have p0 : t6.cell? ⟨x8.heap.size, 0, none⟩ = some (.bool false) := A10.cell 0 rfl
      have p1 : t6.cell? ⟨x8.heap.size, 1, none⟩ = some (.int .i64 4) := A10.cell 1 rfl
      have p2 : t6.cell? ⟨x8.heap.size, 2, none⟩ = some (.slice (some ⟨x3.heap.size, 0, none⟩) 1 1) := A10.cell 2 rfl
      have p3 : t6.cell? ⟨x8.heap.size, 3, none⟩ = some (.slice (some ⟨x4.heap.size, 0, none⟩) 1 1) := A10.cell 3 rfl
      have p4 : t6.cell? ⟨x8.heap.size, 4, none⟩ = some (.slice (some ⟨ws.heap.size, 0, none⟩) 2 2) := A10.cell 4 rfl
      have p5 : t6.cell? ⟨x8.heap.size, 5, none⟩ = some (.slice (some ⟨x6.heap.size, 0, none⟩) 2 2) := A10.cell 5 rfl
      have p6 : t6.cell? ⟨x8.heap.size, 6, none⟩ = some (.slice (some ⟨x7.heap.size, 0, none⟩) 1 1) := A10.cell 6 rfl
      have c := cpy_any _ _ _ _ _ t6 (HPR.out.below HY6.out)
      unfold CpyP at c
      clear A10
      go_wp2_with fail
      clear p0 p1 p2 p3 p4 p5 p6
      refine c.mono ?_
      rintro e s1 ⟨q1s, k1s, q2s, k2s, q3s, k3s, g4s, k4s, q5s, k5s, u1s, u2s, rfl, z1, z2, z3, z4, z5, hb1⟩
      clear c
      go_upto_region 22 with (fail)
      have Bb2 := below_box1 s1 (.cells #[.bool false, .int .i64 4, .slice q1s 1 k1s, .slice q2s 1 k2s, .slice q3s 2 k3s, .slice (some ⟨g4s, 0, none⟩) 2 k4s, .slice q5s 1 k5s] 33)
      have Ab2 := At.new s1 #[.bool false, .int .i64 4, .slice q1s 1 k1s, .slice q2s 1 k2s, .slice q3s 2 k3s, .slice (some ⟨g4s, 0, none⟩) 2 k4s, .slice q5s 1 k5s] 33
      obtain ⟨s2, hs2⟩ : ∃ s2, s1.alloc (.cells #[.bool false, .int .i64 4, .slice q1s 1 k1s, .slice q2s 1 k2s, .slice q3s 2 k3s, .slice (some ⟨g4s, 0, none⟩) 2 k4s, .slice q5s 1 k5s] 33) = s2 := ⟨_, rfl⟩
      rw [hs2] at Bb2 Ab2
      rw [hs2]
      clear hs2
      obtain ⟨hg1, hg2, _, _, _⟩ := rowT_op z4 6
      have K1 : RowZ _ _ _ _ := z1.bel Bb2
      have K2 : RowZ _ _ _ _ := z2.bel Bb2
      have K3 : RowE _ _ _ _ := z3.bel Bb2
      have K4 := z4.bel Bb2
      have K5 := z5.bel Bb2
      have KX := Ab2
      have KB := hb1.trans (Bb2.mono hb1.size)
      have HB1 := Lib.hid hb1.size
      clear z1 z2 z3 z4 z5 Bb2 Ab2 hb1 hg1 hg2
      have hbl : s1.heap.size < s2.heap.size := KX.lt
      have B5 := below_box1 s2 (.cells #[.int .i64 0, .int .i64 1] 3)
      have A5 := At.new s2 #[.int .i64 0, .int .i64 1] 3
      obtain ⟨s3, hs3⟩ : ∃ s3, s2.alloc (.cells #[.int .i64 0, .int .i64 1] 3) = s3 := ⟨_, rfl⟩
      rw [hs3] at B5 A5
      have X5 := At.below' B5 KX
      have y5 : s3.cell? ⟨s1.heap.size, 6, none⟩ = some (.slice q5s 1 k5s) := X5.cell 6 rfl
      have y6 := At.free X5 6
      have J1 := own_setT (j := 6) (x := .slice (some ⟨s2.heap.size, 0, none⟩) 2 2) (by decide) X5 (ownsRow_belowG K1 B5)
      have J2 := own_setT (j := 6) (x := .slice (some ⟨s2.heap.size, 0, none⟩) 2 2) (by decide) X5 (ownsRow_belowG K2 B5)
      have J3 := own_setT (j := 6) (x := .slice (some ⟨s2.heap.size, 0, none⟩) 2 2) (by decide) X5 (ownsRow_belowG K3 B5)
      have J4 := rowT_setT (j := 6) (x := .slice (some ⟨s2.heap.size, 0, none⟩) 2 2) X5 (K4.bel B5)
      have J5 := (heap_setCell_lt s3 s1.heap.size 6 s2.heap.size (.slice (some ⟨s2.heap.size, 0, none⟩) 2 2) (by omega)).trans (show s3.heap[s2.heap.size]? = _ from A5)
      have JX := At.set X5 6 (.slice (some ⟨s2.heap.size, 0, none⟩) 2 2) (by simp)
      have JB := (KB.trans (B5.mono KB.size)).setCell (p := ⟨s1.heap.size, 6, none⟩) HB1.out (.slice (some ⟨s2.heap.size, 0, none⟩) 2 2)
      clear K1 K2 K3 K4 K5 KX KB B5 A5 X5 hbl
      go_upto_region 23 with (fail)
      obtain ⟨s4, hs4⟩ : ∃ s4, s3.setCell ⟨s1.heap.size, 6, none⟩ (.slice (some ⟨s2.heap.size, 0, none⟩) 2 2) = s4 := ⟨_, rfl⟩
      rw [hs4] at J1 J2 J3 J4 J5 JX JB
      rw [hs4]
      clear hs4 hs3 y5 y6
      have hprT : IsPr s4 _ _ _ _ _ aP := ⟨RowZ.is J1 (by decide), RowZ.is J2 (by decide), RowE.is J3 (by decide), (RowT.is J4 (by simp [maxLen]) (by
        intro t ht
        simp only [List.mem_cons, List.not_mem_nil, or_false] at ht
        rcases ht with rfl | rfl <;> simp [gS1, gS2, maxLen])), isI_two J5⟩
      have HS4 := Lib.hid (And.intro hprT JX)
      have HL4 := Lib.hid (And.intro (HL6.out.1.below JB) (At.below' JB HL6.out.2))
      have HT4 := Lib.hid (And.intro (HT6.out.1.below JB) (At.below' JB HT6.out.2))
      have HY4 := Lib.hid (HY6.out.trans (JB.mono HY6.out.size))
      clear hprT JX JB J1 J2 J3 J4 J5 HB1 HL6 HT6
      have A10 := At.below' HY4.out HA10.out
      have p0 : s4.cell? ⟨x8.heap.size, 0, none⟩ = some (.bool false) := A10.cell 0 rfl
      have p1 : s4.cell? ⟨x8.heap.size, 1, none⟩ = some (.int .i64 4) := A10.cell 1 rfl
      have p2 : s4.cell? ⟨x8.heap.size, 2, none⟩ = some (.slice (some ⟨x3.heap.size, 0, none⟩) 1 1) := A10.cell 2 rfl
      have p3 : s4.cell? ⟨x8.heap.size, 3, none⟩ = some (.slice (some ⟨x4.heap.size, 0, none⟩) 1 1) := A10.cell 3 rfl
      have p4 : s4.cell? ⟨x8.heap.size, 4, none⟩ = some (.slice (some ⟨ws.heap.size, 0, none⟩) 2 2) := A10.cell 4 rfl
      have p5 : s4.cell? ⟨x8.heap.size, 5, none⟩ = some (.slice (some ⟨x6.heap.size, 0, none⟩) 2 2) := A10.cell 5 rfl
      have p6 : s4.cell? ⟨x8.heap.size, 6, none⟩ = some (.slice (some ⟨x7.heap.size, 0, none⟩) 1 1) := A10.cell 6 rfl
      have c := cpy_any _ _ _ _ _ s4 (HPR.out.below HY4.out)
      unfold CpyP at c
      clear A10
      go_wp2_with fail
      clear p0 p1 p2 p3 p4 p5 p6
      refine c.mono ?_
      rintro e o1 ⟨q1o, k1o, q2o, k2o, q3o, k3o, g4o, k4o, q5o, k5o, u1o, u2o, rfl, z1, z2, z3, z4, z5, hb1⟩
      clear c
      go_upto_region 24 with (fail)
      have Bb2 := below_box1 o1 (.cells #[.bool false, .int .i64 4, .slice q1o 1 k1o, .slice q2o 1 k2o, .slice q3o 2 k3o, .slice (some ⟨g4o, 0, none⟩) 2 k4o, .slice q5o 1 k5o] 33)
      have Ab2 := At.new o1 #[.bool false, .int .i64 4, .slice q1o 1 k1o, .slice q2o 1 k2o, .slice q3o 2 k3o, .slice (some ⟨g4o, 0, none⟩) 2 k4o, .slice q5o 1 k5o] 33
      obtain ⟨o2, ho2⟩ : ∃ o2, o1.alloc (.cells #[.bool false, .int .i64 4, .slice q1o 1 k1o, .slice q2o 1 k2o, .slice q3o 2 k3o, .slice (some ⟨g4o, 0, none⟩) 2 k4o, .slice q5o 1 k5o] 33) = o2 := ⟨_, rfl⟩
      rw [ho2] at Bb2 Ab2
      rw [ho2]
      clear ho2
      obtain ⟨hg1, hg2, _, _, _⟩ := rowT_op z4 6
      have lt2 : o1.heap.size < o2.heap.size := Ab2.lt
      have Bt3 := below_box1 o2 (.cells #[.int .i64 7, .int .i64 0, .int .i64 0, .int .i64 0, .int .i64 0, .slice none 0 0, .slice none 0 0] 47)
      have At3 := At.new o2 #[.int .i64 7, .int .i64 0, .int .i64 0, .int .i64 0, .int .i64 0, .slice none 0 0, .slice none 0 0] 47
      obtain ⟨o3, ho3⟩ : ∃ o3, o2.alloc (.cells #[.int .i64 7, .int .i64 0, .int .i64 0, .int .i64 0, .int .i64 0, .slice none 0 0, .slice none 0 0] 47) = o3 := ⟨_, rfl⟩
      rw [ho3] at Bt3 At3
      have Bt23 := Bb2.trans (Bt3.mono Bb2.size)
      have X2 := At.below' Bt3 Ab2
      have Z1 := z1.bel Bt23
      have Z2 := z2.bel Bt23
      have Z3 := z3.bel Bt23
      have Z4 := z4.bel Bt23
      have Z5 := z5.bel Bt23
      have hown0 := Z4.2
      have s5 : o2.cell? ⟨o1.heap.size, 5, none⟩ = some (.slice (some ⟨g4o, 0, none⟩) 2 k4o) := Ab2.cell 5 rfl
      have hT := hb1.trans (Bt23.mono hb1.size)
      have hbs : s4.heap.size ≤ o3.heap.size := hT.size
      have HT := Lib.hid hT
      have HZ := Lib.hid (And.intro Z1 (And.intro Z2 (And.intro Z3 (And.intro Z4 Z5))))
      have HX := Lib.hid (And.intro X2 At3)
      have HG := Lib.hid (And.intro hg1 hg2)
      have HB1 := Lib.hid hb1.size
      obtain ⟨i0, hi0, hz0, hz1, hz2⟩ := info_parts gStmt
      clear z1 z2 z3 z4 z5 Z1 Z2 Z3 Z4 Z5 X2 At3 Ab2 Bb2 Bt3 Bt23 hb1 hT hg1 hg2
      go_upto_region 25 with ((at_builtin; refine wpList_append_lies _ rfl _ _ 31 rfl s4.heap.size 47 i0 _ 7 88 Try.underlying31 hi0 hz0 hz1 hz2 rfl (by decide) (.slice (some ⟨g4o, 0, none⟩) 2 k4o) 2 ([(gS1, u1o), (gS2, u2o)].flatMap tsC) rfl hown0 ⟨o2.heap.size, 0, none⟩ 1 1 [.int .i64 7, .int .i64 0, .int .i64 0, .int .i64 0, .int .i64 0, .slice none 0 0, .slice none 0 0] rfl rfl (World.news_of_block (cs := #[.int .i64 7, .int .i64 0, .int .i64 0, .int .i64 0, .int .i64 0, .slice none 0 0, .slice none 0 0]) (t := 47) (fr := (0, 0)) HX.out.2) (by simp [Value.oneCell']) (by omega) (by decide) (by omega) hbs o3.heap.size rfl ?_; intro g2 cap2 w3 hown3 hgrow hat hlt3; have hne : (Value.slice (some ⟨g4o, 0, none⟩) 2 k4o).ownBlock ≠ some o1.heap.size := (fun hh => by have := HG.out.2; simp [Value.ownBlock] at hh; omega); have hX3 := at_grown HX.out.1 hgrow hne; have y5 : w3.cell? ⟨o1.heap.size, 5, none⟩ = some (.slice (some ⟨g4o, 0, none⟩) 2 k4o) := hX3.cell 5 rfl; have y6 := At.free hX3 5))
      have K1 := own_setT (j := 5) (x := .slice (some ⟨g2, 0, none⟩) 3 cap2) (by decide) hX3 (rowZ_keptS HZ.out.1 hown0 hgrow)
      have K2 := own_setT (j := 5) (x := .slice (some ⟨g2, 0, none⟩) 3 cap2) (by decide) hX3 (rowZ_keptS HZ.out.2.1 hown0 hgrow)
      have K3 := own_setT (j := 5) (x := .slice (some ⟨g2, 0, none⟩) 3 cap2) (by decide) hX3 (rowE_keptS HZ.out.2.2.1 hown0 hgrow)
      have K4 := rowT_setT (j := 5) (x := .slice (some ⟨g2, 0, none⟩) 3 cap2) hX3 (RowT.grown (t := (gS3, .slice none 0 0, .slice none 0 0)) HZ.out.2.2.2.1 (RowZ.nil _ _) (RowZ.nil _ _) hgrow hown3)
      have K5 := own_setT (j := 5) (x := .slice (some ⟨g2, 0, none⟩) 3 cap2) (by decide) hX3 (rowZ_keptS HZ.out.2.2.2.2 hown0 hgrow)
      have KX := At.set hX3 5 (.slice (some ⟨g2, 0, none⟩) 3 cap2) (by simp)
      have KB := (HT.out.grown hgrow hbs (fun j hj => by have := own_geG hown0 hj; omega)).setCell (p := ⟨o1.heap.size, 5, none⟩) HB1.out (.slice (some ⟨g2, 0, none⟩) 3 cap2)
      obtain ⟨o4, ho4⟩ : ∃ o4, w3.setCell ⟨o1.heap.size, 5, none⟩ (.slice (some ⟨g2, 0, none⟩) 3 cap2) = o4 := ⟨_, rfl⟩
      rw [ho4] at K1 K2 K3 K4 K5 KX KB
      rw [ho4]
      clear ho4 hX3 y5 y6 hne hown3 hgrow hat hlt3 hown0 s5 hi0 hz0 hz1 hz2
      have hprT : IsPr o4 _ _ _ _ _ oP := ⟨RowZ.is K1 (by decide), RowZ.is K2 (by decide), RowE.is K3 (by decide), (RowT.is K4 (by simp [maxLen]) (by
        intro t ht
        simp only [List.cons_append, List.nil_append, List.mem_cons, List.not_mem_nil, or_false] at ht
        rcases ht with rfl | rfl | rfl <;> simp [gS1, gS2, gS3, maxLen])), RowZ.is K5 (by decide)⟩
      have HO5 := Lib.hid (And.intro hprT KX)
      have HL5 := Lib.hid (And.intro (HL4.out.1.below KB) (At.below' KB HL4.out.2))
      have HT5 := Lib.hid (And.intro (HT4.out.1.below KB) (At.below' KB HT4.out.2))
      have HS5 := Lib.hid (And.intro (HS4.out.1.below KB) (At.below' KB HS4.out.2))
      have HY5 := Lib.hid (HY4.out.trans (KB.mono HY4.out.size))
      have HG5 := Lib.hid (And.intro (HPR.out.below HY5.out) (At.below' HY5.out HA10.out))
      have HW5 := Lib.hid (HBX.out.trans (HY5.out.mono HBX.out.size))
      clear hprT KX KB K1 K2 K3 K4 K5 HT HZ HX HG HB1 HL4 HT4 HS4 HY4 ho3 lt2 hbs
      have cN := CN.out
      have cW := CW.out
      have hc0 := Below.refl o4.heap.size o4
      have X := At.below' hc0 HG5.out.2
      have p0 := X.cell 0 rfl
      have p1 := X.cell 1 rfl
      have p2 := X.cell 2 rfl
      have p3 := X.cell 3 rfl
      have p4 := X.cell 4 rfl
      have p5 := X.cell 5 rfl
      have p6 := X.cell 6 rfl
      have c := Check_prog gP _ _ _ _ _ o4 (HG5.out.1.below hc0)
      unfold CheckP at c
      rw [gP_ok] at c
      clear X
      go_wp2_with fail
      refine c.mono ?_
      rintro e r1 ⟨k0, rfl, rfl, hb⟩
      replace hc0 := hc0.trans (hb.mono hc0.size)
      clear c hb p0 p1 p2 p3 p4 p5 p6
      have X := At.below' hc0 HL5.out.2
      have p0 := X.cell 0 rfl
      have p1 := X.cell 1 rfl
      have p2 := X.cell 2 rfl
      have p3 := X.cell 3 rfl
      have p4 := X.cell 4 rfl
      have p5 := X.cell 5 rfl
      have p6 := X.cell 6 rfl
      have c := Check_prog lP _ _ _ _ _ r1 (HL5.out.1.below hc0)
      unfold CheckP at c
      rw [lP_no] at c
      clear X
      go_wp2_with (go_at_call 11; refine (cN _ _).mono ?_; rintro e w' ⟨rfl, rfl⟩)
      refine c.mono ?_
      rintro e r2 ⟨k1, rfl, rfl, hb⟩
      replace hc0 := hc0.trans (hb.mono hc0.size)
      clear c hb p0 p1 p2 p3 p4 p5 p6
      have X := At.below' hc0 HT5.out.2
      have p0 := X.cell 0 rfl
      have p1 := X.cell 1 rfl
      have p2 := X.cell 2 rfl
      have p3 := X.cell 3 rfl
      have p4 := X.cell 4 rfl
      have p5 := X.cell 5 rfl
      have p6 := X.cell 6 rfl
      have c := Check_prog tP _ _ _ _ _ r2 (HT5.out.1.below hc0)
      unfold CheckP at c
      rw [tP_no] at c
      clear X
      go_wp2_with (go_at_call 11; refine (cN _ _).mono ?_; rintro e w' ⟨rfl, rfl⟩)
      refine c.mono ?_
      rintro e r3 ⟨k2, rfl, rfl, hb⟩
      replace hc0 := hc0.trans (hb.mono hc0.size)
      clear c hb p0 p1 p2 p3 p4 p5 p6
      have X := At.below' hc0 HS5.out.2
      have p0 := X.cell 0 rfl
      have p1 := X.cell 1 rfl
      have p2 := X.cell 2 rfl
      have p3 := X.cell 3 rfl
      have p4 := X.cell 4 rfl
      have p5 := X.cell 5 rfl
      have p6 := X.cell 6 rfl
      have c := Check_prog aP _ _ _ _ _ r3 (HS5.out.1.below hc0)
      unfold CheckP at c
      rw [aP_no] at c
      clear X
      go_wp2_with (go_at_call 11; refine (cN _ _).mono ?_; rintro e w' ⟨rfl, rfl⟩)
      refine c.mono ?_
      rintro e r4 ⟨k3, rfl, rfl, hb⟩
      replace hc0 := hc0.trans (hb.mono hc0.size)
      clear c hb p0 p1 p2 p3 p4 p5 p6
      have X := At.below' hc0 HO5.out.2
      have p0 := X.cell 0 rfl
      have p1 := X.cell 1 rfl
      have p2 := X.cell 2 rfl
      have p3 := X.cell 3 rfl
      have p4 := X.cell 4 rfl
      have p5 := X.cell 5 rfl
      have p6 := X.cell 6 rfl
      have c := Check_prog oP _ _ _ _ _ r4 (HO5.out.1.below hc0)
      unfold CheckP at c
      rw [oP_no] at c
      clear X
      go_wp2_with (go_at_call 11; refine (cN _ _).mono ?_; rintro e w' ⟨rfl, rfl⟩)
      refine c.mono ?_
      rintro e r5 ⟨k4, rfl, rfl, hb⟩
      replace hc0 := hc0.trans (hb.mono hc0.size)
      clear c hb p0 p1 p2 p3 p4 p5 p6
      have X := At.below' hc0 HG5.out.2
      have p0 := X.cell 0 rfl
      have p1 := X.cell 1 rfl
      have p2 := X.cell 2 rfl
      have p3 := X.cell 3 rfl
      have p4 := X.cell 4 rfl
      have p5 := X.cell 5 rfl
      have p6 := X.cell 6 rfl
      have c := rProg_any gP _ _ _ _ _ r5 (HG5.out.1.below hc0)
      unfold RProgP at c
      rw [gP_ok] at c
      clear X
      go_wp2_with (go_at_call 11; refine (cN _ _).mono ?_; rintro e w' ⟨rfl, rfl⟩)
      refine c.mono ?_
      rintro e r6 ⟨rfl, hb⟩
      replace hc0 := hc0.trans (hb.mono hc0.size)
      have a1 := cell_below HA1'.out (HBW.out.trans ((HY5.out.trans (hc0.mono HY5.out.size)).mono HBW.out.size))
      clear c hb p0 p1 p2 p3 p4 p5 p6
      go_wp2_with fail
      refine (cW r6).mono ?_
      rintro e r7 ⟨rfl, hb⟩
      have FIN := HW5.out.trans ((hc0.trans (hb.mono hc0.size)).mono HW5.out.size)
      clear hb hc0 a1
      go_wp2_with fail
      go_ret
      exact ⟨rfl, FIN⟩
end Go.Proofs.Ytofpfmdbmbfapaa
