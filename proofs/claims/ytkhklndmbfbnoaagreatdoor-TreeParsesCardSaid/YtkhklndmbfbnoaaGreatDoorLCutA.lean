/- Package lex: a text's words are cut off, one by one. -/
import Derived.Test.YtkhklndmbfbnoaaGreatDoorLCut
namespace Go.Proofs.YtkhklndmbfbnoaaGreatDoor
open Go.ChangeShapes Go.WideShapes Go.ChangeAt Go.RowKit Go.Joins Go.Deep
set_option linter.unusedVariables false

theorem ownsRow_belowT {w w' : World} {base e size : Nat} {v : Value} {n : Nat} {xs : List Value} (h : w.ownsRow base e size v n xs) (hb : Below w.heap.size w w') : w'.ownsRow base e size v n xs := by
  obtain ⟨hl, ⟨rfl, h0⟩ | ⟨g, cap, cur, rfl, hbb, hg, hn, hm, hc, hx⟩⟩ := h
  · exact ⟨hl, Or.inl ⟨rfl, h0⟩⟩
  · refine ⟨hl, Or.inr ⟨g, cap, cur, rfl, hbb, ?_, hn, hm, hc, hx⟩⟩
    have hlt : g < w.heap.size := by
      rcases Nat.lt_or_ge g w.heap.size with h' | h'
      · exact h'
      · rw [Array.getElem?_eq_none h'] at hg; cases hg
    exact (hb.block g hlt).trans hg
theorem ownsRow_heap {w w' : World} {base e size : Nat} {v : Value} {n : Nat} {xs : List Value} {tb : Nat} (h : w.ownsRow base e size v n xs) (hb : tb < base) (hk : ∀ b, b ≠ tb → w'.heap[b]? = w.heap[b]?) : w'.ownsRow base e size v n xs := by
  obtain ⟨hl, ⟨rfl, h0⟩ | ⟨g, cap, cur, rfl, hbb, hg, hn, hm, hc, hx⟩⟩ := h
  · exact ⟨hl, Or.inl ⟨rfl, h0⟩⟩
  · exact ⟨hl, Or.inr ⟨g, cap, cur, rfl, hbb, (hk g (by omega)).trans hg, hn, hm, hc, hx⟩⟩
theorem own_geT {w : World} {base e size : Nat} {v : Value} {n : Nat} {xs : List Value} (h : w.ownsRow base e size v n xs) {k : Nat} (hk : v.ownBlock = some k) : base ≤ k := by
  obtain ⟨hl, ⟨rfl, h0⟩ | ⟨g, cap, cur, rfl, hbb, hg, hn, hm, hc, hx⟩⟩ := h
  · cases hk
  · simp [Value.ownBlock] at hk; omega
theorem At.grownT {w w' : World} {b : Nat} {cs : Array Value} {t : TypeId} {row : Option Nat} (h : At w b cs t) (hg : w.grownBy w' row) (hne : row ≠ some b) : At w' b cs t := (hg.block b h.lt (fun e => hne e.symm)).trans h
/-- the bytes of a word -/
def tokB (s : ByteArray) (ps n : Nat) : ByteArray := ⟨((s.data.toList.drop ps).take n).toArray⟩
theorem tokB_eq (s : ByteArray) (ps n : Nat) : (tailB s ps).extract 0 n = tokB s ps n := by
  apply bytes_inj
  rw [Lib.extract_data, tail_list]
  simp [tokB]
/-- the place, as memory has it -/
def psOf (tb : Nat) (w : World) : Nat := (intOf ((w.cell? ⟨tb, 4, none⟩).getD undef)).toNat
theorem psOf_at {w : World} {tb : Nat} {s : ByteArray} {dn st : Int} {ps : Nat} {fd : Value} (h : TxtAt w tb s dn st ps fd) : psOf tb w = ps := by
  unfold psOf
  have h4 : w.cell? ⟨tb, 4, none⟩ = some (.int .i32 (ps : Nat)) := h.at.cell 4 rfl
  rw [h4]
  simp [intOf]
set_option maxRecDepth 100000 in
set_option maxHeartbeats 6400000 in
theorem cutAll_any (tb : Nat) (s : ByteArray) (hs : s.size ≤ 2000) (w : World) (h : TxtAt w tb s 0 1 0 (.slice none 0 0)) :
    Calls Tryz.prog 76 #[.pointer (some ⟨tb, 0, none⟩)] w (CutPost tb s w) := by
  have cR := fun ps fd hp hq w h => rest_any tb s 0 1 ps fd hp hq hs w h
  have cP := fun ps n fd hp w h => pass_any tb s 0 1 ps n fd hp w h
  have cA := fun ps fd hp w h => at_any tb s 0 1 ps fd hp w h
  have cG := fun ps w => gap_any (tailB s ps) w (by rw [tail_size]; unfold maxLen; omega)
  have cL := fun ps w => longest_any (tailB s ps) w (by rw [tail_size]; unfold maxLen; omega)
  simp only [tail_list] at cG cL
  have hg0 := gapN_le false s.data.toList
  rw [len_text] at hg0
  have hcut : cutW s.data.toList = scanW (s.data.toList.drop (gapN false s.data.toList)) (gapN false s.data.toList) := by
    unfold cutW; rw [scanL_W, Nat.zero_add]
  have htl := At.lt h.at
  have hcr0 := cR 0 (.slice none 0 0) (by omega) (by omega) w h
  have hcg0 := cG 0
  simp only [List.drop_zero] at hcg0
  have HC := Lib.hid hcut
  have H := Lib.hid h
  clear hcut h
  go_enter Tryz.func76, Tryz.ntmps76
  go_wp2_with fail
  refine hcr0.mono ?_
  rintro e w1 ⟨rfl, hb1⟩
  go_wp2_with fail
  refine (hcg0 _).mono ?_
  rintro e w2 ⟨rfl, rfl⟩
  have hT1 : TxtAt w1 tb s 0 1 (0 : Nat) (.slice none 0 0) := At.below' hb1 H.out
  go_wp2_with fail
  refine (cP 0 (gapN false s.data.toList) _ (by omega) _ hT1).mono ?_
  rintro e w2 ⟨rfl, hT2, hk2, hb2⟩
  rw [Nat.zero_add] at hT2
  go_wp2_with fail
  refine (cR (gapN false s.data.toList) _ (by omega) (by omega) _ hT2).mono ?_
  rintro e w3 ⟨rfl, hb3⟩
  go_wp2_with fail
  refine (cL (gapN false s.data.toList) _).mono ?_
  rintro e w4 ⟨rfl, rfl⟩
  have hT3 : TxtAt w3 tb s 0 1 (gapN false s.data.toList : Nat) (.slice none 0 0) := At.below' hb3 hT2
  have hbt2 := At.lt hT2
  have hbw : Below tb w w3 := ((hb1.mono (Nat.le_of_lt htl)).trans hb2).trans (hb3.mono (Nat.le_of_lt hbt2))
  generalize gapN false s.data.toList = g0 at *
  clear hcr0 hcg0 hT1 hT2 hk2 hb1 hb2 hb3 hbt2
  obtain ⟨n0, hn0⟩ : ∃ n0, n0 = longN (s.data.toList.drop g0) := ⟨_, rfl⟩
  have HN0 := Lib.hid hn0
  rw [← hn0]
  clear hn0
  go_wp2_with fail
  go_loopw [2] (fun v wr => RelCut tb s w v wr) (fun _ wr => s.size - psOf tb wr)
  case atStart => exact ⟨g0, [], .slice none 0 0, hg0, by rw [HN0.out], hT3, ⟨rfl, Or.inl ⟨rfl, rfl⟩⟩, Nat.zero_le _, by rw [HC.out]; rfl, hbw⟩
  case round =>
    clear hT3 hbw HC HN0
    obtain ⟨ps, T, fd, hps, rfl, hT, hR, hTl, hcutE, hbw⟩ := hrel
    have hpo := psOf_at hT
    have HPO := Lib.hid hpo
    have hln := longN_le (s.data.toList.drop ps)
    rw [List.length_drop, len_text] at hln
    obtain ⟨n, hn⟩ : ∃ n, n = longN (s.data.toList.drop ps) := ⟨_, rfl⟩
    unfold scanW at hcutE
    rw [← hn] at hcutE hln ⊢
    have HN := Lib.hid hn
    have HCE := Lib.hid hcutE
    clear hpo hn hcutE
    by_cases hn0 : n = 0
    · subst hn0
      have fin : CutPost tb s w (.returned (.tuple #[])) wr := by
        have e := HCE.out
        rw [if_pos rfl, List.append_nil] at e
        refine ⟨rfl, fd, ?_, ?_, hbw⟩
        · rw [e]; exact hT
        · rw [e]; exact hR
      have FIN := Lib.hid fin
      clear fin hT hR
      go_wp2_with fail
      go_end0
      exact FIN.out
    · have hnp : 0 < n := by omega
      have hnn : decide ((0 : Int) < (n : Int)) = true := by simp; omega
      have htw : tb < wr.heap.size := At.lt hT
      obtain ⟨i0, hi0, hz0, hz1, hz2⟩ := info_parts info_tok
      obtain ⟨m, hm⟩ : ∃ m, m = T.length := ⟨_, rfl⟩
      unfold RowT at hR
      rw [← hm] at hR
      rw [← hm] at hTl
      have HM := Lib.hid hm
      clear hm
      obtain ⟨q, cc, rfl⟩ : ∃ q cc, fd = .slice q m cc := by
        rcases hR.2 with ⟨rfl, h0⟩ | ⟨g, cap, cur, rfl, _⟩
        · exact ⟨none, 0, by rw [h0]⟩
        · exact ⟨_, _, rfl⟩
      have c5 : wr.cell? ⟨tb, 5, none⟩ = some (.slice q m cc) := hT.at.cell 5 rfl
      have hnB : (n : Int) ≤ ((tailB s ps).size : Int) := by rw [tail_size]; omega
      have hnB2 : n ≤ (tailB s ps).size := by rw [tail_size]; omega
      have h0B : (0 : Int) ≤ (n : Int) := by omega
      have hm1 : m + 1 ≤ maxLen := by unfold maxLen; omega
      have hm2 : (m + 1) * 24 ≤ 140737488355328 := by omega
      have cC := fun w => clone_any ((tailB s ps).extract 0 n) (by rw [tokB_eq]; show (((s.data.toList.drop ps).take n).toArray.size) ≤ _; simp; omega) w
      have HR := Lib.hid hR
      have HT := Lib.hid hT
      clear hR
      go_wp2_with fail
      have c5d : wr.drew.cell? ⟨tb, 5, none⟩ = some (.slice q m cc) := c5
      go_region_law
        ((first
          | (go_simp; refine (cR ps (.slice q m cc) (by omega) (by omega) _ (At.drew HT.out)).mono ?_; rintro e w5 ⟨rfl, hb5⟩
             have hT5 : TxtAt w5 tb s 0 1 ps (.slice q m cc) := At.below' hb5 (At.drew HT.out)
             have c5a : w5.cell? ⟨tb, 5, none⟩ = some (.slice q m cc) := hT5.at.cell 5 rfl
             have HT5 := Lib.hid hT5
             have HB5 := Lib.hid hb5
             clear hT5 hb5)
          | (go_simp; refine (cC _).mono ?_; rintro e w6 ⟨rfl, hb6⟩
             have hT6 : TxtAt w6 tb s 0 1 ps (.slice q m cc) := At.below' hb6 HT5.out
             have c5b : w6.cell? ⟨tb, 5, none⟩ = some (.slice q m cc) := hT6.at.cell 5 rfl
             have hown := (ownsRow_belowT (ownsRow_belowT (HR.out.drew) HB5.out) hb6).alloc (.cells #[.string ((tailB s ps).extract 0 n), .int .i64 (ps : Nat)] 35)
             have c5c : (w6.alloc (.cells #[.string ((tailB s ps).extract 0 n), .int .i64 (ps : Nat)] 35)).cell? ⟨tb, 5, none⟩ = some (.slice q m cc) := (At.alloc hT6.at _).cell 5 rfl
             have HT6 := Lib.hid hT6
             have HB6 := Lib.hid hb6
             have HOW := Lib.hid hown
             have hs6 : tb + 1 ≤ w6.heap.size := Nat.le_trans htw (Nat.le_trans HB5.out.size hb6.size)
             clear hT6 hb6 hown)
          | (go_simp; refine (cA ps (.slice q m cc) (by omega) _ HT6.out).mono ?_; rintro e w7 ⟨rfl, rfl⟩)
          | (refine step_append_lies _ (by rfl) _ _ _ (by rfl) (tb + 1) 35 i0 _ 2 24 Tryz.underlying30 hi0 hz0 hz1 hz2 rfl (by omega) (.slice q m cc) m (T.flatMap tokC) (by rfl) HOW.out ⟨w6.heap.size, 0, none⟩ 1 1 [.string ((tailB s ps).extract 0 n), .int .i64 (ps : Nat)] (by rfl) (by rfl) (World.news_of_block (cs := #[.string ((tailB s ps).extract 0 n), .int .i64 (ps : Nat)]) (t := 35) (fr := (0, 0)) (heap_alloc_new w6 _)) (by simp [Value.oneCell']) (by omega) hm1 hm2 (by simp; omega) (w6.heap.size + 1) (by simp) ?_; intro g2 cap2 w8 hown3 hgrow hat hlt3
             have hT8 : TxtAt w8 tb s 0 1 ps (.slice q m cc) := At.grownT (At.alloc HT6.out.at _) hgrow (fun e => by have := own_geT HOW.out e; omega)
             have c5e : w8.cell? ⟨tb, 5, none⟩ = some (.slice q m cc) := hT8.at.cell 5 rfl
             have f5e : w8.frozen? ⟨tb, 5, none⟩ = false := At.free hT8.at 5
             have HT8 := Lib.hid hT8
             have HO3 := Lib.hid hown3
             have HG := Lib.hid hgrow
             clear hT8 hown3 hgrow hat hlt3)))
      all_goals
        have hT9 : TxtAt (w8.setCell ⟨tb, 5, none⟩ (.slice (some ⟨g2, 0, none⟩) (m + 1) cap2)) tb s 0 1 ps (.slice (some ⟨g2, 0, none⟩) (m + 1) cap2) := At.set HT8.out.at 5 (.slice (some ⟨g2, 0, none⟩) (m + 1) cap2) (by simp [txtC])
        have hO9 := ownsRow_heap (tb := tb) HO3.out (Nat.lt_succ_self tb) (fun b hb => Below.heap_setCell w8 ⟨tb, 5, none⟩ (.slice (some ⟨g2, 0, none⟩) (m + 1) cap2) b hb)
        have hR9 : RowT (tb + 1) (T ++ [((s.data.toList.drop ps).take n, ps)]) (.slice (some ⟨g2, 0, none⟩) (m + 1) cap2) (w8.setCell ⟨tb, 5, none⟩ (.slice (some ⟨g2, 0, none⟩) (m + 1) cap2)) := by
          rw [tokB_eq] at hO9
          unfold RowT
          rw [List.flatMap_append, List.length_append, ← HM.out]
          exact hO9
        have b1 : Below tb wr w5 := (Below.refl tb wr).drew.trans (HB5.out.mono (Nat.le_of_lt htw))
        have b2 : Below tb wr w6 := b1.trans (HB6.out.mono (Nat.le_trans (Nat.le_of_lt htw) b1.size))
        have b2a := b2.alloc (Nat.le_of_succ_le hs6) (.cells #[.string ((tailB s ps).extract 0 n), .int .i64 (ps : Nat)] 35)
        have b3 : Below tb wr w8 := b2a.grown HG.out (Nat.le_trans (Nat.le_of_lt htw) b2a.size) (fun k hk => Nat.le_of_succ_le (own_geT HOW.out hk))
        have b4 := b3.setCell (p := ⟨tb, 5, none⟩) (Nat.le_refl _) (.slice (some ⟨g2, 0, none⟩) (m + 1) cap2)
        clear hO9 b1 b2 b2a b3 HT8 HO3 HG HOW HT5 HB5 HT6 HB6 HT HR c5 c5a c5b c5c c5d c5e f5e hs6 hi0 hz0 hz1 hz2 cC cA
        generalize w8.setCell ⟨tb, 5, none⟩ (.slice (some ⟨g2, 0, none⟩) (m + 1) cap2) = w9 at *
        have hcP := cP ps n _ (by omega) _ hT9
        go_wp2_with fail
        refine hcP.mono ?_
        rintro e w10 ⟨rfl, hT10, hk10, hb10⟩
        have hR10 : RowT (tb + 1) _ _ w10 := ownsRow_heap hR9 (Nat.lt_succ_self tb) hk10
        clear hcP hT9 hR9 hk10
        go_wp2_with fail
        refine (cR (ps + n) _ (by omega) (by omega) _ hT10).mono ?_
        rintro e w11 ⟨rfl, hb11⟩
        have hT11 : TxtAt w11 tb s 0 1 (ps + n : Nat) _ := At.below' hb11 hT10
        have hR11 : RowT (tb + 1) _ _ w11 := ownsRow_belowT hR10 hb11
        have hl10 := At.lt hT10
        have b5 : Below tb w w11 := ((hbw.trans b4).trans hb10).trans (hb11.mono (Nat.le_of_lt hl10))
        have hg1 := gapN_le false (s.data.toList.drop (ps + n))
        rw [List.length_drop, len_text] at hg1
        have hcg := cG (ps + n)
        obtain ⟨g, hg⟩ : ∃ g, g = gapN false (s.data.toList.drop (ps + n)) := ⟨_, rfl⟩
        rw [← hg] at hcg hg1
        have HGG := Lib.hid hg
        clear hT10 hR10 hb11 b4 hb10 hg cG
        go_wp2_with fail
        refine (hcg _).mono ?_
        rintro e w12 ⟨rfl, rfl⟩
        have hcP2 := cP (ps + n) g _ (by omega) _ hT11
        go_wp2_with fail
        refine hcP2.mono ?_
        rintro e w13 ⟨rfl, hT13, hk13, hb13⟩
        have hR13 : RowT (tb + 1) _ _ w13 := ownsRow_heap hR11 (Nat.lt_succ_self tb) hk13
        have b6 := b5.trans hb13
        clear hcP2 hT11 hR11 hk13 hcg b5 hb13
        go_wp2_with fail
        refine (cR (ps + n + g) _ (by omega) (by omega) _ hT13).mono ?_
        rintro e w14 ⟨rfl, hb14⟩
        have hT14 : TxtAt w14 tb s 0 1 (ps + n + g : Nat) _ := At.below' hb14 hT13
        have hR14 : RowT (tb + 1) _ _ w14 := ownsRow_belowT hR13 hb14
        have hl13 := At.lt hT13
        have b7 : Below tb w w14 := b6.trans (hb14.mono (Nat.le_of_lt hl13))
        have hcl := cL (ps + n + g)
        have hpo2 := psOf_at hT14
        have HPO2 := Lib.hid hpo2
        have rel : RelCut tb s w (.int .i64 (longN (s.data.toList.drop (ps + n + g)) : Nat)) w14 := by
          refine ⟨ps + n + g, _, _, by omega, rfl, hT14, hR14, by simp; have := HM.out; omega, ?_, b7⟩
          have e := HCE.out
          have e2 : scanL false ((s.data.toList.drop ps).drop n) (ps + n) = scanW (s.data.toList.drop (ps + n + g)) (ps + n + g) := by
            rw [List.drop_drop, scanL_W, List.drop_drop, ← HGG.out]
          rw [if_neg hn0, e2] at e
          rw [e, List.append_assoc]
          rfl
        have REL := Lib.hid rel
        clear rel hpo2 hT13 hR13 hT14 hR14 hb14 b6 b7 cL cP cR
        obtain ⟨n1, hn1⟩ : ∃ n1, n1 = longN (s.data.toList.drop (ps + n + g)) := ⟨_, rfl⟩
        rw [← hn1] at hcl REL
        clear hn1
        go_wp2_with fail
        refine (hcl _).mono ?_
        rintro e w15 ⟨rfl, rfl⟩
        go_wp2
        go_roundw
        case rel => exact REL.out
        case measure => rw [HPO.out, HPO2.out]; omega
end Go.Proofs.YtkhklndmbfbnoaaGreatDoor
