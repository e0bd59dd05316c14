/- LexJoin: its first loop: lists of words' texts, and with one text more. -/
import Derived.Test.YtkpiaenpjnajiaaGreatDoorLJ2
namespace Go.Proofs.YtkpiaenpjnajiaaGreatDoor
open Go.ChangeShapes Go.WideShapes Go.ChangeAt Go.RowKit Go.Joins Go.Deep
set_option linter.unusedVariables false

theorem rowL_grown {w w' : World} {base n base' n' : Nat} {v v' : Value} {xs xs' : List Value} (h : w.ownsRow base 22 1 v n xs) (hs : w.ownsRow base' 9 1 v' n' xs') (hg : w.grownBy w' v'.ownBlock) : w'.ownsRow base 22 1 v n xs := by
  obtain ⟨hl, ⟨rfl, h0⟩ | ⟨g, cap, cur, rfl, hbb, hgg, hn, hm, hc, hx⟩⟩ := h
  · exact ⟨hl, Or.inl ⟨rfl, h0⟩⟩
  · refine ⟨hl, Or.inr ⟨g, cap, cur, rfl, hbb, ?_, hn, hm, hc, hx⟩⟩
    refine (hg.block g (heap_lt hgg) (fun e => ?_)).trans hgg
    obtain ⟨hl2, ⟨rfl, h02⟩ | ⟨g2, cap2, cur2, rfl, hbb2, hg2, hn2, hm2, hc2, hx2⟩⟩ := hs
    · cases e
    · simp [Value.ownBlock] at e
      subst e
      rw [hgg] at hg2
      injection hg2 with hg2
      injection hg2 with h1 h2 h3
      exact absurd h2 (by decide)
theorem keepS_own {w w' : World} {base n : Nat} {v : Value} {xs : List Value} (hg : w.grownBy w' v.ownBlock) (h : w.ownsRow base 9 1 v n xs) (hB : ∀ g cs fr, w.heap[g]? = some (.cells cs 9 fr) → g < base → w'.heap[g]? = some (.cells cs 9 fr)) : True := trivial
/-- a list that lies ahead of an own row of texts is as it was behind an append to that row -/
theorem ListAt.grown {w w' : World} {base n : Nat} {v u : Value} {xs : List Value} {L : List Txt} (hL : ListAt w u L) (hlt : ∀ g n c, u = .slice (some ⟨g, 0, none⟩) n c → 0 < n → g < base) (h : w.ownsRow base 9 1 v n xs) (hg : w.grownBy w' v.ownBlock) : ListAt w' u L := by
  obtain ⟨q, cap, rfl, hl, hx, hc⟩ := hL
  refine ⟨q, cap, rfl, hl, hx, fun hp => ?_⟩
  obtain ⟨g, cs, fr, rfl, hh, hcell⟩ := hc hp
  have hgb := hlt g L.length cap rfl hp
  refine ⟨g, cs, fr, rfl, (hg.block g (heap_lt hh) (fun e => ?_)).trans hh, hcell⟩
  have := own_geT h e.symm
  omega
theorem ListAt.lt {w : World} {u : Value} {L : List Txt} (hL : ListAt w u L) : ∀ g n c, u = .slice (some ⟨g, 0, none⟩) n c → 0 < n → g < w.heap.size := by
  intro g n c hu hn
  obtain ⟨q, cap, rfl, hl, hx, hc⟩ := hL
  injection hu with e1 e2 e3
  subst e2
  obtain ⟨g', cs, fr, rfl, hh, _⟩ := hc hn
  have := heap_lt hh
  injection e1 with e1
  injection e1 with e1
  omega
/-- the frame where loop 1 stands -/
def Fr1 (t : Array Value) (B : Nat) : Prop := t.size = 184 ∧ sl t 1 = .pointer (some ⟨B, 0, none⟩)
def State1 (B m : Nat) (v3 : Value) (pS pN : Option Addr) (lS cS lN cN : Nat) (w0 wr : World) : Prop :=
  ∃ LL, RowL (B + 1) LL v3 wr ∧ AllAt wr LL ∧ LL.length = m ∧ At wr B #[.slice pS lS cS, .slice pN lN cN] 25 ∧ Below B w0 wr
def Rel1 (B : Nat) (pS pN : Option Addr) (lS cS lN cN : Nat) (w0 : World) (n : Nat) (a : Act) (wr : World) : Prop :=
  ∃ t i z v3, a = ⟨t, []⟩ ∧ Fr1 t B ∧ sl t 3 = v3 ∧ sl t 4 = .int .i64 z ∧ z = (i : Nat) ∧ i ≤ lS ∧ i + n = 8 ∧ State1 B (2 * i) v3 pS pN lS cS lN cN w0 wr
set_option maxRecDepth 1000000 in
set_option maxHeartbeats 12800000 in
theorem jloop1 (B : Nat) (pS pN : Option Addr) (lS cS lN cN : Nat) (zs : List ByteArray) (w0 w1 : World) (hB : B = w0.heap.size) (hI : InTxts w0 pS lS zs) (hs7 : ∀ i, (zs.getD i bz).size ≤ 7000) (hX : At w1 B #[.slice pS lS cS, .slice pN lN cN] 25) (hb0 : Below B w0 w1)
    (t : Array Value) (hF : Fr1 t B) (f3 : sl t 3 = .slice none 0 0) (f4 : sl t 4 = .int .i64 0) (Q : Exit → Act → World → Prop)
    (hQ : ∀ t w' v3 m, Fr1 t B → sl t 3 = v3 → m ≤ 16 → State1 B m v3 pS pN lS cS lN cN w0 w' → Q (.exit 0) ⟨t, []⟩ w') :
    (Code.loop jBody1).wp Tryz.prog (NoPanic Q) ⟨t, []⟩ w1 := by
  refine wp_loop_ghost_k (Rel1 B pS pN lS cS lN cN w0) 8 ⟨t, 0, 0, _, rfl, hF, f3, f4, rfl, Nat.zero_le _, rfl, [], RowL.nil _ _, fun p hp => by simp at hp, rfl, hX, hb0⟩ ?_
  have HBB := Lib.hid hB
  clear hF f3 f4 hX hb0 hB
  intro n a wr hR iK iJv hJ hK
  clear t
  obtain ⟨t, i, z, v3, rfl, ⟨f0, f1⟩, f3, f4, rfl, hil, hin, LL, hRL, hAll, hLL, hX, hb⟩ := hR
  rw [open_184 t f0]
  simp only [f1, f3, f4]
  clear f0 f1 f3 f4
  conv => arg 2; whnf
  have x0 : wr.cell? ⟨B, 0, none⟩ = some (.slice pS lS cS) := hX.cell 0 rfl
  by_cases hi1 : i < lS
  · have u1 : decide ((i : Int) < (lS : Int)) = true := by simp; omega
    by_cases hi2 : i < 8
    · have u2 : decide ((i : Int) < 8) = true := by simp; omega
      have hIr := hI.below (by rw [← HBB.out]; exact hb)
      obtain ⟨b, off, rfl, hbb, hcell⟩ := hIr.2.2 (by omega)
      have ci := hcell i hi1
      have hsz := hs7 i
      clear hcell hIr hQ
      generalize zs.getD i bz = x at *
      have cR := fun w => rWords_any x (by omega) w
      have hTl := tellW_len x.data.toList
      have hTx := tellW_text x.data.toList
      rw [len_text] at hTx
      unfold RWordsPost at cR
      generalize tellW x.data.toList = tw at *
      obtain ⟨T, at0, er⟩ := tw
      dsimp only at cR hTl hTx
      go_wp2_with fail
      refine (cR _).mono ?_
      rintro e w2 ⟨fd, rfl, hR2, hb2⟩
      have c2 := cell_below ci hb2
      have y2 := cell_below x0 hb2
      have k2 := hR2.toks (by omega)
      have hRL2 : RowL (B + 1) LL v3 w2 := ownsRow_belowT hRL hb2
      have hAll2 := hAll.below hb2
      have hX2 := At.below' hb2 hX
      have bb2 := hb.trans (hb2.mono (Nat.le_of_lt hX.lt))
      obtain ⟨q5, c5, hfd5⟩ : ∃ q cap, fd = .slice q T.length cap := by
        obtain ⟨q, cap, h, _⟩ := k2
        exact ⟨q, cap, h⟩
      subst hfd5
      obtain ⟨nT, hnT⟩ : ∃ nT, nT = T.length := ⟨_, rfl⟩
      rw [← hnT] at k2 ⊢
      have HNT := Lib.hid hnT
      clear hnT cR x0 ci hR2 hb2 hRL hAll hX hb
      go_wp2_with fail
      refine noPanic_mono (jloop2 B v3 (.int .i64 (i : Nat)) q5 nT c5 T w2 HNT.out k2 (fun t ht => Nat.le_trans (hTx t ht) hsz) _ ⟨rfl, rfl, rfl, rfl, rfl⟩ rfl rfl _ ?_)
      intro t2 w3 v8 hF hv8 hRS hb3
      obtain ⟨f0, f1, f3, f4, f5⟩ := hF
      rw [open_184 t2 f0]
      simp only [f1, f3, f4, f5, hv8]
      clear f0 f1 f3 f4 f5 hv8 k2
      have c3 := cell_below c2 hb3
      have y3 := cell_below y2 hb3
      have hRL3 : RowL (B + 1) LL v3 w3 := ownsRow_belowT hRL2 hb3
      have hAll3 := hAll2.below hb3
      have hX3 := At.below' hb3 hX2
      have bb3 := bb2.trans (hb3.mono (Nat.le_of_lt hX2.lt))
      have hKl : ((T.map (·.1)).take 60).length ≤ 60 := by rw [List.length_take]; omega
      have hKx : ∀ y ∈ (T.map (·.1)).take 60, y.length ≤ 7000 := fun y hy => by
        obtain ⟨t, ht, rfl⟩ := List.mem_map.1 (List.mem_of_mem_take hy)
        exact Nat.le_trans (hTx t ht) hsz
      generalize (T.map (·.1)).take 60 = K at *
      have hK8 := hRS.list (by omega) hKx
      have hKlt := hK8.lt
      clear c2 y2 hRL2 hAll2 hX2 bb2 hb3 hTx hTl hRS
      obtain ⟨q8, c8, hv8⟩ : ∃ q cap, v8 = .slice q K.length cap := by
        obtain ⟨q, cap, h, _⟩ := hK8
        exact ⟨q, cap, h⟩
      subst hv8
      obtain ⟨n8, hn8⟩ : ∃ n8, n8 = K.length := ⟨_, rfl⟩
      obtain ⟨q3, m3, c3s, hv3, hm3⟩ : ∃ q m c, v3 = .slice q m c ∧ m = LL.length := by
        rcases hRL3.2 with ⟨h0, h1⟩ | ⟨g, cap, cur, h0, _⟩
        · exact ⟨none, 0, 0, h0, h1.symm⟩
        · exact ⟨_, _, _, h0, rfl⟩
      subst hv3
      rw [← hn8] at hK8 hKlt hKl ⊢
      unfold RowL at hRL3
      rw [← hm3] at hRL3
      rw [← hm3] at hLL
      have HN8 := Lib.hid hn8
      have HM3 := Lib.hid hm3
      have HLL := Lib.hid hLL
      have hm16 : m3 ≤ 14 := by omega
      clear hn8 hm3 hLL
      go_wp2_with fail
      go_upto_region 13 with (fail)
      have y3d : w3.drew.cell? ⟨B, 0, none⟩ = some (.slice (some ⟨b, off, none⟩) lS cS) := y3
      have c3d : w3.drew.cell? ⟨b, off + i, none⟩ = some (.string x) := c3
      have hK8d : ListAt w3.drew (.slice q8 n8 c8) K := hK8
      have cC := copyS_any q8 n8 c8 K w3.drew hK8d
      have hbA : Below w3.heap.size w3 (w3.alloc (.cells #[.string x] 9)) := (Below.refl _ _).alloc (Nat.le_refl _) _
      have hK8a : ListAt (w3.alloc (.cells #[.string x] 9)).drew (.slice q8 n8 c8) K := show ListAt (w3.alloc (.cells #[.string x] 9)) (.slice q8 n8 c8) K from hK8.below hbA
      have cCa := copyS_any q8 n8 c8 K (w3.alloc (.cells #[.string x] 9)).drew hK8a
      have cxa : (w3.alloc (.cells #[.string x] 9)).drew.cell? ⟨w3.heap.size, 0, none⟩ = some (.string x) := (At.new w3 #[.string x] 9).cell 0 rfl
      obtain ⟨i0, hi0, hz0, hz1, hz2⟩ := info_parts info_str
      obtain ⟨j0, hj0, hy0, hy1, hy2⟩ := info_parts info_ls
      have hm1 : n8 + 1 ≤ maxLen := by unfold maxLen; omega
      have hm2 : (n8 + 1) * 16 ≤ 140737488355328 := by omega
      have hm3a : m3 + 2 ≤ maxLen := by unfold maxLen; omega
      have hm4 : (m3 + 2) * 24 ≤ 140737488355328 := by omega
      have HK8 := Lib.hid hK8
      have HRL := Lib.hid hRL3
      have HAL := Lib.hid hAll3
      have HX := Lib.hid hX3
      have HB3 := Lib.hid bb3
      have HKX := Lib.hid hKx
      have HCXA := Lib.hid cxa
      have hi3 : (i : Int) < (lS : Int) := by omega
      have hs3 : B + 1 ≤ w3.heap.size := hX3.lt
      clear hK8 hK8d hK8a hRL3 hAll3 hX3 bb3 hKx hKlt cxa
      go_region_law
        ((first
          | (go_simp; refine cC.mono ?_; rintro e w4 ⟨v4, rfl, hR4, hb4⟩
             obtain ⟨q4, c4, rfl⟩ : ∃ q cc, v4 = .slice q n8 cc := by
               rcases hR4.2 with ⟨h0, h1⟩ | ⟨g, cap, cur, h0, _⟩
               · exact ⟨none, 0, by rw [h0, HN8.out, h1]⟩
               · exact ⟨_, _, by rw [h0, HN8.out]⟩
             have y4 := cell_below y3d hb4
             have c4x := cell_below c3d hb4
             unfold RowS at hR4
             rw [← HN8.out] at hR4
             have hb4w : Below w3.heap.size w3 w4 := (Below.refl w3.heap.size w3).drew.trans hb4
             have hown := (ownsRow_less hR4 (show w3.heap.size ≤ w3.drew.heap.size from Nat.le_refl _)).alloc (.cells #[.string x] 9)
             have HB4 := Lib.hid (hb4w.alloc hb4w.size (.cells #[.string x] 9))
             have HOW := Lib.hid hown
             have hs4 : w3.heap.size ≤ w4.heap.size := hb4w.size
             clear hR4 hown hb4 hb4w)
          | (go_simp; refine cCa.mono ?_; rintro e w4 ⟨v4, rfl, hR4, hb4⟩
             obtain ⟨q4, c4, rfl⟩ : ∃ q cc, v4 = .slice q n8 cc := by
               rcases hR4.2 with ⟨h0, h1⟩ | ⟨g, cap, cur, h0, _⟩
               · exact ⟨none, 0, by rw [h0, HN8.out, h1]⟩
               · exact ⟨_, _, by rw [h0, HN8.out]⟩
             have cx4 := cell_below HCXA.out hb4
             unfold RowS at hR4
             rw [← HN8.out] at hR4
             have hb4w : Below w3.heap.size w3 w4 := ((Below.refl w3.heap.size w3).alloc (Nat.le_refl _) (.cells #[.string x] 9)).drew.trans (hb4.mono (by simp))
             have hown := ownsRow_less hR4 (show w3.heap.size ≤ (w3.alloc (.cells #[.string x] 9)).drew.heap.size by simp)
             have HB4b := Lib.hid hb4w
             have HOWb := Lib.hid hown
             have hs4 : w3.heap.size ≤ w4.heap.size := hb4w.size
             have hnews : ∀ j u, [Value.string x][j]? = some u → w4.cell? ((⟨w3.heap.size, 0, none⟩ : Addr).add j) = some u := fun j u hj => by
               match j, hj with
               | 0, hj => simp at hj; subst hj; exact cx4
             have HNW := Lib.hid hnews
             clear hR4 hown hb4 hb4w cx4 hnews)
          | (refine step_append_lies _ (by rfl) _ _ 22 (by rfl) w3.heap.size 9 i0 _ 1 16 Tryz.underlying22 hi0 hz0 hz1 hz2 rfl (by omega) (.slice q4 n8 c4) n8 (K.map strV) (by rfl) HOW.out ⟨w4.heap.size, 0, none⟩ 1 1 [.string x] (by rfl) (by rfl) (World.news_of_block (cs := #[.string x]) (t := 9) (fr := (0, 0)) (heap_alloc_new w4 _)) (by simp [Value.oneCell']) (by omega) hm1 hm2 (by simp; omega) (w4.heap.size + 1) (by simp) ?_; intro g5 c5x w5 hown5 hgrow5 hat5 hlt5
             have hb5 : Below w3.heap.size w3 w5 := HB4.out.grown hgrow5 (by simp; omega) (fun k hk => own_geT HOW.out hk)
             have hL6 := (ownsRow_belowT HRL.out hb5).alloc (.cells #[.slice q8 n8 c8, .slice (some ⟨g5, 0, none⟩) (n8 + 1) c5x] 22)
             have hs5 : B + 1 ≤ w5.heap.size := Nat.le_trans hs3 hb5.size
             have HL6 := Lib.hid hL6
             have HO5 := Lib.hid hown5
             have HB5 := Lib.hid hb5
             clear hown5 hgrow5 hat5 hlt5 hL6 hb5)
          | (refine step_append_lies _ (by rfl) _ _ 22 (by rfl) w3.heap.size 9 i0 _ 1 16 Tryz.underlying22 hi0 hz0 hz1 hz2 rfl (by omega) (.slice q4 n8 c4) n8 (K.map strV) (by rfl) HOWb.out ⟨w3.heap.size, 0, none⟩ 1 1 [.string x] (by rfl) (by rfl) HNW.out (by simp [Value.oneCell']) (by omega) hm1 hm2 hs4 w4.heap.size rfl ?_; intro g5 c5x w5 hown5 hgrow5 hat5 hlt5
             have hb5 : Below w3.heap.size w3 w5 := HB4b.out.grown hgrow5 hs4 (fun k hk => own_geT HOWb.out hk)
             have hL6 := (ownsRow_belowT HRL.out hb5).alloc (.cells #[.slice q8 n8 c8, .slice (some ⟨g5, 0, none⟩) (n8 + 1) c5x] 22)
             have hs5 : B + 1 ≤ w5.heap.size := Nat.le_trans hs3 hb5.size
             have HL6 := Lib.hid hL6
             have HO5 := Lib.hid hown5
             have HB5 := Lib.hid hb5
             clear hown5 hgrow5 hat5 hlt5 hL6 hb5)
          | (refine step_append_lies _ (by rfl) _ _ 44 (by rfl) (B + 1) 22 j0 _ 1 24 Tryz.underlying44 hj0 hy0 hy1 hy2 rfl (by omega) (.slice q3 m3 c3s) m3 (LL.map (·.1)) (by rfl) HL6.out ⟨w5.heap.size, 0, none⟩ 2 2 [.slice q8 n8 c8, .slice (some ⟨g5, 0, none⟩) (n8 + 1) c5x] (by rfl) (by rfl) (World.news_of_block (cs := #[.slice q8 n8 c8, .slice (some ⟨g5, 0, none⟩) (n8 + 1) c5x]) (t := 22) (fr := (0, 0)) (heap_alloc_new w5 _)) (by simp [Value.oneCell']) (by omega) hm3a hm4 (by simp; exact Nat.le_of_succ_le hs5) (w5.heap.size + 1) (by simp) ?_; intro g6 c6x w6 hown6 hgrow6 hat6 hlt6
             have HO6 := Lib.hid hown6
             have HG6 := Lib.hid hgrow6
             clear hown6 hgrow6 hat6 hlt6)))
      all_goals
        have st : State1 B (2 * (i + 1)) (.slice (some ⟨g6, 0, none⟩) (m3 + 2) c6x) (some ⟨b, off, none⟩) pN lS cS lN cN w0 w6 := by
          have hks : KeepS w5 w6 := (KeepS.of_below ((Below.refl _ _).alloc (Nat.le_refl _) (.cells #[.slice q8 n8 c8, .slice (some ⟨g5, 0, none⟩) (n8 + 1) c5x] 22))).trans (keepS_grown HL6.out HG6.out)
          have h5 : ListAt w5 (.slice (some ⟨g5, 0, none⟩) (n8 + 1) c5x) (K ++ [x.data.toList]) := by
            refine RowS.list (base := w3.heap.size) ?_ ?_ ?_
            · unfold RowS
              rw [List.map_append, List.length_append, ← HN8.out]
              exact HO5.out
            · rw [List.length_append, ← HN8.out]; simp; omega
            · intro y hy
              rcases List.mem_append.1 hy with hy | hy
              · exact HKX.out y hy
              · have e := List.mem_singleton.1 hy
                subst e
                rw [len_text]; exact hsz
          refine ⟨LL ++ [(.slice q8 n8 c8, K), (.slice (some ⟨g5, 0, none⟩) (n8 + 1) c5x, K ++ [x.data.toList])], ?_, ?_, ?_, ?_, ?_⟩
          · unfold RowL
            rw [List.map_append, List.length_append, ← HM3.out]
            exact HO6.out
          · intro p hp
            rcases List.mem_append.1 hp with hp | hp
            · exact ((HAL.out p hp).below HB5.out).keep hks
            · simp only [List.mem_cons, List.not_mem_nil, or_false] at hp
              rcases hp with rfl | rfl
              · exact (HK8.out.below HB5.out).keep hks
              · exact h5.keep hks
          · rw [List.length_append, ← HM3.out, HLL.out]; simp; omega
          · exact At.grownT ((At.below' HB5.out HX.out).alloc _) HG6.out (fun e => by have := own_geT HL6.out e; omega)
          · exact ((HB3.out.trans (HB5.out.mono (Nat.le_of_succ_le hs3))).alloc (Nat.le_of_succ_le hs5) _).grown HG6.out (by simp; omega) (fun k hk => by have := own_geT HL6.out hk; omega)
        have ST := Lib.hid st
        clear st HL6 HO5 HB5 HO6 HG6 HAL HK8 HX HB3 HRL cC cCa y3d c3d hi0 hz0 hz1 hz2 hj0 hy0 hy1 hy2 hbA c3 y3
        go_wp2_with fail
        refine Handed.intro (n - 1) (by omega) (hJ _ _ _ ⟨_, i + 1, _, _, rfl, ⟨rfl, rfl⟩, rfl, rfl, by omega, by omega, by omega, ST.out⟩)
    · obtain rfl : i = 8 := by omega
      have u2 : decide (((8 : Nat) : Int) < 8) = false := by simp
      clear hJ
      go_wp2_with fail
      exact hQ _ _ _ _ ⟨rfl, rfl⟩ rfl (by omega) ⟨LL, hRL, hAll, hLL, hX, hb⟩
  · have u1 : decide ((i : Int) < (lS : Int)) = false := by simp; omega
    clear hJ
    go_wp2_with fail
    exact hQ _ _ _ _ ⟨rfl, rfl⟩ rfl (by omega) ⟨LL, hRL, hAll, hLL, hX, hb⟩
end Go.Proofs.YtkpiaenpjnajiaaGreatDoor
