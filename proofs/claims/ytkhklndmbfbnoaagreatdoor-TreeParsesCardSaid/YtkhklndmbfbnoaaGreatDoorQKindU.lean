/- The document's parser: a type. -/
import Derived.Test.YtkhklndmbfbnoaaGreatDoorQKind
namespace Go.Proofs.YtkhklndmbfbnoaaGreatDoor
open Go.ChangeShapes Go.WideShapes Go.ChangeAt Go.RowKit Go.Joins Go.Deep
set_option linter.unusedVariables false

set_option maxRecDepth 100000 in
set_option maxHeartbeats 6400000 in
theorem kindQ_union {n Bx : Nat} {c : Ctx} {fd : Value} {W : List (Tx × Nat)} {en rb : Nat} {g : Option Nat} {s : RS} (hBx : Bx ≤ 900) (ty : RS → Int × RS) (hF : Fng W n ty) (htb : ∀ s, Inv W s → s.bad ≠ none → ∃ v, ty s = (v, s)) (HQ : ∀ (c : Ctx) s g w, s.bad = none → s.ar ≤ 21 → Dp n s → PdAt c fd W en w rb g Bx s → Calls Tryz.prog 32 #[.pointer (some ⟨rb, 0, none⟩)] w (RQ c fd W en rb g Bx (ty s) w)) (hg : s.bad = none) (h20 : s.ar < 20) (hd : Dp n (enterR W en s)) (w : World) (h : PdAt c fd W en w rb g Bx s) (hw : wdR W (enterR W en s) = [117, 110, 105, 111, 110]) : Calls Tryz.prog 32 #[.pointer (some ⟨rb, 0, none⟩)] w (RQ c fd W en rb g (Bx + 12) (typeB W en ty s) w) := by
  have hB : typeB W en ty s = ((typeI W en ty (enterR W en s)).1, leaveR (typeI W en ty (enterR W en s)).2) := rfl
  rw [hB]
  have cI := rin_ok w h hg h20
  unfold NQ at cI
  have h1a : 1 ≤ (enterR W en s).ar := by unfold enterR; rw [if_neg (by omega)]; show 1 ≤ s.ar + 1; omega
  have hga : (enterR W en s).bad = none := by unfold enterR; rw [if_neg (by omega)]; exact hg
  have hlt0 := h.lt
  have helder := h.held
  clear h hg h20 hB
  generalize enterR W en s = sa at *
  go_enter Tryz.func32, Tryz.ntmps32
  go_wp2_with fail
  refine cI.mono ?_
  rintro e w0 ⟨rfl, h0, O0⟩
  clear cI
  have K0 := Ok.refl h0.inv hd
  have t0 := Trn.of (g := g) O0
  clear O0 hd
  go_wp2_with fail
  refine (rsee_any _ h0).mono ?_
  rintro e w1 ⟨l, rfl, hl, _, _, hbw⟩
  obtain rfl := hl hga
  have h1 := h0.grow hbw
  have t1 := t0.trans (Trn.of (h0.onl hbw))
  have K1 := K0
  clear t0 hbw hl
  have q0 : (wdR W sa == [115, 116, 114, 117, 99, 116]) = false := by rw [hw]; decide
  have q1 : (wdR W sa == [117, 110, 105, 111, 110]) = true := by rw [hw]; decide
  go_upto_if 19 with (fail)
  go_cut [3] from 10 to 138 (fun v wx => RelPf c fd W en rb (Bx + 8) g (plainTypeR W en ty sa) w v wx)
  case first =>
    have hne : wdR W sa ≠ [] := by rw [hw]; decide
    have EQ := Lib.hid (show plainTypeR W en ty sa = nodeR W ⟨6, [], 0, (fieldsL W en ty (W.length + 1) [(namedR W en ty 7 (needWR W en [123] (passR sa))).1] (namedR W en ty 7 (needWR W en [123] (passR sa))).2).1⟩ (needWR W en [125] (fieldsL W en ty (W.length + 1) [(namedR W en ty 7 (needWR W en [123] (passR sa))).1] (namedR W en ty 7 (needWR W en [123] (passR sa))).2).2) from by unfold plainTypeR; rw [if_neg (by rw [hw]; decide), if_pos hw]; rfl)
    clear hw
    obtain ⟨k, nv, hA, hk, _⟩ := h1.cells
    obtain rfl := hk hga
    have hWl : W.length ≤ 1000000 := by obtain ⟨_, _, _, hl, _⟩ := h1.toks; exact hl
    have hlt := wdR_lt hne
    have hk1 : sa.k ≤ 1000000 := by omega
    have c2 : w1.cell? ⟨rb, 2, none⟩ = some (.int .i64 (sa.k : Nat)) := hA.cell 2 rfl
    have f2 := At.free hA 2
    have h2 := h1.bumpG hga hlt
    have t2 := t1.trans (Trn.of ((Onl.refl rb w1).set 2 (.int .i64 ((sa.k : Int) + 1))))
    have K2 := K1.pass hne
    have HX := Lib.hid (And.intro h2 t2)
    generalize hKK : sa.k = kk at c2 hk1 HX
    clear hA hk hWl hlt h2 t2 t1 hKK
    go_wp2_with fail
    obtain ⟨h2, t2⟩ := HX.out
    clear HX c2 f2 hk1
    refine (rtakes_any ⟨#[123]⟩ (by decide) _ h2).mono ?_
    rintro e w3 ⟨rfl, h3, O3⟩
    have t3 := t2.trans (Trn.of O3)
    have K3 := K2.needW (en := en) (x := [123]) (by decide)
    clear t2 O3
    have h3 : PdAt c fd W en w3 rb g Bx (needWR W en [123] (passR sa)) := h3
    have X4 : PdX c fd W en rb Bx g w w3.heap.size (.int .i64 6) (.string ⟨#[]⟩) (.int .i64 0) (.slice none 0 0) g (needWR W en [123] (passR sa)) (w3.alloc (.cells #[.int .i64 6, .string ⟨#[]⟩, .int .i64 0, .slice none 0 0] 83)) := PdX.fresh h3 t3 hlt0 _ _ _ _
    have K4 := K3
    have hIS := h3.inv
    clear h3 t3
    go_wp2_with fail
    have hB0 : PdB c fd W en rb Bx g w w3.heap.size (.int .i64 6) (.string ⟨#[]⟩) (.int .i64 0) (.slice none 0 0) [] g (needWR W en [123] (passR sa)) (w3.alloc (.cells #[.int .i64 6, .string ⟨#[]⟩, .int .i64 0, .slice none 0 0] 83)) := PdB.empty X4 helder
    go_loopw [7] (fun v wr => RelFq c fd W en rb (Bx + 2) n ty g w w3.heap.size 6 sa (fieldsL W en ty (W.length + 1) [(namedR W en ty 7 (needWR W en [123] (passR sa))).1] (namedR W en ty 7 (needWR W en [123] (passR sa))).2) v wr) (fun _ wr => mOf W.length rb wr)
    case atStart => exact ⟨[], g, _, _, hB0.more (by omega) (by omega), K4.less (by omega) (by omega), FldEnd.start htb hIS, fun _ => Nat.zero_le _⟩
    case round =>
      clear hB0 X4 K4 hIS
      obtain ⟨l, g1, s1, V, hB, KR, hE, hlk⟩ := hrel
      have HMO := Lib.hid (mOf_at hB.pd)
      have K0 := Ok.refl hB.pd.inv KR.2.2.2
      have hWL : W.length ≤ 1000000 := by obtain ⟨_, _, _, h, _⟩ := hB.pd.toks; exact h
      obtain ⟨q, cc, rfl⟩ := hB.row.form
      obtain ⟨m, hm⟩ : ∃ m, m = l.length := ⟨_, rfl⟩
      rw [← hm] at hB hlk
      have HM := Lib.hid hm
      by_cases hb : s1.bad = none
      · have X0 := hB.callO (hB.pd.anyB (B' := Bx) hb (by omega)) (Onl.refl rb wr)
        have hkW := hB.pd.inv.1
        have hlk1 := hlk hb
        have hm1 : m + 1 ≤ maxLen := by unfold maxLen; omega
        have hm2 : (m + 1) * 8 ≤ 140737488355328 := by omega
        have KN := named_ok (en := en) hF 7 K0
        have HK0 := Lib.hid K0.1
        have HLK := Lib.hid hlk
        have HKN := Lib.hid ((KR.call KN).less (c' := 2) (d' := 0) (by omega) (by omega))
        have HKK : Hid ((namedR W en ty 7 s1).2.bad = none → s1.k < (namedR W en ty 7 s1).2.k) := Lib.hid fun hg => by have := (KN.2.2.1.2 hg).2.2; omega
        have HTN := fun hw => hE.turn htb K0.1 KN.2.1 HKK.out hb hw
        have HEE := Lib.hid hE
        have HTX := Lib.hid HTN
        clear hlk hE hB KN HTN hkW hlk1
        have c6 : wr.cell? ⟨rb, 6, none⟩ = some (.int .i64 0) := by have := X0.pd.err; rw [hb] at this; exact this
        have c3r := X0.box.cell 3 rfl
        by_cases hl : l = []
        · have ql : ((m : Int) == 0) = true := by rw [hm, hl]; rfl
          have HTn := Lib.hid (HTX.out (Or.inl hl))
          clear hl hm
          go_wp2_with fail
          clear c6 c3r
          refine (rtakesName_any (B := Bx) (by omega) _ X0.pd).mono ?_
          rintro e w1x ⟨v1, rfl, hv1, h, O⟩
          have X1 : PdB c fd W en rb (Bx + 1) g w w3.heap.size (.int .i64 6) (.string ⟨#[]⟩) (.int .i64 0) (.slice q m cc) l g1 (needR W en nameB s1).2 w1x := X0.callO h O
          have K1 := K0.need (en := en) (p := nameB) (by decide)
          clear h O X0
          go_wp2_with fail
          refine (rtakes_any ⟨#[58]⟩ (by decide) _ X1.pd).mono ?_
          rintro e w2x ⟨rfl, h, O⟩
          have X2 : PdB c fd W en rb (Bx + 1) g w w3.heap.size (.int .i64 6) (.string ⟨#[]⟩) (.int .i64 0) (.slice q m cc) l g1 (needWR W en [58] (needR W en nameB s1).2) w2x := X1.callO h O
          have K2 := K1.needW (en := en) (x := [58]) (by decide)
          clear h O X1
          by_cases hb2 : (needWR W en [58] (needR W en nameB s1).2).bad = none
          · have hK2 := K2.2.2.2
            have c6 : w2x.cell? ⟨rb, 6, none⟩ = some (.int .i64 0) := by have := X2.pd.err; rw [hb2] at this; exact this
            go_wp2_with fail
            clear c6
            refine (HQ _ (needWR W en [58] (needR W en nameB s1).2) g1 _ hb2 (Nat.le_succ_of_le (hK2 hb2).2) hK2 (X2.pd.anyB (B' := Bx) hb2 (by omega))).mono ?_
            rintro e w3x ⟨g3, v3, rfl, hv3, h, O⟩
            have X3 : PdB c fd W en rb Bx g w w3.heap.size (.int .i64 6) (.string ⟨#[]⟩) (.int .i64 0) (.slice q m cc) l g3 (ty (needWR W en [58] (needR W en nameB s1).2)).2 w3x := X2.callT h O
            have K3 := K2.fn hF
            clear h O X2
            clear hK2
            go_wp2_with fail
            refine (rtakes_any ⟨#[59]⟩ (by decide) _ X3.pd).mono ?_
            rintro e w4x ⟨rfl, h, O⟩
            have X4 : PdB c fd W en rb Bx g w w3.heap.size (.int .i64 6) (.string ⟨#[]⟩) (.int .i64 0) (.slice q m cc) l g3 (needWR W en [59] (ty (needWR W en [58] (needR W en nameB s1).2)).2) w4x := X3.callO h O
            have K4 := K3.needW (en := en) (x := [59]) (by decide)
            clear h O X3
            by_cases hb3 : (needWR W en [59] (ty (needWR W en [58] (needR W en nameB s1).2)).2).bad = none
            · have hy1 := needR_good (p := fun y => y == [59]) hb3
              have hy0 := needR_good (p := fun y => y == [58]) hb2
              obtain rfl := hv3 hy1
              obtain rfl := hv1 hy0
              have c6 : w4x.cell? ⟨rb, 6, none⟩ = some (.int .i64 0) := by have := X4.pd.err; rw [hb3] at this; exact this
              go_upto_region 18 with (fail)
              clear c6
              obtain ⟨i0, hi0, hz0, hz1, hz2⟩ := info_parts Tryz.infoInt
              have hXy := X4.grow (boxT w4x (.cells #[.int .i64 (ty (needWR W en [58] (needR W en nameB s1).2)).1] 3))
              have hpsy := (ps1_ok (op := 7) (name := (needR W en nameB s1).1) (n := 0) (ty (needWR W en [58] (needR W en nameB s1).2)).1 X4.pd.lt X4.pd.held).keep fun b cs hb => At.drew hb
              have hXd := hXy.grow ((Below.refl (w4x.alloc (.cells #[.int .i64 (ty (needWR W en [58] (needR W en nameB s1).2)).1] 3)).heap.size (w4x.alloc (.cells #[.int .i64 (ty (needWR W en [58] (needR W en nameB s1).2)).1] 3))).drew)
              have c3z : w4x.cell? ⟨w3.heap.size, 3, none⟩ = some (.slice q m cc) := X4.box.cell 3 rfl
              have c3y : (w4x.alloc (.cells #[.int .i64 (ty (needWR W en [58] (needR W en nameB s1).2)).1] 3)).cell? ⟨w3.heap.size, 3, none⟩ = some (.slice q m cc) := hXy.box.cell 3 rfl
              have HB := radd_any ⟨⟨7, (needR W en nameB s1).1, 0, [(ty (needWR W en [58] (needR W en nameB s1).2)).1]⟩, some ⟨w4x.heap.size, 0, none⟩, 1⟩ _ hXd.pd hpsy hb3 (K4.room hb3)
              have HXD := Lib.hid hXd
              clear hXd hXy X4 hpsy
              go_region_law
                ((first
                  | (go_simp; refine HB.mono ?_; rintro e w5q ⟨g5q, v5q, rfl, hv5q, h5q, T5q⟩
                     have X5q := HXD.out.callT h5q T5q
                     have c3a : w5q.cell? ⟨w3.heap.size, 3, none⟩ = some (.slice q m cc) := X5q.box.cell 3 rfl
                     have c3b : (w5q.alloc (.cells #[.int .i64 v5q] 3)).cell? ⟨w3.heap.size, 3, none⟩ = some (.slice q m cc) := (At.alloc X5q.box _).cell 3 rfl
                     have HOW := Lib.hid (ownsRow_belowT (X5q.ownM HM.out) (boxT w5q (.cells #[.int .i64 v5q] 3)))
                     have hsz5 : w.heap.size ≤ w5q.heap.size := X5q.trn.1.size
                     have HX5 := Lib.hid (And.intro hv5q X5q)
                     clear X5q h5q T5q hv5q)
                  | (refine step_append_lies _ (by rfl) _ _ _ (by rfl) w.heap.size 3 i0 _ 1 8 Tryz.underlying23 hi0 hz0 hz1 hz2 rfl (by decide) (.slice q m cc) m (ints l) (by rfl) HOW.out ⟨w5q.heap.size, 0, none⟩ 1 1 [.int .i64 v5q] (by rfl) (by rfl) (World.news_of_block (cs := #[.int .i64 v5q]) (t := 3) (fr := (0, 0)) (heap_alloc_new w5q _)) (by simp [Value.oneCell']) (by omega) hm1 hm2 (by simp; omega) (w5q.heap.size + 1) (by simp) ?_; intro k2q cap2q w8q hown3 hgrow hat hlt3
                     have A8q := HX5.out.2.boxGrown hgrow
                     have c3e : w8q.cell? ⟨w3.heap.size, 3, none⟩ = some (.slice q m cc) := A8q.cell 3 rfl
                     have f3e : w8q.frozen? ⟨w3.heap.size, 3, none⟩ = false := At.free A8q 3
                     have HG := Lib.hid (HX5.out.2.pushM HM.out hown3 hgrow (hat.imp id fun h => h.trans (by show _ = (w5q.heap.push _).size; simp)) hlt3)
                     clear A8q hown3 hgrow hat hlt3)))
              all_goals
                have hv5 := HX5.out.1
                have X5 : PdB c fd W en rb Bx g w w3.heap.size (.int .i64 6) (.string ⟨#[]⟩) (.int .i64 0) (.slice (some ⟨k2q, 0, none⟩) (m + 1) cap2q) (l ++ [v5q]) g5q (nodeR W ⟨7, (needR W en nameB s1).1, 0, [(ty (needWR W en [58] (needR W en nameB s1).2)).1]⟩ (needWR W en [59] (ty (needWR W en [58] (needR W en nameB s1).2)).2)).2 (w8q.setCell ⟨w3.heap.size, 3, none⟩ (.slice (some ⟨k2q, 0, none⟩) (m + 1) cap2q)) := HG.out
                have K5 := K4.node (W := W) ⟨7, (needR W en nameB s1).1, 0, [(ty (needWR W en [58] (needR W en nameB s1).2)).1]⟩
                clear HG HX5 HOW HXD HB c3a c3b c3e f3e c3z c3y hi0 hz0 hz1 hz2 hsz5
                have hN : namedR W en ty 7 s1 = (nodeR W ⟨7, (needR W en nameB s1).1, 0, [(ty (needWR W en [58] (needR W en nameB s1).2)).1]⟩ (needWR W en [59] (ty (needWR W en [58] (needR W en nameB s1).2)).2)) := rfl
                have h1 := HTn.out
                have h2 := HKN.out
                have h3 := HKK.out
                rw [hN] at h1 h2 h3
                have HH := Lib.hid (And.intro h1 (And.intro h2 h3))
                clear h1 h2 h3 hN
                go_wp2_with fail
                go_roundw
                case rel => exact ⟨_, g5q, _, _, X5.more (by omega) (by omega), HH.out.2.1, HH.out.1.swap (fun hg2 => by rw [hv5 hg2]), fun hg2 => by have := HH.out.2.2 hg2; have := HLK.out hb; rw [List.length_append, ← HM.out]; show _ + 1 ≤ _; omega⟩
                case measure => (have h9 := HMO.out; rw [if_pos hb] at h9; have hk0 := HK0.out.1; have hkn := X5.pd.inv.1; rw [h9, mOf_at X5.pd]; split
                                 · rename_i hg2; have := HH.out.2.2 hg2; omega
                                 · omega)
            · have hN : namedR W en ty 7 s1 = (0, (needWR W en [59] (ty (needWR W en [58] (needR W en nameB s1).2)).2)) := nodeR_bad _ hb3
              have c6 := X4.pd.err
              have q6 := bad_err2 X4.pd.inv hb3
              have q7 := bad_err X4.pd.inv hb3
              generalize ((needWR W en [59] (ty (needWR W en [58] (needR W en nameB s1).2)).2).bad.getD (0, 0)).2 = er at c6 q6 q7
              have h1 := HTn.out
              have h2 := HKN.out
              have h3 := HKK.out
              rw [hN] at h1 h2 h3
              have HH := Lib.hid (And.intro h1 (And.intro h2 h3))
              clear h1 h2 h3 hN
              go_wp2_with fail
              go_roundw
              case rel => exact ⟨_, g3, _, _, X4.more (by omega) (by omega), HH.out.2.1, HH.out.1.swap (fun hg2 => absurd hg2 hb3), fun hg2 => absurd hg2 hb3⟩
              case measure => (have h9 := HMO.out; rw [if_pos hb] at h9; have hk0 := HK0.out.1; rw [h9, mOf_at X4.pd, if_neg hb3]; omega)
          · have hiv := X2.pd.inv
            have hN : namedR W en ty 7 s1 = (0, (needWR W en [58] (needR W en nameB s1).2)) := named_bad2 htb 7 rfl hiv hb2
            have c6 := X2.pd.err
            have q6 := bad_err2 X2.pd.inv hb2
            have q7 := bad_err X2.pd.inv hb2
            generalize ((needWR W en [58] (needR W en nameB s1).2).bad.getD (0, 0)).2 = er at c6 q6 q7
            go_wp2_with fail
            clear c6 q6 q7
            refine (rtakes_any ⟨#[59]⟩ (by decide) _ X2.pd).mono ?_
            rintro e w3x ⟨rfl, h, O⟩
            have X3 : PdB c fd W en rb (Bx + 1) g w w3.heap.size (.int .i64 6) (.string ⟨#[]⟩) (.int .i64 0) (.slice q m cc) l g1 (needWR W en [59] (needWR W en [58] (needR W en nameB s1).2)) w3x := X2.callO h O
            have K3 := K2.needW (en := en) (x := [59]) (by decide)
            clear h O X2
            replace X3 : PdB c fd W en rb (Bx + 1) g w w3.heap.size (.int .i64 6) (.string ⟨#[]⟩) (.int .i64 0) (.slice q m cc) l g1 (needWR W en [58] (needR W en nameB s1).2) w3x := by have h := X3; rw [show needWR W en [59] (needWR W en [58] (needR W en nameB s1).2) = (needWR W en [58] (needR W en nameB s1).2) from needW_bad (by decide) hiv hb2] at h; exact h
            have c6 := X3.pd.err
            have q6 := bad_err2 X3.pd.inv hb2
            have q7 := bad_err X3.pd.inv hb2
            generalize ((needWR W en [58] (needR W en nameB s1).2).bad.getD (0, 0)).2 = er at c6 q6 q7
            have h1 := HTn.out
            have h2 := HKN.out
            have h3 := HKK.out
            rw [hN] at h1 h2 h3
            have HH := Lib.hid (And.intro h1 (And.intro h2 h3))
            clear h1 h2 h3 hN
            go_wp2_with fail
            go_roundw
            case rel => exact ⟨_, g1, _, _, X3.more (by omega) (by omega), HH.out.2.1, HH.out.1.swap (fun hg2 => absurd hg2 hb2), fun hg2 => absurd hg2 hb2⟩
            case measure => (have h9 := HMO.out; rw [if_pos hb] at h9; have hk0 := HK0.out.1; rw [h9, mOf_at X3.pd, if_neg hb2]; omega)
        · have ql : ((m : Int) == 0) = false := by rw [beq_eq_false_iff_ne]; intro h; exact hl (List.eq_nil_of_length_eq_zero (by omega))
          have HL := Lib.hid hl
          clear hl hm
          go_wp2_with fail
          clear c6 c3r
          refine (rsee_any _ X0.pd).mono ?_
          rintro e w1x ⟨l1, rfl, hl1, _, _, hb⟩
          have X1 : PdB c fd W en rb Bx g w w3.heap.size (.int .i64 6) (.string ⟨#[]⟩) (.int .i64 0) (.slice q m cc) l g1 s1 w1x := X0.grow hb
          have K1 := K0
          clear hb X0
          obtain rfl := hl1 hb
          by_cases hw : wdR W s1 = [125]
          · have qw := wq_yes hw
            have hR := HEE.out.good hb HL.out hw
            have hpass : needWR W en [125] s1 = passR s1 := by unfold needWR needR; rw [if_pos (by rw [hw]; rfl)]
            have hb6 : (needWR W en [125] s1).bad = none := by rw [hpass]; exact hb
            clear HTX HEE HKK HKN HLK HK0 HMO KR
            go_wp2_with fail
            refine (rtakes_any ⟨#[125]⟩ (by decide) _ X1.pd).mono ?_
            rintro e w2x ⟨rfl, h, O⟩
            have X2 : PdB c fd W en rb Bx g w w3.heap.size (.int .i64 6) (.string ⟨#[]⟩) (.int .i64 0) (.slice q m cc) l g1 (needWR W en [125] s1) w2x := X1.callO h O
            have K2 := K1.needW (en := en) (x := [125]) (by decide)
            clear h O X1
            have hml := HM.out
            obtain ⟨hXo, hps⟩ := X2.out 6 [] 0
            have X3 : PdX c fd W en rb Bx g w w3.heap.size (.int .i64 6) (.string ⟨#[]⟩) (.int .i64 0) (.slice q m cc) g1 (needWR W en [125] s1) w2x := hXo
            have K3 := K2
            clear hXo X2
            have e0 := X3.box.cell 0 rfl
            have e1 := X3.box.cell 1 rfl
            have e2 := X3.box.cell 2 rfl
            have e3 := X3.box.cell 3 rfl
            have c6 : w2x.cell? ⟨rb, 6, none⟩ = some (.int .i64 0) := by have := X3.pd.err; rw [hb6] at this; exact this
            go_wp2_with fail
            clear c6 e0 e1 e2 e3
            refine (radd_any ⟨⟨6, [], 0, l⟩, _, _⟩ _ X3.pd hps hb6 (K3.room hb6)).mono ?_
            rintro e w9 ⟨g9, v9, rfl, hv9, h9, T9⟩
            go_wp2_with fail
            go_meet
            have e9 := EQ.out.trans (by rw [hR])
            exact ⟨v9, g9, rfl, fun h => by rw [e9] at h ⊢; exact hv9 h, by rw [e9]; exact h9.more (by omega) (by omega), X3.trn.trans T9⟩
          · have qw := wq_no hw
            have HTn := Lib.hid (HTX.out (Or.inr hw))
            go_wp2_with fail
            refine (rtakesName_any (B := Bx) (by omega) _ X1.pd).mono ?_
            rintro e w2x ⟨v2, rfl, hv2, h, O⟩
            have X2 : PdB c fd W en rb (Bx + 1) g w w3.heap.size (.int .i64 6) (.string ⟨#[]⟩) (.int .i64 0) (.slice q m cc) l g1 (needR W en nameB s1).2 w2x := X1.callO h O
            have K2 := K1.need (en := en) (p := nameB) (by decide)
            clear h O X1
            go_wp2_with fail
            refine (rtakes_any ⟨#[58]⟩ (by decide) _ X2.pd).mono ?_
            rintro e w3x ⟨rfl, h, O⟩
            have X3 : PdB c fd W en rb (Bx + 1) g w w3.heap.size (.int .i64 6) (.string ⟨#[]⟩) (.int .i64 0) (.slice q m cc) l g1 (needWR W en [58] (needR W en nameB s1).2) w3x := X2.callO h O
            have K3 := K2.needW (en := en) (x := [58]) (by decide)
            clear h O X2
            by_cases hb2 : (needWR W en [58] (needR W en nameB s1).2).bad = none
            · have hK2 := K3.2.2.2
              have c6 : w3x.cell? ⟨rb, 6, none⟩ = some (.int .i64 0) := by have := X3.pd.err; rw [hb2] at this; exact this
              go_wp2_with fail
              clear c6
              refine (HQ _ (needWR W en [58] (needR W en nameB s1).2) g1 _ hb2 (Nat.le_succ_of_le (hK2 hb2).2) hK2 (X3.pd.anyB (B' := Bx) hb2 (by omega))).mono ?_
              rintro e w4x ⟨g4, v4, rfl, hv4, h, O⟩
              have X4 : PdB c fd W en rb Bx g w w3.heap.size (.int .i64 6) (.string ⟨#[]⟩) (.int .i64 0) (.slice q m cc) l g4 (ty (needWR W en [58] (needR W en nameB s1).2)).2 w4x := X3.callT h O
              have K4 := K3.fn hF
              clear h O X3
              clear hK2
              go_wp2_with fail
              refine (rtakes_any ⟨#[59]⟩ (by decide) _ X4.pd).mono ?_
              rintro e w5x ⟨rfl, h, O⟩
              have X5 : PdB c fd W en rb Bx g w w3.heap.size (.int .i64 6) (.string ⟨#[]⟩) (.int .i64 0) (.slice q m cc) l g4 (needWR W en [59] (ty (needWR W en [58] (needR W en nameB s1).2)).2) w5x := X4.callO h O
              have K5 := K4.needW (en := en) (x := [59]) (by decide)
              clear h O X4
              by_cases hb3 : (needWR W en [59] (ty (needWR W en [58] (needR W en nameB s1).2)).2).bad = none
              · have hy1 := needR_good (p := fun y => y == [59]) hb3
                have hy0 := needR_good (p := fun y => y == [58]) hb2
                obtain rfl := hv4 hy1
                obtain rfl := hv2 hy0
                have c6 : w5x.cell? ⟨rb, 6, none⟩ = some (.int .i64 0) := by have := X5.pd.err; rw [hb3] at this; exact this
                go_upto_region 18 with (fail)
                clear c6
                obtain ⟨i0, hi0, hz0, hz1, hz2⟩ := info_parts Tryz.infoInt
                have hXy := X5.grow (boxT w5x (.cells #[.int .i64 (ty (needWR W en [58] (needR W en nameB s1).2)).1] 3))
                have hpsy := (ps1_ok (op := 7) (name := (needR W en nameB s1).1) (n := 0) (ty (needWR W en [58] (needR W en nameB s1).2)).1 X5.pd.lt X5.pd.held).keep fun b cs hb => At.drew hb
                have hXd := hXy.grow ((Below.refl (w5x.alloc (.cells #[.int .i64 (ty (needWR W en [58] (needR W en nameB s1).2)).1] 3)).heap.size (w5x.alloc (.cells #[.int .i64 (ty (needWR W en [58] (needR W en nameB s1).2)).1] 3))).drew)
                have c3z : w5x.cell? ⟨w3.heap.size, 3, none⟩ = some (.slice q m cc) := X5.box.cell 3 rfl
                have c3y : (w5x.alloc (.cells #[.int .i64 (ty (needWR W en [58] (needR W en nameB s1).2)).1] 3)).cell? ⟨w3.heap.size, 3, none⟩ = some (.slice q m cc) := hXy.box.cell 3 rfl
                have HB := radd_any ⟨⟨7, (needR W en nameB s1).1, 0, [(ty (needWR W en [58] (needR W en nameB s1).2)).1]⟩, some ⟨w5x.heap.size, 0, none⟩, 1⟩ _ hXd.pd hpsy hb3 (K5.room hb3)
                have HXD := Lib.hid hXd
                clear hXd hXy X5 hpsy
                go_region_law
                  ((first
                    | (go_simp; refine HB.mono ?_; rintro e w5q ⟨g5q, v5q, rfl, hv5q, h5q, T5q⟩
                       have X5q := HXD.out.callT h5q T5q
                       have c3a : w5q.cell? ⟨w3.heap.size, 3, none⟩ = some (.slice q m cc) := X5q.box.cell 3 rfl
                       have c3b : (w5q.alloc (.cells #[.int .i64 v5q] 3)).cell? ⟨w3.heap.size, 3, none⟩ = some (.slice q m cc) := (At.alloc X5q.box _).cell 3 rfl
                       have HOW := Lib.hid (ownsRow_belowT (X5q.ownM HM.out) (boxT w5q (.cells #[.int .i64 v5q] 3)))
                       have hsz5 : w.heap.size ≤ w5q.heap.size := X5q.trn.1.size
                       have HX5 := Lib.hid (And.intro hv5q X5q)
                       clear X5q h5q T5q hv5q)
                    | (refine step_append_lies _ (by rfl) _ _ _ (by rfl) w.heap.size 3 i0 _ 1 8 Tryz.underlying23 hi0 hz0 hz1 hz2 rfl (by decide) (.slice q m cc) m (ints l) (by rfl) HOW.out ⟨w5q.heap.size, 0, none⟩ 1 1 [.int .i64 v5q] (by rfl) (by rfl) (World.news_of_block (cs := #[.int .i64 v5q]) (t := 3) (fr := (0, 0)) (heap_alloc_new w5q _)) (by simp [Value.oneCell']) (by omega) hm1 hm2 (by simp; omega) (w5q.heap.size + 1) (by simp) ?_; intro k2q cap2q w8q hown3 hgrow hat hlt3
                       have A8q := HX5.out.2.boxGrown hgrow
                       have c3e : w8q.cell? ⟨w3.heap.size, 3, none⟩ = some (.slice q m cc) := A8q.cell 3 rfl
                       have f3e : w8q.frozen? ⟨w3.heap.size, 3, none⟩ = false := At.free A8q 3
                       have HG := Lib.hid (HX5.out.2.pushM HM.out hown3 hgrow (hat.imp id fun h => h.trans (by show _ = (w5q.heap.push _).size; simp)) hlt3)
                       clear A8q hown3 hgrow hat hlt3)))
                all_goals
                  have hv6 := HX5.out.1
                  have X6 : PdB c fd W en rb Bx g w w3.heap.size (.int .i64 6) (.string ⟨#[]⟩) (.int .i64 0) (.slice (some ⟨k2q, 0, none⟩) (m + 1) cap2q) (l ++ [v5q]) g5q (nodeR W ⟨7, (needR W en nameB s1).1, 0, [(ty (needWR W en [58] (needR W en nameB s1).2)).1]⟩ (needWR W en [59] (ty (needWR W en [58] (needR W en nameB s1).2)).2)).2 (w8q.setCell ⟨w3.heap.size, 3, none⟩ (.slice (some ⟨k2q, 0, none⟩) (m + 1) cap2q)) := HG.out
                  have K6 := K5.node (W := W) ⟨7, (needR W en nameB s1).1, 0, [(ty (needWR W en [58] (needR W en nameB s1).2)).1]⟩
                  clear HG HX5 HOW HXD HB c3a c3b c3e f3e c3z c3y hi0 hz0 hz1 hz2 hsz5
                  have hN : namedR W en ty 7 s1 = (nodeR W ⟨7, (needR W en nameB s1).1, 0, [(ty (needWR W en [58] (needR W en nameB s1).2)).1]⟩ (needWR W en [59] (ty (needWR W en [58] (needR W en nameB s1).2)).2)) := rfl
                  have h1 := HTn.out
                  have h2 := HKN.out
                  have h3 := HKK.out
                  rw [hN] at h1 h2 h3
                  have HH := Lib.hid (And.intro h1 (And.intro h2 h3))
                  clear h1 h2 h3 hN
                  go_wp2_with fail
                  go_roundw
                  case rel => exact ⟨_, g5q, _, _, X6.more (by omega) (by omega), HH.out.2.1, HH.out.1.swap (fun hg2 => by rw [hv6 hg2]), fun hg2 => by have := HH.out.2.2 hg2; have := HLK.out hb; rw [List.length_append, ← HM.out]; show _ + 1 ≤ _; omega⟩
                  case measure => (have h9 := HMO.out; rw [if_pos hb] at h9; have hk0 := HK0.out.1; have hkn := X6.pd.inv.1; rw [h9, mOf_at X6.pd]; split
                                   · rename_i hg2; have := HH.out.2.2 hg2; omega
                                   · omega)
              · have hN : namedR W en ty 7 s1 = (0, (needWR W en [59] (ty (needWR W en [58] (needR W en nameB s1).2)).2)) := nodeR_bad _ hb3
                have c6 := X5.pd.err
                have q6 := bad_err2 X5.pd.inv hb3
                have q7 := bad_err X5.pd.inv hb3
                generalize ((needWR W en [59] (ty (needWR W en [58] (needR W en nameB s1).2)).2).bad.getD (0, 0)).2 = er at c6 q6 q7
                have h1 := HTn.out
                have h2 := HKN.out
                have h3 := HKK.out
                rw [hN] at h1 h2 h3
                have HH := Lib.hid (And.intro h1 (And.intro h2 h3))
                clear h1 h2 h3 hN
                go_wp2_with fail
                go_roundw
                case rel => exact ⟨_, g4, _, _, X5.more (by omega) (by omega), HH.out.2.1, HH.out.1.swap (fun hg2 => absurd hg2 hb3), fun hg2 => absurd hg2 hb3⟩
                case measure => (have h9 := HMO.out; rw [if_pos hb] at h9; have hk0 := HK0.out.1; rw [h9, mOf_at X5.pd, if_neg hb3]; omega)
            · have hiv := X3.pd.inv
              have hN : namedR W en ty 7 s1 = (0, (needWR W en [58] (needR W en nameB s1).2)) := named_bad2 htb 7 rfl hiv hb2
              have c6 := X3.pd.err
              have q6 := bad_err2 X3.pd.inv hb2
              have q7 := bad_err X3.pd.inv hb2
              generalize ((needWR W en [58] (needR W en nameB s1).2).bad.getD (0, 0)).2 = er at c6 q6 q7
              go_wp2_with fail
              clear c6 q6 q7
              refine (rtakes_any ⟨#[59]⟩ (by decide) _ X3.pd).mono ?_
              rintro e w4x ⟨rfl, h, O⟩
              have X4 : PdB c fd W en rb (Bx + 1) g w w3.heap.size (.int .i64 6) (.string ⟨#[]⟩) (.int .i64 0) (.slice q m cc) l g1 (needWR W en [59] (needWR W en [58] (needR W en nameB s1).2)) w4x := X3.callO h O
              have K4 := K3.needW (en := en) (x := [59]) (by decide)
              clear h O X3
              replace X4 : PdB c fd W en rb (Bx + 1) g w w3.heap.size (.int .i64 6) (.string ⟨#[]⟩) (.int .i64 0) (.slice q m cc) l g1 (needWR W en [58] (needR W en nameB s1).2) w4x := by have h := X4; rw [show needWR W en [59] (needWR W en [58] (needR W en nameB s1).2) = (needWR W en [58] (needR W en nameB s1).2) from needW_bad (by decide) hiv hb2] at h; exact h
              have c6 := X4.pd.err
              have q6 := bad_err2 X4.pd.inv hb2
              have q7 := bad_err X4.pd.inv hb2
              generalize ((needWR W en [58] (needR W en nameB s1).2).bad.getD (0, 0)).2 = er at c6 q6 q7
              have h1 := HTn.out
              have h2 := HKN.out
              have h3 := HKK.out
              rw [hN] at h1 h2 h3
              have HH := Lib.hid (And.intro h1 (And.intro h2 h3))
              clear h1 h2 h3 hN
              go_wp2_with fail
              go_roundw
              case rel => exact ⟨_, g1, _, _, X4.more (by omega) (by omega), HH.out.2.1, HH.out.1.swap (fun hg2 => absurd hg2 hb2), fun hg2 => absurd hg2 hb2⟩
              case measure => (have h9 := HMO.out; rw [if_pos hb] at h9; have hk0 := HK0.out.1; rw [h9, mOf_at X4.pd, if_neg hb2]; omega)
      · have hEb := hE.1 hb
        have hib := hB.pd.inv
        have HEB := Lib.hid (And.intro hEb hib)
        have X0 := hB
        clear hE hlk KR HMO hB hEb hib
        have c6 := X0.pd.err
        have q6 := bad_err2 X0.pd.inv hb
        have q7 := bad_err X0.pd.inv hb
        generalize (s1.bad.getD (0, 0)).2 = er at c6 q6 q7
        go_wp2_with fail
        clear c6 q6 q7
        refine (rtakes_any ⟨#[125]⟩ (by decide) _ X0.pd).mono ?_
        rintro e w1x ⟨rfl, h, O⟩
        have X1 : PdB c fd W en rb (Bx + 2) g w w3.heap.size (.int .i64 6) (.string ⟨#[]⟩) (.int .i64 0) (.slice q m cc) l g1 (needWR W en [125] s1) w1x := X0.callO h O
        have K1 := K0.needW (en := en) (x := [125]) (by decide)
        clear h O X0
        replace X1 : PdB c fd W en rb (Bx + 2) g w w3.heap.size (.int .i64 6) (.string ⟨#[]⟩) (.int .i64 0) (.slice q m cc) l g1 s1 w1x := by have h := X1; rw [show needWR W en [125] s1 = s1 from needW_bad (by decide) HEB.out.2 hb] at h; exact h
        have c6 := X1.pd.err
        have q6 := bad_err2 X1.pd.inv hb
        have q7 := bad_err X1.pd.inv hb
        generalize (s1.bad.getD (0, 0)).2 = er at c6 q6 q7
        go_wp2_with fail
        go_meet
        have e9 : plainTypeR W en ty sa = (0, s1) := by rw [EQ.out, HEB.out.1]; exact nodeR_bad _ hb
        exact ⟨0, g1, rfl, fun h => by rw [e9] at h; exact absurd h hb, by rw [e9]; exact X1.pd.drop.more (by omega) (by omega), X1.trn⟩
  case rest =>
    obtain ⟨v1, g1, rfl, hv1, h1, t1⟩ := hcut
    have KP := plainType_ok (en := en) hF K0
    go_wp2_with fail
    go_loopw [3] (fun v wr => RelTq c fd W en rb (Bx + 9) n g sa w (typeI W en ty sa) v wr) (fun _ wr => mOf W.length rb wr)
    case atStart => exact ⟨W.length + 1, (plainTypeR W en ty sa).1, (plainTypeR W en ty sa).2, g1, v1, rfl, hv1, h1.more (by omega) (by omega), t1, KP.less (by omega) (by omega), rfl, by omega⟩
    case round =>
      clear h1 t1 KP hv1 g1 v1
      obtain ⟨f, a, s1, g1, v1, rfl, hv1, h0, t1, KR, hpl, hf⟩ := hrel
      have HMO := Lib.hid (mOf_at h0)
      have HPL := Lib.hid hpl
      have HF := Lib.hid hf
      have TR := Lib.hid t1
      clear hpl hf t1 K0
      have K0 := Ok.refl h0.inv KR.2.2.2
      have t0 := Trn.refl rb g1 wr
      by_cases hb : s1.bad = none
      · replace h0 := h0.anyB (B' := Bx) hb (by omega)
        have c6 : wr.cell? ⟨rb, 6, none⟩ = some (.int .i64 0) := by have := h0.err; rw [hb] at this; exact this
        obtain rfl := hv1 hb
        go_wp2_with fail
        refine (rsee_any _ h0).mono ?_
        rintro e w1 ⟨l, rfl, hl, _, _, hbw⟩
        obtain rfl := hl hb
        have h1 := h0.grow hbw
        have t1 := t0.trans (Trn.of (h0.onl hbw))
        have K1 := K0
        clear t0 hbw hl
        clear c6
        by_cases hw : wdR W s1 = [91]
        · have qw := wq_yes hw
          have hne : wdR W s1 ≠ [] := by rw [hw]; decide
          have HLT := Lib.hid (wdR_lt hne)
          have HGB := Lib.hid hb
          obtain ⟨f, rfl⟩ : ∃ f0, f = f0 + 1 := ⟨f - 1, by have := HF.out; have := wdR_lt hne; omega⟩
          have HW := Lib.hid hw
          clear hw
          obtain ⟨k, nv, hA, hk, _⟩ := h1.cells
          obtain rfl := hk hb
          have hWl : W.length ≤ 1000000 := by obtain ⟨_, _, _, hl, _⟩ := h1.toks; exact hl
          have hlt := wdR_lt hne
          have hk1 : s1.k ≤ 1000000 := by omega
          have c2 : w1.cell? ⟨rb, 2, none⟩ = some (.int .i64 (s1.k : Nat)) := hA.cell 2 rfl
          have f2 := At.free hA 2
          have h2 := h1.bumpG hb hlt
          have t2 := t1.trans (Trn.of ((Onl.refl rb w1).set 2 (.int .i64 ((s1.k : Int) + 1))))
          have K2 := K1.pass hne
          have HX := Lib.hid (And.intro h2 t2)
          generalize hKK : s1.k = kk at c2 hk1 HX
          clear hA hk hWl hlt h2 t2 t1 hKK
          go_wp2_with fail
          obtain ⟨h2, t2⟩ := HX.out
          clear HX c2 f2 hk1
          refine (rtakesNumber_any (B := Bx) (by omega) _ h2).mono ?_
          rintro e w3 ⟨v3, rfl, hv3, h3, O3⟩
          have t3 := t2.trans (Trn.of O3)
          have K3 := K2.need (en := en) (p := numB) (by decide)
          clear t2 O3
          go_wp2_with fail
          refine (rtakes_any ⟨#[93]⟩ (by decide) _ h3).mono ?_
          rintro e w4 ⟨rfl, h4, O4⟩
          have t4 := t3.trans (Trn.of O4)
          have K4 := K3.needW (en := en) (x := [93]) (by decide)
          clear t3 O4
          have h4 : PdAt c fd W en w4 rb g1 (Bx + 1) (needWR W en [93] (needNR W en (passR s1)).2) := h4
          by_cases hb3 : (needWR W en [93] (needNR W en (passR s1)).2).bad = none
          · have c6 : w4.cell? ⟨rb, 6, none⟩ = some (.int .i64 0) := by have := h4.err; rw [hb3] at this; exact this
            have hy0 := needR_good (p := fun y => y == [93]) hb3
            obtain rfl := hv3 hy0
            have hb := boxT w4 (.cells #[.int .i64 v1] 3)
            have hA := h4.grow hb
            have tA := t4.trans (Trn.of (h4.onl hb))
            have hps := ps1_ok (op := 4) (name := []) (n := (needNR W en (passR s1)).1) v1 h4.lt h4.held
            clear hb
            go_wp2_with fail
            refine (radd_any ⟨⟨4, [], (needNR W en (passR s1)).1, [v1]⟩, some ⟨w4.heap.size, 0, none⟩, 1⟩ _ hA hps hb3 (K4.room hb3)).mono ?_
            rintro e w5 ⟨g5, v5, rfl, hv5, h5, T5⟩
            have t5 := tA.trans T5
            clear tA T5 hA hps t4 c6
            have hpl2 := HPL.out
            rw [typeL_more HW.out] at hpl2
            have HP2 := Lib.hid hpl2
            clear hpl2
            have HKN : Hid (Ok W n 0 (0 + 1) s1 (nodeR W ⟨4, [], (needNR W en (passR s1)).1, [v1]⟩ (needWR W en [93] (needNR W en (passR s1)).2)).2) := Lib.hid ((K4.node ⟨4, [], (needNR W en (passR s1)).1, [v1]⟩).less (c' := 0) (d' := 0 + 1) (by omega) (by omega))
            go_wp2_with fail
            go_roundw
            case rel => (have KX := KR.call HKN.out; have hmo := HKN.out.more HLT.out; have := HF.out; exact ⟨f, (nodeR W ⟨4, [], (needNR W en (passR s1)).1, [v1]⟩ (needWR W en [93] (needNR W en (passR s1)).2)).1, (nodeR W ⟨4, [], (needNR W en (passR s1)).1, [v1]⟩ (needWR W en [93] (needNR W en (passR s1)).2)).2, g5, _, rfl, hv5, h5.more (by omega) (by omega), TR.out.trans t5, KX.less (by omega) (by omega), HP2.out, by omega⟩)
            case measure => (have h9 := HMO.out; rw [if_pos HGB.out] at h9; have hmo := HKN.out.more HLT.out; have := HLT.out; have := h5.inv.1; rw [h9, mOf_at h5]; split <;> omega)
          · have c6 := h4.err
            have q6 := bad_err h4.inv hb3
            generalize ((needWR W en [93] (needNR W en (passR s1)).2).bad.getD (0, 0)).2 = er at c6 q6
            have hpl2 := HPL.out
            rw [typeL_more HW.out, show (nodeR W ⟨4, [], (needNR W en (passR s1)).1, [v1]⟩ (needWR W en [93] (needNR W en (passR s1)).2)) = (0, (needWR W en [93] (needNR W en (passR s1)).2)) from nodeR_bad _ hb3] at hpl2
            have HP2 := Lib.hid hpl2
            clear hpl2
            go_wp2_with fail
            go_roundw
            case rel => (have KX := KR.call K4; have := h4.inv.2.2.1 hb3; exact ⟨W.length + 1, 0, (needWR W en [93] (needNR W en (passR s1)).2), g1, _, rfl, fun h => absurd h hb3, h4.more (by omega) (by omega), TR.out.trans t4, KX.less (by omega) (by omega), by rw [← HP2.out, typeL_end (by rw [wdR_end (by omega)]; decide), typeL_end (by rw [wdR_end (by omega)]; decide)], by omega⟩)
            case measure => (have h9 := HMO.out; rw [if_pos HGB.out] at h9; rw [h9, mOf_at h4, if_neg hb3]; have := HLT.out; omega)
        · have qw := wq_no hw
          have hpl2 := HPL.out
          rw [typeL_end hw] at hpl2
          clear hw HPL HF HMO
          have har : s1.ar = sa.ar := KR.2.2.1.1
          have hi4 : Inv W (leaveR s1) := h1.inv
          have har : 1 ≤ (s1).ar := by rw [har]; exact h1a
          obtain ⟨k4, nv4, hA4, _⟩ := h1.cells
          have d4 : w1.cell? ⟨rb, 4, none⟩ = some (.int .i64 ((s1).ar : Nat)) := hA4.cell 4 rfl
          have f4 := At.free hA4 4
          have fin := h1.deep (s' := leaveR s1) hi4 (by have := h1.room; show (s1).ar - 1 ≤ 30; omega) rfl rfl (fun _ => rfl)
          rw [show ((leaveR s1).ar : Int) = (((s1).ar : Int) - 1) from by show (((s1).ar - 1 : Nat) : Int) = _; omega] at fin
          have hOf := (Onl.refl rb w1).set 4 (.int .i64 (((s1).ar : Int) - 1))
          have hr4 : ((s1).ar : Int) ≤ 30 := by have := h1.room; omega
          have FIN := Lib.hid (And.intro fin hOf)
          have HIV := Lib.hid hpl2
          have TT := Lib.hid (TR.out.trans t1)
          clear fin hOf hA4 hi4 h1 har h1a t1 TR
          have hS9 : leaveR (typeI W en ty sa).2 = leaveR s1 := by rw [← HIV.out]
          generalize hkk : s1.ar = ka at d4 hr4 FIN
          clear hkk
          go_wp2_with fail
          go_ret
          rw [hS9, ← HIV.out]
          exact ⟨g1, _, rfl, fun _ => rfl, FIN.out.1.more (by omega) (by omega), TT.out.trans (Trn.of FIN.out.2)⟩
      · have c6 := h0.err
        have q6 := bad_err h0.inv hb
        generalize (s1.bad.getD (0, 0)).2 = er at c6 q6
        have hkb := h0.inv.2.2.1 hb
        have hpl2 := HPL.out
        rw [typeL_end (by rw [wdR_end (by omega)]; decide)] at hpl2
        clear HPL HF HMO
        have har : s1.ar = sa.ar := KR.2.2.1.1
        have hi4 : Inv W (leaveR s1) := h0.inv
        have har : 1 ≤ (s1).ar := by rw [har]; exact h1a
        obtain ⟨k4, nv4, hA4, _⟩ := h0.cells
        have d4 : wr.cell? ⟨rb, 4, none⟩ = some (.int .i64 ((s1).ar : Nat)) := hA4.cell 4 rfl
        have f4 := At.free hA4 4
        have fin := h0.deep (s' := leaveR s1) hi4 (by have := h0.room; show (s1).ar - 1 ≤ 30; omega) rfl rfl (fun _ => rfl)
        rw [show ((leaveR s1).ar : Int) = (((s1).ar : Int) - 1) from by show (((s1).ar - 1 : Nat) : Int) = _; omega] at fin
        have hOf := (Onl.refl rb wr).set 4 (.int .i64 (((s1).ar : Int) - 1))
        have hr4 : ((s1).ar : Int) ≤ 30 := by have := h0.room; omega
        have FIN := Lib.hid (And.intro fin hOf)
        have HIV := Lib.hid hpl2
        have TT := Lib.hid (TR.out.trans t0)
        clear fin hOf hA4 hi4 h0 har h1a t0 TR
        have hS9 : leaveR (typeI W en ty sa).2 = leaveR s1 := by rw [← HIV.out]
        generalize hkk : s1.ar = ka at d4 hr4 FIN
        clear hkk
        go_wp2_with fail
        go_ret
        rw [hS9]
        exact ⟨g1, v1, rfl, fun h => absurd h hb, FIN.out.1.more (by omega) (by omega), TT.out.trans (Trn.of FIN.out.2)⟩
end Go.Proofs.YtkhklndmbfbnoaaGreatDoor
