/- What the document's loops over declarations and statements come to. -/
import Derived.Test.YtkhklndmbfbnoaaGreatDoorQKindAll
import Derived.Test.YtkhklndmbfbnoaaGreatDoorQStAll
import Derived.Test.YtkhklndmbfbnoaaGreatDoorTParseC
import Derived.Test.YtkhklndmbfbnoaaGreatDoorQWord
import Derived.Test.YtkhklndmbfbnoaaGreatDoorLToks
import Derived.Deep.CutBlock
namespace Go.Proofs.YtkhklndmbfbnoaaGreatDoor
open Go.ChangeShapes Go.WideShapes Go.ChangeAt Go.RowKit Go.Joins Go.Deep
set_option linter.unusedVariables false

section
variable {W : List (Tx × Nat)} {en : Nat} {ty st : RS → Int × RS} {s : RS}
/-- what a loop that gathers comes to: L: its plain function -/
def GatEnd (L : Nat → List Int → RS → List Int × RS) (N : Nat) (R : List Int × RS) (l : List Int) (s : RS) : Prop := ∃ f lx, L f lx s = R ∧ (s.bad = none → l = lx) ∧ (s.bad = none → N + 1 ≤ s.k + f)
theorem GatEnd.swap {L : Nat → List Int → RS → List Int × RS} {N : Nat} {R : List Int × RS} {l l' : List Int} (h : GatEnd L N R l s) (e : s.bad = none → l' = l) : GatEnd L N R l' s := by
  obtain ⟨f, lx, h1, h2, h3⟩ := h
  exact ⟨f, lx, h1, fun hg => (e hg).trans (h2 hg), h3⟩
theorem GatEnd.turnD {R : List Int × RS} {l : List Int} (h : GatEnd (declL W en ty) W.length R l s) (hi : Inv W s) (hg : s.bad = none) (hw : wdR W s = [118, 97, 114]) (hk : (namedR W en ty 2 (passR s)).2.bad = none → s.k < (namedR W en ty 2 (passR s)).2.k) : GatEnd (declL W en ty) W.length R (l ++ [(namedR W en ty 2 (passR s)).1]) (namedR W en ty 2 (passR s)).2 := by
  obtain ⟨f, lx, h1, h2, h3⟩ := h
  obtain rfl := h2 hg
  have hlt := wdR_lt (show wdR W s ≠ [] by rw [hw]; decide)
  obtain ⟨f, rfl⟩ : ∃ f0, f = f0 + 1 := ⟨f - 1, by have := h3 hg; omega⟩
  rw [declL_more hw, show needWR W en [118, 97, 114] s = passR s from by unfold needWR needR; rw [if_pos (by rw [hw]; rfl)]] at h1
  exact ⟨f, _, h1, fun _ => rfl, fun hg2 => by have := hk hg2; have := h3 hg; omega⟩
theorem GatEnd.doneD {R : List Int × RS} {l : List Int} (h : GatEnd (declL W en ty) W.length R l s) (hw : wdR W s ≠ [118, 97, 114]) : ∃ lx, R = (lx, s) ∧ (s.bad = none → l = lx) := by
  obtain ⟨f, lx, h1, h2, _⟩ := h
  rw [declL_end hw] at h1
  exact ⟨lx, h1.symm, h2⟩
theorem GatEnd.turnS {R : List Int × RS} {l : List Int} (h : GatEnd (stsL W st) W.length R l s) (hg : s.bad = none) (hlt : s.k < W.length) (hk : (st s).2.bad = none → s.k < (st s).2.k) : GatEnd (stsL W st) W.length R (l ++ [(st s).1]) (st s).2 := by
  obtain ⟨f, lx, h1, h2, h3⟩ := h
  obtain rfl := h2 hg
  obtain ⟨f, rfl⟩ : ∃ f0, f = f0 + 1 := ⟨f - 1, by have := h3 hg; omega⟩
  rw [stsL_more hlt] at h1
  exact ⟨f, _, h1, fun _ => rfl, fun hg2 => by have := hk hg2; have := h3 hg; omega⟩
theorem GatEnd.doneS {R : List Int × RS} {l : List Int} (h : GatEnd (stsL W st) W.length R l s) (hw : ¬ s.k < W.length) : ∃ lx, R = (lx, s) ∧ (s.bad = none → l = lx) := by
  obtain ⟨f, lx, h1, h2, _⟩ := h
  rw [stsL_end hw] at h1
  exact ⟨lx, h1.symm, h2⟩
end
def RelGq (c : Ctx) (fd : Value) (W : List (Tx × Nat)) (en rb B n : Nat) (L : Nat → List Int → RS → List Int × RS) (g : Option Nat) (w : World) (D : Nat) (R : List Int × RS) (v : Value) (wr : World) : Prop := ∃ l g1 s1 V, PdB c fd W en rb B g w D (.int .i64 1) (.string ⟨#[]⟩) (.int .i64 0) V l g1 s1 wr ∧ Ok W n 0 0 start s1 ∧ GatEnd L W.length R l s1 ∧ (s1.bad = none → l.length ≤ s1.k)
def RelGd (c : Ctx) (fd : Value) (W : List (Tx × Nat)) (en rb B n : Nat) (g : Option Nat) (w : World) (D : Nat) (R : List Int × RS) (wr : World) : Prop := ∃ l lx g1 s1 V, PdB c fd W en rb B g w D (.int .i64 1) (.string ⟨#[]⟩) (.int .i64 0) V l g1 s1 wr ∧ Ok W n 0 0 start s1 ∧ R = (lx, s1) ∧ (s1.bad = none → l = lx) ∧ (s1.bad = none → l.length ≤ s1.k)
end Go.Proofs.YtkhklndmbfbnoaaGreatDoor

/- The document's Parse. -/
namespace Go.Proofs.YtkhklndmbfbnoaaGreatDoor
open Go.ChangeShapes Go.WideShapes Go.ChangeAt Go.RowKit Go.Joins Go.Deep
set_option linter.unusedVariables false

set_option maxRecDepth 100000 in
set_option maxHeartbeats 6400000 in
theorem rparse_good (s : ByteArray) (hm : s.size ≤ 1000000000) {W : List (Tx × Nat)} (hWd : (tellW s.data.toList).1 = W) (h0 : (tellW s.data.toList).2.2 = 0) {en Bx : Nat} (hen : s.size = en) (hBx : Bx ≤ 900) (ty st : RS → Int × RS) (hF : Fng W 20 ty) (hS : Fng W 20 st) (htb : ∀ s, Inv W s → s.bad ≠ none → ∃ v, ty s = (v, s)) (HQ0 : ∀ fd rb, ∀ (c : Ctx) s g w, s.bad = none → s.ar ≤ 21 → Dp 20 s → PdAt c fd W en w rb g Bx s → Calls Tryz.prog 32 #[.pointer (some ⟨rb, 0, none⟩)] w (RQ c fd W en rb g Bx (ty s) w)) (HT0 : ∀ fd rb, ∀ (c : Ctx) s g w, s.bad = none → s.ar ≤ 20 → Dp 20 s → PdAt c fd W en w rb g Bx s → Calls Tryz.prog 34 #[.pointer (some ⟨rb, 0, none⟩)] w (RQ c fd W en rb g Bx (st s) w)) (hgood : (programR W en ty st).2.bad = none → parseR s.data.toList = ((programR W en ty st).2.t, 0, 0)) (hbad : ∀ a e, (programR W en ty st).2.bad = some (a, e) → parseR s.data.toList = ([], a, e)) (wi : World) : Calls Tryz.prog 12 #[.string s] wi (PPost s.data.toList wi) := by
  have cW := rWords_any s hm wi
  have hlen := tell_long h0
  have hWl := tellW_len s.data.toList
  have hsh := texts_short s.data.toList (by omega)
  have hwo := tellW_words s.data.toList
  have hsz := len_text s
  have HP0 := Lib.hid (And.intro hgood hbad)
  unfold RWordsPost at cW
  rw [h0] at cW
  clear h0 hgood hbad
  go_enter Tryz.func12, Tryz.ntmps12
  go_wp2_with fail
  refine cW.mono ?_
  rintro e w1 ⟨fd, rfl, hT, hb1⟩
  rw [hWd] at hT hWl hsh hwo
  have hI : IsToks w1 fd W := hT.toks (by omega)
  obtain ⟨q0, cap0, rfl, hI2⟩ := id hI
  have hA := At.new w1 #[.slice q0 W.length cap0, .int .i64 (s.size : Nat), .int .i64 0, .slice none 0 0, .int .i64 0, .int .i64 0, .int .i64 0] 81
  have hbx := boxT w1 (.cells #[.slice q0 W.length cap0, .int .i64 (s.size : Nat), .int .i64 0, .slice none 0 0, .int .i64 0, .int .i64 0, .int .i64 0] 81)
  have hPd : PdAt ⟨w1, fun _ => False⟩ (.slice q0 W.length cap0) W s.size (w1.alloc (.cells #[.slice q0 W.length cap0, .int .i64 (s.size : Nat), .int .i64 0, .slice none 0 0, .int .i64 0, .int .i64 0, .int .i64 0] 81)) w1.heap.size none Bx start :=
    ⟨⟨0, .slice none 0 0, [], hA, rfl, NRow.nil _ _ _, fun _ => ⟨rfl, rfl⟩, by simp, by omega⟩, ⟨Nat.zero_le _, fun _ => ⟨by decide, by decide⟩, fun h => absurd rfl h, fun a e h => by cases h⟩, hbx, Nat.le_refl _, hI, by decide, hsh, fun b h => h.elim, by omega, hwo⟩
  have HB1 := Lib.hid (And.intro hb1 hbx)
  clear hA hbx hI hI2 hT hb1 cW hsh hlen hsz hwo
  rw [hen] at hPd
  go_upto_region 5 with (fail)
  rw [hen] at HB1
  obtain ⟨fd, hfd⟩ : ∃ fd, fd = Value.slice q0 W.length cap0 := ⟨_, rfl⟩
  have HQ := HQ0 fd w1.heap.size
  have HT := HT0 fd w1.heap.size
  have hltW := hPd.lt
  have hsz1 : w1.heap.size < (w1.alloc (.cells #[.slice q0 W.length cap0, .int .i64 (en : Nat), .int .i64 0, .slice none 0 0, .int .i64 0, .int .i64 0, .int .i64 0] 81)).heap.size := hltW
  clear hltW HQ0 HT0
  have hPd : PdAt ⟨w1, fun _ => False⟩ fd W en (w1.alloc (.cells #[.slice q0 W.length cap0, .int .i64 (en : Nat), .int .i64 0, .slice none 0 0, .int .i64 0, .int .i64 0, .int .i64 0] 81)) w1.heap.size none Bx start := by rw [hfd]; exact hPd
  have HFD := Lib.hid hfd
  obtain ⟨c, hc⟩ : ∃ c : Ctx, c = ⟨w1, fun _ => False⟩ := ⟨_, rfl⟩
  rw [← hc] at hPd
  have HC := Lib.hid hc
  obtain ⟨g, hgn⟩ : ∃ g : Option Nat, g = none := ⟨_, rfl⟩
  rw [← hgn] at hPd
  have hBw : Below wi.heap.size wi (w1.alloc (.cells #[.slice q0 W.length cap0, .int .i64 (en : Nat), .int .i64 0, .slice none 0 0, .int .i64 0, .int .i64 0, .int .i64 0] 81)) ∧ wi.heap.size ≤ w1.heap.size := ⟨HB1.out.1.trans (HB1.out.2.mono HB1.out.1.size), HB1.out.1.size⟩
  have HBW := Lib.hid hBw
  clear hfd hc hgn HB1 hBw
  generalize hrbx : w1.heap.size = rb at *
  generalize hwx : w1.alloc (.cells #[.slice q0 W.length cap0, .int .i64 (en : Nat), .int .i64 0, .slice none 0 0, .int .i64 0, .int .i64 0, .int .i64 0] 81) = w at *
  clear hrbx hwx
  have helder := hPd.held
  have X1 : PdX c fd W en rb Bx g w w.heap.size (.int .i64 1) (.string ⟨#[]⟩) (.int .i64 0) (.slice none 0 0) g start (w.alloc (.cells #[.int .i64 1, .string ⟨#[]⟩, .int .i64 0, .slice none 0 0] 83)) := PdX.fresh hPd (Trn.refl rb g w) hPd.lt _ _ _ _
  have hB0 : PdB c fd W en rb (Bx + 2) g w w.heap.size (.int .i64 1) (.string ⟨#[]⟩) (.int .i64 0) (.slice none 0 0) [] g start (w.alloc (.cells #[.int .i64 1, .string ⟨#[]⟩, .int .i64 0, .slice none 0 0] 83)) := (PdB.empty X1 helder).more (by omega) (by omega)
  clear X1 hPd
  go_upto_block 0 with (fail)
  go_cut [11] from 13 to 137 (fun v9 wx => RelGd c fd W en rb (Bx + 2) 20 g w w.heap.size (declL W en ty (W.length + 1) [] start) wx)
  case first =>
    go_wp2_with fail
    go_loopw [11] (fun v wr => RelGq c fd W en rb (Bx + 2) 20 (declL W en ty) g w w.heap.size (declL W en ty (W.length + 1) [] start) v wr) (fun _ wr => mOf W.length rb wr)
    case atStart => exact ⟨[], g, _, _, hB0, Ok.refl hB0.pd.inv (fun _ => by decide), ⟨W.length + 1, [], rfl, fun _ => rfl, fun _ => by omega⟩, fun _ => Nat.zero_le _⟩
    case round =>
      clear hB0
      obtain ⟨l, g1, s1, V, hB, KR, hE, hlk⟩ := hrel
      have HMO := Lib.hid (mOf_at hB.pd)
      have K0 := Ok.refl hB.pd.inv KR.2.2.2
      have hWL : W.length ≤ 1000000 := by obtain ⟨_, _, _, h, _⟩ := hB.pd.toks; exact h
      obtain ⟨q, cc, rfl⟩ := hB.row.form
      obtain ⟨m, hm⟩ : ∃ m, m = l.length := ⟨_, rfl⟩
      rw [← hm] at hB hlk
      have HM := Lib.hid hm
      by_cases hb : s1.bad = none
      · have X0 := hB.callO (hB.pd.anyB (B' := Bx) hb (by omega)) (Onl.refl rb wr)
        have hkW := hB.pd.inv.1
        have hlk1 := hlk hb
        have hm1 : m + 1 ≤ maxLen := by unfold maxLen; omega
        have hm2 : (m + 1) * 8 ≤ 140737488355328 := by omega
        have HK0 := Lib.hid K0.1
        have HLK := Lib.hid hlk
        have c6 : wr.cell? ⟨rb, 6, none⟩ = some (.int .i64 0) := by have := X0.pd.err; rw [hb] at this; exact this
        go_wp2_with fail
        clear c6
        refine (rsee_any _ X0.pd).mono ?_
        rintro e w1x ⟨l1, rfl, hl1, _, _, hb⟩
        have X1 : PdB c fd W en rb Bx g w w.heap.size (.int .i64 1) (.string ⟨#[]⟩) (.int .i64 0) (.slice q m cc) l g1 s1 w1x := X0.grow hb
        have K1 := K0
        clear hb X0
        obtain rfl := hl1 hb
        by_cases hw : wdR W s1 = [118, 97, 114]
        · have qw := wq_yes hw
          have hne : wdR W s1 ≠ [] := by rw [hw]; decide
          have KN := named_ok (en := en) hF 2 (K0.pass hne)
          have HKN := Lib.hid ((KR.call KN).less (c' := 0) (d' := 0) (by omega) (by omega))
          have HKK : Hid ((namedR W en ty 2 (passR s1)).2.bad = none → s1.k < (namedR W en ty 2 (passR s1)).2.k) := Lib.hid fun hg => by have := (KN.2.2.1.2 hg).2.2; omega
          have HTn := Lib.hid (hE.turnD K0.1 hb hw HKK.out)
          clear hlk hE hB KN hkW hlk1 hw hm
          obtain ⟨k, nv, hA, hk, _⟩ := X1.pd.cells
          obtain rfl := hk hb
          have hWl : W.length ≤ 1000000 := by obtain ⟨_, _, _, hl, _⟩ := X1.pd.toks; exact hl
          have hlt0 := wdR_lt hne
          have hk10 : s1.k ≤ 1000000 := by omega
          have pc0 : w1x.cell? ⟨rb, 2, none⟩ = some (.int .i64 (s1.k : Nat)) := hA.cell 2 rfl
          have pg0 := At.free hA 2
          have X2 : PdB c fd W en rb Bx g w w.heap.size (.int .i64 1) (.string ⟨#[]⟩) (.int .i64 0) (.slice q m cc) l g1 (passR s1) (w1x.setCell ⟨rb, 2, none⟩ (.int .i64 ((s1.k : Int) + 1))) := X1.callO (X1.pd.bumpG hb hlt0) ((Onl.refl rb w1x).set 2 _)
          have K2 := K1.pass hne
          clear hA hk hWl
          go_wp2_with fail
          clear pc0 pg0 hk10 hlt0
          have hgp : (passR s1).bad = none := hb
          refine (rtakesName_any (B := Bx) (by omega) _ X2.pd).mono ?_
          rintro e w3x ⟨v3, rfl, hv3, h, O⟩
          have X3 : PdB c fd W en rb (Bx + 1) g w w.heap.size (.int .i64 1) (.string ⟨#[]⟩) (.int .i64 0) (.slice q m cc) l g1 (needR W en nameB (passR s1)).2 w3x := X2.callO h O
          have K3 := K2.need (en := en) (p := nameB) (by decide)
          clear h O X2
          go_wp2_with fail
          refine (rtakes_any ⟨#[58]⟩ (by decide) _ X3.pd).mono ?_
          rintro e w4x ⟨rfl, h, O⟩
          have X4 : PdB c fd W en rb (Bx + 1) g w w.heap.size (.int .i64 1) (.string ⟨#[]⟩) (.int .i64 0) (.slice q m cc) l g1 (needWR W en [58] (needR W en nameB (passR s1)).2) w4x := X3.callO h O
          have K4 := K3.needW (en := en) (x := [58]) (by decide)
          clear h O X3
          by_cases hb2 : (needWR W en [58] (needR W en nameB (passR s1)).2).bad = none
          · have hK2 := K4.2.2.2
            have c6 : w4x.cell? ⟨rb, 6, none⟩ = some (.int .i64 0) := by have := X4.pd.err; rw [hb2] at this; exact this
            go_wp2_with fail
            clear c6
            refine (HQ _ (needWR W en [58] (needR W en nameB (passR s1)).2) g1 _ hb2 (Nat.le_succ_of_le (hK2 hb2).2) hK2 (X4.pd.anyB (B' := Bx) hb2 (by omega))).mono ?_
            rintro e w5x ⟨g5, v5, rfl, hv5, h, O⟩
            have X5 : PdB c fd W en rb Bx g w w.heap.size (.int .i64 1) (.string ⟨#[]⟩) (.int .i64 0) (.slice q m cc) l g5 (ty (needWR W en [58] (needR W en nameB (passR s1)).2)).2 w5x := X4.callT h O
            have K5 := K4.fn hF
            clear h O X4
            clear hK2
            go_wp2_with fail
            refine (rtakes_any ⟨#[59]⟩ (by decide) _ X5.pd).mono ?_
            rintro e w6x ⟨rfl, h, O⟩
            have X6 : PdB c fd W en rb Bx g w w.heap.size (.int .i64 1) (.string ⟨#[]⟩) (.int .i64 0) (.slice q m cc) l g5 (needWR W en [59] (ty (needWR W en [58] (needR W en nameB (passR s1)).2)).2) w6x := X5.callO h O
            have K6 := K5.needW (en := en) (x := [59]) (by decide)
            clear h O X5
            by_cases hb3 : (needWR W en [59] (ty (needWR W en [58] (needR W en nameB (passR s1)).2)).2).bad = none
            · have hy1 := needR_good (p := fun y => y == [59]) hb3
              have hy0 := needR_good (p := fun y => y == [58]) hb2
              obtain rfl := hv5 hy1
              obtain rfl := hv3 hy0
              have c6 : w6x.cell? ⟨rb, 6, none⟩ = some (.int .i64 0) := by have := X6.pd.err; rw [hb3] at this; exact this
              go_upto_region 15 with (fail)
              clear c6
              obtain ⟨i0, hi0, hz0, hz1, hz2⟩ := info_parts Tryz.infoInt
              have hXy := X6.grow (boxT w6x (.cells #[.int .i64 (ty (needWR W en [58] (needR W en nameB (passR s1)).2)).1] 3))
              have hpsy := (ps1_ok (op := 2) (name := (needR W en nameB (passR s1)).1) (n := 0) (ty (needWR W en [58] (needR W en nameB (passR s1)).2)).1 X6.pd.lt X6.pd.held).keep fun b cs hb => At.drew hb
              have hXd := hXy.grow ((Below.refl (w6x.alloc (.cells #[.int .i64 (ty (needWR W en [58] (needR W en nameB (passR s1)).2)).1] 3)).heap.size (w6x.alloc (.cells #[.int .i64 (ty (needWR W en [58] (needR W en nameB (passR s1)).2)).1] 3))).drew)
              have c3z : w6x.cell? ⟨w.heap.size, 3, none⟩ = some (.slice q m cc) := X6.box.cell 3 rfl
              have c3y : (w6x.alloc (.cells #[.int .i64 (ty (needWR W en [58] (needR W en nameB (passR s1)).2)).1] 3)).cell? ⟨w.heap.size, 3, none⟩ = some (.slice q m cc) := hXy.box.cell 3 rfl
              have HB := radd_any ⟨⟨2, (needR W en nameB (passR s1)).1, 0, [(ty (needWR W en [58] (needR W en nameB (passR s1)).2)).1]⟩, some ⟨w6x.heap.size, 0, none⟩, 1⟩ _ hXd.pd hpsy hb3 (K6.room hb3)
              have HXD := Lib.hid hXd
              clear hXd hXy X6 hpsy
              go_region_law
                ((first
                  | (go_simp; refine HB.mono ?_; rintro e w5q ⟨g5q, v5q, rfl, hv5q, h5q, T5q⟩
                     have X5q := HXD.out.callT h5q T5q
                     have c3a : w5q.cell? ⟨w.heap.size, 3, none⟩ = some (.slice q m cc) := X5q.box.cell 3 rfl
                     have c3b : (w5q.alloc (.cells #[.int .i64 v5q] 3)).cell? ⟨w.heap.size, 3, none⟩ = some (.slice q m cc) := (At.alloc X5q.box _).cell 3 rfl
                     have HOW := Lib.hid (ownsRow_belowT (X5q.ownM HM.out) (boxT w5q (.cells #[.int .i64 v5q] 3)))
                     have hsz5 : w.heap.size ≤ w5q.heap.size := X5q.trn.1.size
                     have HX5 := Lib.hid (And.intro hv5q X5q)
                     clear X5q h5q T5q hv5q)
                  | (refine step_append_lies _ (by rfl) _ _ _ (by rfl) w.heap.size 3 i0 _ 1 8 Tryz.underlying23 hi0 hz0 hz1 hz2 rfl (by decide) (.slice q m cc) m (ints l) (by rfl) HOW.out ⟨w5q.heap.size, 0, none⟩ 1 1 [.int .i64 v5q] (by rfl) (by rfl) (World.news_of_block (cs := #[.int .i64 v5q]) (t := 3) (fr := (0, 0)) (heap_alloc_new w5q _)) (by simp [Value.oneCell']) (by omega) hm1 hm2 (by simp; omega) (w5q.heap.size + 1) (by simp) ?_; intro k2q cap2q w8q hown3 hgrow hat hlt3
                     have A8q := HX5.out.2.boxGrown hgrow
                     have c3e : w8q.cell? ⟨w.heap.size, 3, none⟩ = some (.slice q m cc) := A8q.cell 3 rfl
                     have f3e : w8q.frozen? ⟨w.heap.size, 3, none⟩ = false := At.free A8q 3
                     have HG := Lib.hid (HX5.out.2.pushM HM.out hown3 hgrow (hat.imp id fun h => h.trans (by show _ = (w5q.heap.push _).size; simp)) hlt3)
                     clear A8q hown3 hgrow hat hlt3)))
              all_goals
                have hv7 := HX5.out.1
                have X7 : PdB c fd W en rb Bx g w w.heap.size (.int .i64 1) (.string ⟨#[]⟩) (.int .i64 0) (.slice (some ⟨k2q, 0, none⟩) (m + 1) cap2q) (l ++ [v5q]) g5q (nodeR W ⟨2, (needR W en nameB (passR s1)).1, 0, [(ty (needWR W en [58] (needR W en nameB (passR s1)).2)).1]⟩ (needWR W en [59] (ty (needWR W en [58] (needR W en nameB (passR s1)).2)).2)).2 (w8q.setCell ⟨w.heap.size, 3, none⟩ (.slice (some ⟨k2q, 0, none⟩) (m + 1) cap2q)) := HG.out
                have K7 := K6.node (W := W) ⟨2, (needR W en nameB (passR s1)).1, 0, [(ty (needWR W en [58] (needR W en nameB (passR s1)).2)).1]⟩
                clear HG HX5 HOW HXD HB c3a c3b c3e f3e c3z c3y hi0 hz0 hz1 hz2 hsz5
                have hN : namedR W en ty 2 (passR s1) = (nodeR W ⟨2, (needR W en nameB (passR s1)).1, 0, [(ty (needWR W en [58] (needR W en nameB (passR s1)).2)).1]⟩ (needWR W en [59] (ty (needWR W en [58] (needR W en nameB (passR s1)).2)).2)) := rfl
                have h1 := HTn.out
                have h2 := HKN.out
                have h3 := HKK.out
                rw [hN] at h1 h2 h3
                have HH := Lib.hid (And.intro h1 (And.intro h2 h3))
                clear h1 h2 h3 hN
                go_wp2_with fail
                go_roundw
                case rel => exact ⟨_, g5q, _, _, X7.more (by omega) (by omega), HH.out.2.1, HH.out.1.swap (fun hg2 => by rw [hv7 hg2]), fun hg2 => by have := HH.out.2.2 hg2; have := HLK.out hb; rw [List.length_append, ← HM.out]; show _ + 1 ≤ _; omega⟩
                case measure => (have h9 := HMO.out; rw [if_pos hb] at h9; have hk0 := HK0.out.1; have hkn := X7.pd.inv.1; rw [h9, mOf_at X7.pd]; split
                                 · rename_i hg2; have := HH.out.2.2 hg2; omega
                                 · omega)
            · have hN : namedR W en ty 2 (passR s1) = (0, (needWR W en [59] (ty (needWR W en [58] (needR W en nameB (passR s1)).2)).2)) := nodeR_bad _ hb3
              have c6 := X6.pd.err
              have q6 := bad_err2 X6.pd.inv hb3
              have q7 := bad_err X6.pd.inv hb3
              generalize ((needWR W en [59] (ty (needWR W en [58] (needR W en nameB (passR s1)).2)).2).bad.getD (0, 0)).2 = er at c6 q6 q7
              have h1 := HTn.out
              have h2 := HKN.out
              have h3 := HKK.out
              rw [hN] at h1 h2 h3
              have HH := Lib.hid (And.intro h1 (And.intro h2 h3))
              clear h1 h2 h3 hN
              go_wp2_with fail
              go_roundw
              case rel => exact ⟨_, g5, _, _, X6.more (by omega) (by omega), HH.out.2.1, HH.out.1.swap (fun hg2 => absurd hg2 hb3), fun hg2 => absurd hg2 hb3⟩
              case measure => (have h9 := HMO.out; rw [if_pos hb] at h9; have hk0 := HK0.out.1; rw [h9, mOf_at X6.pd, if_neg hb3]; omega)
          · have hiv := X4.pd.inv
            have hN : namedR W en ty 2 (passR s1) = (0, (needWR W en [58] (needR W en nameB (passR s1)).2)) := named_bad2 htb 2 rfl hiv hb2
            have c6 := X4.pd.err
            have q6 := bad_err2 X4.pd.inv hb2
            have q7 := bad_err X4.pd.inv hb2
            generalize ((needWR W en [58] (needR W en nameB (passR s1)).2).bad.getD (0, 0)).2 = er at c6 q6 q7
            go_wp2_with fail
            clear c6 q6 q7
            refine (rtakes_any ⟨#[59]⟩ (by decide) _ X4.pd).mono ?_
            rintro e w5x ⟨rfl, h, O⟩
            have X5 : PdB c fd W en rb (Bx + 1) g w w.heap.size (.int .i64 1) (.string ⟨#[]⟩) (.int .i64 0) (.slice q m cc) l g1 (needWR W en [59] (needWR W en [58] (needR W en nameB (passR s1)).2)) w5x := X4.callO h O
            have K5 := K4.needW (en := en) (x := [59]) (by decide)
            clear h O X4
            replace X5 : PdB c fd W en rb (Bx + 1) g w w.heap.size (.int .i64 1) (.string ⟨#[]⟩) (.int .i64 0) (.slice q m cc) l g1 (needWR W en [58] (needR W en nameB (passR s1)).2) w5x := by have h := X5; rw [show needWR W en [59] (needWR W en [58] (needR W en nameB (passR s1)).2) = (needWR W en [58] (needR W en nameB (passR s1)).2) from needW_bad (by decide) hiv hb2] at h; exact h
            have c6 := X5.pd.err
            have q6 := bad_err2 X5.pd.inv hb2
            have q7 := bad_err X5.pd.inv hb2
            generalize ((needWR W en [58] (needR W en nameB (passR s1)).2).bad.getD (0, 0)).2 = er at c6 q6 q7
            have h1 := HTn.out
            have h2 := HKN.out
            have h3 := HKK.out
            rw [hN] at h1 h2 h3
            have HH := Lib.hid (And.intro h1 (And.intro h2 h3))
            clear h1 h2 h3 hN
            go_wp2_with fail
            go_roundw
            case rel => exact ⟨_, g1, _, _, X5.more (by omega) (by omega), HH.out.2.1, HH.out.1.swap (fun hg2 => absurd hg2 hb2), fun hg2 => absurd hg2 hb2⟩
            case measure => (have h9 := HMO.out; rw [if_pos hb] at h9; have hk0 := HK0.out.1; rw [h9, mOf_at X5.pd, if_neg hb2]; omega)
        · have qw := wq_no hw
          obtain ⟨lx, hR, hlx⟩ := hE.doneD hw
          have HR := Lib.hid (And.intro hR (And.intro KR (And.intro hlx hlk)))
          clear hE hlk KR HMO hB hR hlx hm HK0 HLK hkW hlk1
          go_wp2_with fail
          go_meet
          exact ⟨l, lx, g1, s1, _, X1.more (by omega) (by omega), HR.out.2.1, HR.out.1, HR.out.2.2.1, fun hg => by rw [← HM.out]; exact HR.out.2.2.2 hg⟩
      · have hwe := wd_bad hB.pd.inv hb
        obtain ⟨lx, hR, hlx⟩ := hE.doneD (by rw [hwe]; decide)
        have X0 := hB
        have HR := Lib.hid (And.intro hR (And.intro KR (And.intro hlx hlk)))
        clear hE hlk KR HMO hB hwe hR hlx hm
        have c6 := X0.pd.err
        have q6 := bad_err2 X0.pd.inv hb
        have q7 := bad_err X0.pd.inv hb
        generalize (s1.bad.getD (0, 0)).2 = er at c6 q6 q7
        go_wp2_with fail
        clear c6 q6 q7
        go_meet
        exact ⟨l, lx, g1, s1, _, X0, HR.out.2.1, HR.out.1, HR.out.2.2.1, fun hg => by rw [← HM.out]; exact HR.out.2.2.2 hg⟩
  case rest =>
    clear hB0
    obtain ⟨l0, lx0, g0, s0, V0, hX0, hK0, hR0, hlx0, hlk0⟩ := hcut
    have HX0 := Lib.hid (And.intro hX0 (And.intro hK0 (And.intro hlx0 hlk0)))
    have HR0 := Lib.hid hR0
    clear hX0 hK0 hlx0 hlk0 hR0
    go_upto_block 2 with (fail)
    go_cut [11] from 13 to 137 (fun v9 wx => RelGd c fd W en rb (Bx + 2) 20 g w w.heap.size (stsL W st (W.length + 2) lx0 s0) wx ∧ ((stsL W st (W.length + 2) lx0 s0).2.bad = none → W.length ≤ (stsL W st (W.length + 2) lx0 s0).2.k))
    case first =>
      go_wp2_with fail
      go_loopw [91] (fun v wr => RelGq c fd W en rb (Bx + 2) 20 (stsL W st) g w w.heap.size (stsL W st (W.length + 2) lx0 s0) v wr) (fun _ wr => mOf W.length rb wr)
      case atStart => exact ⟨l0, g0, s0, _, HX0.out.1, HX0.out.2.1, ⟨W.length + 2, _, rfl, HX0.out.2.2.1, fun _ => by omega⟩, HX0.out.2.2.2⟩
      case round =>
        clear HX0
        obtain ⟨l, g1, s1, V, hB, KR, hE, hlk⟩ := hrel
        have HMO := Lib.hid (mOf_at hB.pd)
        have K0 := Ok.refl hB.pd.inv KR.2.2.2
        have hWL : W.length ≤ 1000000 := by obtain ⟨_, _, _, h, _⟩ := hB.pd.toks; exact h
        obtain ⟨q, cc, rfl⟩ := hB.row.form
        obtain ⟨m, hm⟩ : ∃ m, m = l.length := ⟨_, rfl⟩
        rw [← hm] at hB hlk
        have HM := Lib.hid hm
        by_cases hb : s1.bad = none
        · have X0 := hB.callO (hB.pd.anyB (B' := Bx) hb (by omega)) (Onl.refl rb wr)
          have hkW := hB.pd.inv.1
          have hlk1 := hlk hb
          have hm1 : m + 1 ≤ maxLen := by unfold maxLen; omega
          have hm2 : (m + 1) * 8 ≤ 140737488355328 := by omega
          have HK0 := Lib.hid K0.1
          have HLK := Lib.hid hlk
          have c6 : wr.cell? ⟨rb, 6, none⟩ = some (.int .i64 0) := by have := X0.pd.err; rw [hb] at this; exact this
          obtain ⟨kx, nvx, hAx, hkx, _⟩ := X0.pd.cells
          obtain rfl := hkx hb
          have c2 : wr.cell? ⟨rb, 2, none⟩ = some (.int .i64 (s1.k : Nat)) := hAx.cell 2 rfl
          clear hAx hkx
          by_cases hw : s1.k < W.length
          · have hw3 : decide ((s1.k : Int) < (W.length : Int)) = true := decide_eq_true (by omega)
            have hw4 : (s1.k : Int) < (W.length : Int) := by omega
            have KN := K0.fn hS
            have HKN := Lib.hid ((KR.call KN).less (c' := 0) (d' := 0) (by omega) (by omega))
            have HKK : Hid ((st s1).2.bad = none → s1.k < (st s1).2.k) := Lib.hid fun hg => by have := (KN.2.2.1.2 hg).2.2; omega
            have HTn := Lib.hid (hE.turnS hb hw HKK.out)
            clear hlk hE hB KN hkW hlk1 hw hm
            go_upto_region 17 with (fail)
            clear c6 c2 hw3 hw4
            have HB := fun w9 (h9 : PdAt (c.on (.slice q m cc)) fd W en w9 rb g1 Bx s1) => HT _ s1 _ w9 hb (K0.2.2.2 hb).2 K0.2.2.2 (h9.anyB (B' := Bx) hb (by omega))
            obtain ⟨i0, hi0, hz0, hz1, hz2⟩ := info_parts Tryz.infoInt
            have hm1 : m + 1 ≤ maxLen := hm1
            have hm2 : (m + 1) * 8 ≤ 140737488355328 := hm2
            have hXd := X0.grow ((Below.refl wr.heap.size wr).drew)
            have c3z : wr.cell? ⟨w.heap.size, 3, none⟩ = some (.slice q m cc) := X0.box.cell 3 rfl
            have HXD := Lib.hid hXd
            clear hXd X0
            go_region_law
              ((first
                | (go_simp; refine (HB _ HXD.out.pd).mono ?_; rintro e w5q ⟨g5q, v5q, rfl, hv5q, h5q, T5q⟩
                   have X5q := HXD.out.callT h5q T5q
                   have c3a : w5q.cell? ⟨w.heap.size, 3, none⟩ = some (.slice q m cc) := X5q.box.cell 3 rfl
                   have c3b : (w5q.alloc (.cells #[.int .i64 v5q] 3)).cell? ⟨w.heap.size, 3, none⟩ = some (.slice q m cc) := (At.alloc X5q.box _).cell 3 rfl
                   have HOW := Lib.hid (ownsRow_belowT (X5q.ownM HM.out) (boxT w5q (.cells #[.int .i64 v5q] 3)))
                   have hsz5 : w.heap.size ≤ w5q.heap.size := X5q.trn.1.size
                   have HX5 := Lib.hid (And.intro hv5q X5q)
                   clear X5q h5q T5q hv5q)
                | (refine step_append_lies _ (by rfl) _ _ _ (by rfl) w.heap.size 3 i0 _ 1 8 Tryz.underlying23 hi0 hz0 hz1 hz2 rfl (by decide) (.slice q m cc) m (ints l) (by rfl) HOW.out ⟨w5q.heap.size, 0, none⟩ 1 1 [.int .i64 v5q] (by rfl) (by rfl) (World.news_of_block (cs := #[.int .i64 v5q]) (t := 3) (fr := (0, 0)) (heap_alloc_new w5q _)) (by simp [Value.oneCell']) (by omega) hm1 hm2 (by simp; omega) (w5q.heap.size + 1) (by simp) ?_; intro k2q cap2q w8q hown3 hgrow hat hlt3
                   have A8q := HX5.out.2.boxGrown hgrow
                   have c3e : w8q.cell? ⟨w.heap.size, 3, none⟩ = some (.slice q m cc) := A8q.cell 3 rfl
                   have f3e : w8q.frozen? ⟨w.heap.size, 3, none⟩ = false := At.free A8q 3
                   have HG := Lib.hid (HX5.out.2.pushM HM.out hown3 hgrow (hat.imp id fun h => h.trans (by show _ = (w5q.heap.push _).size; simp)) hlt3)
                   clear A8q hown3 hgrow hat hlt3)))
            all_goals
              have hv5q := HX5.out.1
              have X1 : PdB c fd W en rb Bx g w w.heap.size (.int .i64 1) (.string ⟨#[]⟩) (.int .i64 0) (.slice (some ⟨k2q, 0, none⟩) (m + 1) cap2q) (l ++ [v5q]) g5q (st s1).2 (w8q.setCell ⟨w.heap.size, 3, none⟩ (.slice (some ⟨k2q, 0, none⟩) (m + 1) cap2q)) := HG.out
              have K1 := K0.fn hS
              clear HG HX5 HOW HXD HB c3a c3b c3e f3e hm1 hm2 hi0 hz0 hz1 hz2 hsz5
              have hN : (st s1).2 = (st s1).2 := rfl
              have h1 := HTn.out
              have h2 := HKN.out
              have h3 := HKK.out
              have HH := Lib.hid (And.intro h1 (And.intro h2 h3))
              clear h1 h2 h3 hN
              go_wp2_with fail
              go_roundw
              case rel => exact ⟨_, g5q, _, _, X1.more (by omega) (by omega), HH.out.2.1, HH.out.1.swap (fun hg2 => by rw [hv5q hg2]), fun hg2 => by have := HH.out.2.2 hg2; have := HLK.out hb; rw [List.length_append, ← HM.out]; show _ + 1 ≤ _; omega⟩
              case measure => (have h9 := HMO.out; rw [if_pos hb] at h9; have hk0 := HK0.out.1; have hkn := X1.pd.inv.1; rw [h9, mOf_at X1.pd]; split
                               · rename_i hg2; have := HH.out.2.2 hg2; omega
                               · omega)
          · obtain ⟨lx, hR, hlx⟩ := hE.doneS hw
            have HR := Lib.hid (And.intro hR (And.intro KR (And.intro hlx (And.intro hlk hw))))
            have hw2 : ¬ ((s1.k : Int) < (W.length : Int)) := by omega
            have hw3 : decide ((s1.k : Int) < (W.length : Int)) = false := decide_eq_false hw2
            clear hE hlk KR HMO hB hR hlx hm HK0 HLK hkW hlk1 hw
            go_wp2_with fail
            go_meet
            exact ⟨⟨l, lx, g1, s1, _, X0.more (by omega) (by omega), HR.out.2.1, HR.out.1, HR.out.2.2.1, fun hg => by rw [← HM.out]; exact HR.out.2.2.2.1 hg⟩, fun _ => by rw [HR.out.1]; have := HR.out.2.2.2.2; show W.length ≤ s1.k; omega⟩
        · have hkb := hB.pd.inv.2.2.1 hb
          obtain ⟨lx, hR, hlx⟩ := hE.doneS (by omega)
          have X0 := hB
          have HR := Lib.hid (And.intro hR (And.intro KR (And.intro hlx hlk)))
          clear hE hlk KR HMO hB hR hlx hm hkb
          have c6 := X0.pd.err
          have q6 := bad_err2 X0.pd.inv hb
          have q7 := bad_err X0.pd.inv hb
          generalize (s1.bad.getD (0, 0)).2 = er at c6 q6 q7
          go_wp2_with fail
          clear c6 q6 q7
          go_meet
          exact ⟨⟨l, lx, g1, s1, _, X0, HR.out.2.1, HR.out.1, HR.out.2.2.1, fun hg => by rw [← HM.out]; exact HR.out.2.2.2 hg⟩, fun hg => absurd (by rw [HR.out.1] at hg; exact hg) hb⟩

    case rest =>
      obtain ⟨⟨l, lx, g1, s1, V, hB, KR, hR, hlx, hlk⟩, hkW⟩ := hcut
      clear HX0
      have hpr : programR W en ty st = nodeR W ⟨1, [], 0, lx⟩ s1 := by
        unfold programR
        dsimp only
        rw [HR0.out]
        dsimp only
        rw [hR]
      rw [hR] at hkW
      have HPR := Lib.hid hpr
      clear hpr hR HR0
      obtain ⟨q, cc, rfl⟩ := hB.row.form
      have hbW : Below wi.heap.size wi wc := HBW.out.1.trans (hB.trn.1.mono HBW.out.2)
      have hwlb : wi.heap.size ≤ rb + 1 := by have := HBW.out.2; omega
      by_cases hb : s1.bad = none
      · obtain rfl := hlx hb
        have hk2 : s1.k = W.length := Nat.le_antisymm hB.pd.inv.1 (hkW hb)
        obtain ⟨hXo, hps⟩ := hB.out 1 [] 0
        have c6 : wc.cell? ⟨rb, 6, none⟩ = some (.int .i64 0) := by have := hXo.pd.err; rw [hb] at this; exact this
        have hinv := hXo.pd.inv
        obtain ⟨⟨k, nv, XX, hA, n1, n2, n3, n4, n5⟩, ki, kb, kba, kt, kr, ksh, khe, kmo, kwo⟩ := id hXo.pd
        obtain ⟨n6, rfl⟩ := n3 hb
        obtain ⟨xm, hxm⟩ : ∃ xm, xm = XX.length := ⟨_, rfl⟩
        have hxt : xm = s1.t.length := by rw [hxm, ← n6, List.length_map]
        obtain ⟨qn, cn, rfl⟩ : ∃ q cc, nv = .slice q xm cc := by
          rcases n2.1.2 with ⟨rfl, h0⟩ | ⟨gg, cap, cur, rfl, _⟩
          · exact ⟨none, 0, by rw [hxm, h0]⟩
          · exact ⟨_, cap, by rw [← hxm]⟩
        have c3 : wc.cell? ⟨rb, 3, none⟩ = some (.slice qn xm cn) := hA.cell 3 rfl
        by_cases hf : 300 ≤ s1.t.length
        · have hti := hinv.2.1 hb
          obtain ⟨G, capT, hq0, hcell⟩ : ∃ (G capT : Nat), q0 = some ⟨G, 0, none⟩ ∧ wc.cell? ⟨G, (W.length - 1) * 2 + 1, none⟩ = some (.int .i64 ((W.getD (W.length - 1) ([], 0)).2 : Nat)) := by
            obtain ⟨qT, capT, hfd', hWl', hT'⟩ := id kt
            obtain ⟨G, hqT, hG, _, hcs⟩ := hT' (by omega)
            have h9 := HFD.out.symm.trans hfd'
            injection h9 with h91 h92 h93
            exact ⟨G, capT, h91.trans hqT, (kb.cell (p := ⟨G, (W.length - 1) * 2 + 1, none⟩) hG).trans (hcs (W.length - 1) (by omega)).2⟩
          have hWL : W.length ≤ 1000000 := by obtain ⟨_, _, _, h, _⟩ := id kt; exact h
          obtain ⟨k1, hk1⟩ : ∃ k1, k1 = W.length - 1 := ⟨_, rfl⟩
          rw [← hk1] at hcell
          have e1 : IntKind.i64.wrap ((W.length : Int) - 1) = (k1 : Int) := by rw [IntKind.wrap_i64]; omega
          have g9 : (k1 : Int) < (W.length : Int) := by omega
          have u300 : (300 : Int) ≤ (xm : Int) := by omega
          have u301 : decide ((300 : Int) ≤ (xm : Int)) = true := decide_eq_true u300
          have hnr : nodeR W ⟨1, [], 0, l⟩ s1 = (0, failR W (W.getD k1 ([], 0)).2 2 s1) := by unfold nodeR; rw [hb]; dsimp only; rw [if_pos hf, hk2, ← hk1]
          generalize (W.getD k1 ([], 0)).2 = av at *
          have hpb : (programR W en ty st).2.bad = some (av, 2) := by rw [HPR.out, hnr]; show (failR W av 2 s1).bad = _; unfold failR; rw [hb]
          have fin : ∀ w9, Below wi.heap.size wi w9 → PPost s.data.toList wi (.returned (.tuple #[.slice none 0 0, .int .i64 (av : Nat), .int .i64 2])) w9 := fun w9 hb9 => ⟨_, [], by rw [HP0.out.2 av 2 hpb], NRow.nil _ _ _, by rw [HP0.out.2 av 2 hpb]; rfl, hb9⟩
          have FIN := Lib.hid fin
          have hXp := hXo.pd
          have HBB := Lib.hid (And.intro hbW HBW.out.2)
          subst hq0
          clear hB KR hlk hkW hk2 hXo hps hinv hA n1 n2 n3 n4 n5 n6 ki kb kba kt kr ksh khe kmo kwo hxm hxt hti hf fin hpb hnr hk1 hbW hwlb
          go_wp2_with fail
          refine (rfails_any av 2 (by decide) _ hXp hb).mono ?_
          rintro e w8 ⟨rfl, hp8, hO8⟩
          clear c3 c6 hcell
          obtain ⟨k8, nv8, hA8, _⟩ := hp8.cells
          have hb8 : (failR W av 2 s1).bad = some (av, 2) := by unfold failR; rw [hb]
          have d5 : w8.cell? ⟨rb, 5, none⟩ = some (.int .i64 (av : Nat)) := by have h : w8.cell? ⟨rb, 5, none⟩ = some (.int .i64 (((((failR W av 2 s1).bad.getD (0, 0)).1 : Nat)) : Int)) := hA8.cell 5 rfl; rw [hb8] at h; exact h
          have d6 : w8.cell? ⟨rb, 6, none⟩ = some (.int .i64 2) := by have h : w8.cell? ⟨rb, 6, none⟩ = some (.int .i64 ((failR W av 2 s1).bad.getD (0, 0)).2) := hA8.cell 6 rfl; rw [hb8] at h; exact h
          have hb3 : Below wi.heap.size wi w8 := HBB.out.1.trans (hO8.1.mono HBB.out.2)
          clear hp8 hO8 hXp hA8 hb8
          go_wp2_with fail
          go_region
          all_goals go_wp2_with fail
          all_goals exact bodyPost_ret (v := .tuple #[.slice none 0 0, .int .i64 (av : Nat), .int .i64 2]) (by simp [results, Tryz.results12, go_sem]) rfl (FIN.out _ (by first | exact hb3 | exact hb3.drew))
        · have u300 : ¬ (300 : Int) ≤ (xm : Int) := by omega
          have u301 : decide ((300 : Int) ≤ (xm : Int)) = false := decide_eq_false u300
          have hnr : nodeR W ⟨1, [], 0, l⟩ s1 = ((s1.t.length : Int), ⟨s1.k, s1.ar, s1.t ++ [⟨1, [], 0, l⟩], s1.bad⟩) := by unfold nodeR; rw [hb]; dsimp only; rw [if_neg hf]
          have hpb : (programR W en ty st).2.bad = none ∧ (programR W en ty st).2.t = s1.t ++ [⟨1, [], 0, l⟩] := by rw [HPR.out, hnr]; exact ⟨hb, rfl⟩
          have e0 := hXo.box.cell 0 rfl
          have e1 := hXo.box.cell 1 rfl
          have e2 := hXo.box.cell 2 rfl
          have e3 := hXo.box.cell 3 rfl
          obtain ⟨i0, hi0, hz0, hz1, hz2⟩ := info_parts Tryz.infoNode
          have hm1 : xm + 1 ≤ maxLen := by unfold maxLen; omega
          have hm2 : (xm + 1) * 56 ≤ 140737488355328 := by omega
          have hltr : rb < wc.heap.size := hXo.pd.lt
          have hown := ((n2.1.alloc (.cells #[.int .i64 1, .string ⟨#[]⟩, .int .i64 0, .slice q l.length cc] 83)).drew)
          rw [← hxm] at hown
          have HOW := Lib.hid hown
          have HN := Lib.hid (And.intro n2 (And.intro n6 (And.intro hxm hps)))
          have HPB := Lib.hid hpb
          have HBB := Lib.hid (And.intro hbW hwlb)
          have HC2 := HC
          clear hB KR hlk hkW hk2 hXo hps hinv hA n1 n2 n3 n4 n5 n6 ki kb kba kt kr ksh khe kmo kwo hxm hxt hf hpb hnr hbW hwlb hown
          go_wp2_with fail
          go_region_law
            ((refine step_append_lies _ (by rfl) _ _ _ (by rfl) (rb + 1) 83 i0 _ 4 56 Tryz.underlying36 hi0 hz0 hz1 hz2 rfl (by omega) (.slice qn xm cn) xm (XX.flatMap ndC) (by rfl) HOW.out ⟨wc.heap.size, 0, none⟩ 1 1 [.int .i64 1, .string ⟨#[]⟩, .int .i64 0, .slice q l.length cc] (by rfl) (by rfl) (World.news_of_block (cs := #[.int .i64 1, .string ⟨#[]⟩, .int .i64 0, .slice q l.length cc]) (t := 83) (fr := (0, 0)) (heap_alloc_new wc _)) (by simp [Value.oneCell']) (by omega) hm1 hm2 (by simp; omega) (wc.heap.size + 1) (by simp) ?_; intro g2 cap2 w8 hown3 hgrow hat hlt3
              have HO3 := Lib.hid hown3
              have HGR := Lib.hid hgrow
              clear hown3 hgrow hat))
          all_goals
            have hbA := ((Below.refl rb wc).alloc (Nat.le_of_lt hltr) (.cells #[.int .i64 1, .string ⟨#[]⟩, .int .i64 0, .slice q l.length cc] 83)).drew
            have hb8 : Below rb wc w8 := hbA.grown HGR.out (Nat.le_trans (Nat.le_of_lt hltr) hbA.size) (fun k hk => Nat.le_of_succ_le (own_geT HOW.out hk))
            have hkeep : ∀ b cs, At wc b cs 3 → At w8 b cs 3 := fun b cs hb => At.grownT (At.drew (At.alloc hb (.cells #[.int .i64 1, .string ⟨#[]⟩, .int .i64 0, .slice q l.length cc] 83))) HGR.out (fun e => by
              obtain ⟨cs', hc⟩ := row_typed HN.out.1 e
              exact absurd (at_type hc hb) (by decide))
            have hN8 : NRow c.F w8 (rb + 1) (.slice (some ⟨g2, 0, none⟩) (xm + 1) cap2) (XX ++ [⟨⟨1, [], 0, l⟩, q, cc⟩]) := by
              refine ⟨?_, fun y hy => ?_⟩
              · have := HO3.out
                rw [List.length_append, ← HN.out.2.2.1, List.flatMap_append]
                exact this
              · rcases List.mem_append.1 hy with h1 | h1
                · exact (HN.out.1.2 y h1).keep hkeep
                · rw [List.mem_singleton] at h1
                  subst h1
                  exact HN.out.2.2.2.keep hkeep
            have hcF : c.F = fun _ => False := by rw [HC.out]
            rw [hcF] at hN8
            have fin : PPost s.data.toList wi (.returned (.tuple #[.slice (some ⟨g2, 0, none⟩) (xm + 1) cap2, .int .i64 ((0 : Nat) : Int), .int .i64 0])) w8 := ⟨_, XX ++ [⟨⟨1, [], 0, l⟩, q, cc⟩], by rw [HP0.out.1 HPB.out.1], hN8.lower HBB.out.2, by rw [HP0.out.1 HPB.out.1, List.map_append, HN.out.2.1, HPB.out.2]; rfl, HBB.out.1.trans (hb8.mono (by have := HBW.out.2; exact this))⟩
            have FIN := Lib.hid fin
            clear fin hN8 hkeep hb8 hbA hcF
            go_wp2_with fail
            exact bodyPost_ret (v := .tuple #[.slice (some ⟨g2, 0, none⟩) (xm + 1) cap2, .int .i64 0, .int .i64 0]) (by simp [results, Tryz.results12, go_sem]) rfl FIN.out
      · have hinv := hB.pd.inv
        obtain ⟨k8, nv8, hA8, _⟩ := hB.pd.cells
        obtain ⟨a0, e0, hs⟩ : ∃ a0 e0, s1.bad = some (a0, e0) := by
          cases h : s1.bad with
          | none => exact absurd h hb
          | some x => exact ⟨x.1, x.2, rfl⟩
        have he0 : e0 ≠ 0 := hinv.2.2.2 _ _ hs
        have q6 : (e0 == 0) = false := by rw [beq_eq_false_iff_ne]; exact he0
        have q7 : (e0 != 0) = true := by rw [bne_iff_ne]; exact he0
        have d5 : wc.cell? ⟨rb, 5, none⟩ = some (.int .i64 (a0 : Nat)) := by have h : wc.cell? ⟨rb, 5, none⟩ = some (.int .i64 ((((s1.bad.getD (0, 0)).1 : Nat)) : Int)) := hA8.cell 5 rfl; rw [hs] at h; exact h
        have d6 : wc.cell? ⟨rb, 6, none⟩ = some (.int .i64 e0) := by have h : wc.cell? ⟨rb, 6, none⟩ = some (.int .i64 (s1.bad.getD (0, 0)).2) := hA8.cell 6 rfl; rw [hs] at h; exact h
        have hpb : (programR W en ty st).2.bad = some (a0, e0) := by rw [HPR.out, nodeR_bad _ hb]; exact hs
        have fin : ∀ w9, Below wi.heap.size wi w9 → PPost s.data.toList wi (.returned (.tuple #[.slice none 0 0, .int .i64 (a0 : Nat), .int .i64 e0])) w9 := fun w9 hb9 => ⟨_, [], by rw [HP0.out.2 a0 e0 hpb], NRow.nil _ _ _, by rw [HP0.out.2 a0 e0 hpb]; rfl, hb9⟩
        have FIN := Lib.hid fin
        clear hB KR hlk hlx hkW hA8 hinv hs he0 hpb fin hwlb
        go_wp2_with fail
        go_region
        all_goals go_wp2_with fail
        all_goals exact bodyPost_ret (v := .tuple #[.slice none 0 0, .int .i64 (a0 : Nat), .int .i64 e0]) (by simp [results, Tryz.results12, go_sem]) rfl (FIN.out _ (by first | exact hbW | exact hbW.drew))
end Go.Proofs.YtkhklndmbfbnoaaGreatDoor
