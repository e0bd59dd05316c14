/- Package prog: the way through all statements: goOn. -/
import Derived.Test.YtncdbjflfhfddaaGreatGG0
namespace Go.Proofs.YtncdbjflfhfddaaGreat
open Go.ChangeShapes Go.WideShapes Go.ChangeAt Go.RowKit Go.Joins Go.Deep
set_option linter.unusedVariables false


def GoP (w0 w : World) (pb ib mb : Nat) (P : PX) (v1 v2 v3 v4 v5 : Value) (dn st : Int) (ord : Bool) (r : Option GS) (e : Ending) (w' : World) : Prop :=
  ∃ (b : Bool) (G : GS), e = .returned (.bool b) ∧ GoAt w0 w' pb ib mb P v1 v2 v3 v4 v5 dn st ord G ∧ Bk pb ib mb w w' ∧ r = (if b then some G else none)
def HQ (w0 : World) (pb ib mb : Nat) (P : PX) (v1 v2 v3 v4 v5 : Value) (dn st : Int) (ord : Bool) (n : Nat) : Prop :=
  ∀ (l : List Int) (vl : Value) (deep : Int) (lo : Bool) (G : GS) (w : World), deep + n = 6 → 0 ≤ deep → IsIs w0 vl l → GoAt w0 w pb ib mb P v1 v2 v3 v4 v5 dn st ord G →
    Calls Tryz.prog 61 #[.pointer (some ⟨pb, 0, none⟩), vl, .int .i64 deep, .bool lo] w (GoP w0 w pb ib mb P v1 v2 v3 v4 v5 dn st ord (goF P n l deep lo G))
theorem goOn_zero (w0 : World) (pb ib mb : Nat) (P : PX) (v1 v2 v3 v4 v5 : Value) (dn st : Int) (ord : Bool) : HQ w0 pb ib mb P v1 v2 v3 v4 v5 dn st ord 0 := by
  intro l vl deep lo G w hd hd0' hl hG
  obtain rfl : deep = 6 := by omega
  obtain ⟨q, cap, rfl, hm, hcap, hc⟩ := hl
  unfold maxLen at hm
  by_cases h0 : l.length = 0
  · have FIN : Hid (GoP w0 w pb ib mb P v1 v2 v3 v4 v5 dn st ord (goF P 0 l 6 lo G) (.returned (.bool true)) w) := Lib.hid ⟨true, G, rfl, hG, Bk.refl _ _ _ _, by simp [goF, h0]⟩
    rw [h0]
    clear hc h0 hG hm hcap
    go_enter Tryz.func61, Tryz.ntmps61
    go_wp2
    go_loopw [21] (fun v wr => v = .int .i64 0 ∧ w = wr) (fun v _ => 0)
    case atStart => exact ⟨rfl, rfl⟩
    case round =>
      obtain ⟨rfl, rfl⟩ := hrel
      go_wp2
      go_ret
      exact FIN.out
  · have FIN : Hid (GoP w0 w pb ib mb P v1 v2 v3 v4 v5 dn st ord (goF P 0 l 6 lo G) (.returned (.bool false)) w) := Lib.hid ⟨false, G, rfl, hG, Bk.refl _ _ _ _, by simp [goF, h0]⟩
    have h1 : (0 : Int) < (l.length : Int) := by omega
    generalize l.length = n at *
    clear hc h0 hG hm hcap
    go_enter Tryz.func61, Tryz.ntmps61
    go_wp2
    go_ret
    exact FIN.out
theorem drop_cons' {l : List Int} {i : Nat} {x : Int} (h : l[i]? = some x) : l.drop i = x :: l.drop (i + 1) := by
  obtain ⟨hi, hx⟩ := List.getElem?_eq_some_iff.1 h
  rw [← hx]
  exact List.drop_eq_getElem_cons hi
theorem goL_cons {σ : Type} (f : Int → σ → Option σ) (x : Int) (r : List Int) (st : σ) : goL f (x :: r) st = (f x st).bind (goL f r) := by
  unfold goL
  cases f x st <;> rfl
theorem goS_yes (P : PX) (rec : List Int → Int → Bool → GS → Option GS) (deep : Int) (lo : Bool) (st : GS) (m : Nat) (hm : m = st.met) (h : m < P.sts.length) : goS P rec deep lo (m : Int) st = (newS (P.sts.getD m default) lo { st with met := m + 1, inner := st.inner.set m deep }).bind fun st2 => (rec (P.sts.getD m default).body (deep + 1) (lo || ((P.sts.getD m default).op == 6)) st2).bind fun st3 => rec (P.sts.getD m default).els (deep + 1) lo st3 := by
  subst hm
  unfold goS
  rw [if_pos ⟨rfl, h⟩]
  cases newS (P.sts.getD st.met default) lo { st with met := st.met + 1, inner := st.inner.set st.met deep } with
  | none => rfl
  | some a =>
    simp only [Option.bind_some]
    cases rec (P.sts.getD st.met default).body (deep + 1) (lo || ((P.sts.getD st.met default).op == 6)) a <;> rfl
def RelG (w0 w : World) (pb ib mb : Nat) (P : PX) (v1 v2 v3 v4 v5 : Value) (dn st : Int) (ord : Bool) (n : Nat) (l : List Int) (deep : Int) (lo : Bool) (G : GS) (len : Nat) (v : Value) (wr : World) : Prop :=
  ∃ (i : Nat) (G2 : GS), i ≤ len ∧ v = .int .i64 (i : Nat) ∧ GoAt w0 wr pb ib mb P v1 v2 v3 v4 v5 dn st ord G2 ∧ Bk pb ib mb w wr ∧ goL (goS P (goF P n) deep lo) (l.drop i) G2 = goL (goS P (goF P n) deep lo) l G
set_option maxRecDepth 100000 in
set_option maxHeartbeats 6400000 in
theorem goOn_succ (w0 : World) (pb ib mb : Nat) (P : PX) (v1 v2 v3 v4 v5 : Value) (dn st : Int) (ord : Bool) (hx : GoCx w0 pb ib mb P v1 v2 v3 v4 v5) (n : Nat) (IH : HQ w0 pb ib mb P v1 v2 v3 v4 v5 dn st ord n) : HQ w0 pb ib mb P v1 v2 v3 v4 v5 dn st ord (n + 1) := by
  intro l vl deep lo G w hd hd0' hl hG
  have hl0 := hl
  obtain ⟨q, cap, rfl, hm, hcap, hc⟩ := hl
  unfold maxLen at hm
  obtain ⟨len, hlen⟩ : ∃ len, len = l.length := ⟨_, rfl⟩
  rw [← hlen] at hm hcap hc ⊢
  have hd5 : ¬ 5 < deep := by omega
  have hdd : decide (5 < deep) = false := decide_eq_false hd5
  have ew : IntKind.i64.wrap (deep + 1) = deep + 1 := by rw [IntKind.wrap_i64]; omega
  have hrw : goF P (n + 1) l deep lo G = goL (goS P (goF P n) deep lo) l G := rfl
  rw [hrw]
  obtain ⟨R, hR⟩ : ∃ R, goL (goS P (goF P n) deep lo) l G = R := ⟨_, rfl⟩
  rw [hR]
  have H0 : RelG w0 w pb ib mb P v1 v2 v3 v4 v5 dn st ord n l deep lo G len (.int .i64 0) w := ⟨0, G, Nat.zero_le _, rfl, hG, Bk.refl _ _ _ _, rfl⟩
  have HC := Lib.hid hc
  have HL := Lib.hid hlen
  have HIH := Lib.hid IH
  have HXX := Lib.hid hx
  have HH0 := Lib.hid H0
  have HRR := Lib.hid hR
  have HDD : Hid (deep + 1 + n = 6 ∧ 0 ≤ deep + 1) := Lib.hid (by omega)
  have hd0 : deep ≤ 5 := by omega
  clear hc hlen IH hx H0 hR hrw hl0 hG hd
  by_cases hl0 : 0 < len
  all_goals have hl1 : (0 : Int) < (len : Int) ∨ True := Or.inr trivial
  · have hl2 : (0 : Int) < (len : Int) := by omega
    clear hl1
    go_enter Tryz.func61, Tryz.ntmps61
    go_wp2
    go_loopw [21] (fun v wr => RelG w0 w pb ib mb P v1 v2 v3 v4 v5 dn st ord n l deep lo G len v wr) (fun v _ => len - (intOf v).toNat)
    case atStart => exact HH0.out
    case round =>
      obtain ⟨i, G2, hi, rfl, hG2, hbr, hgl⟩ := hrel
      by_cases hlt : i < len
      · obtain ⟨b, o, rfl, hbs, hcell⟩ := HC.out (by omega)
        obtain ⟨x, hxi⟩ : ∃ x, l[i]? = some x := ⟨_, List.getElem?_eq_getElem (by rw [← HL.out]; exact hlt)⟩
        have c1 : wr.cell? ⟨b, o + i, none⟩ = some (.int .i64 x) := by have := cell_below (hcell i x hxi) (show Below w0.heap.size w0 wr by rw [HXX.out.hpb]; exact hG2.below); simpa using this
        have hj3 : (i : Int) < (len : Int) := by omega
        rw [drop_cons' hxi] at hgl
        rw [goL_cons, HRR.out] at hgl
        clear hcell hxi
        have hmet := hG2.met
        have hs40 := HXX.out.hs
        have c10 : wr.cell? ⟨pb, 10, none⟩ = some (.int .i32 (G2.met : Nat)) := hG2.cell 10 rfl
        have cN := gNext_any pb G2.met (by omega) wr c10
        obtain ⟨v4q, v4c, rfl, hv4l, hv4c, hv4⟩ := (HXX.out.at hG2.below).2.2.2.1
        have c5 : wr.cell? ⟨pb, 5, none⟩ = some (.slice v4q P.sts.length v4c) := hG2.cell 5 rfl
        have HG2 := Lib.hid hG2
        have HGL := Lib.hid hgl
        have HBR := Lib.hid hbr
        obtain ⟨m, hmm⟩ : ∃ m, m = G2.met := ⟨_, rfl⟩
        obtain ⟨ns, hns⟩ : ∃ ns, ns = P.sts.length := ⟨_, rfl⟩
        rw [← hmm] at cN hmet c10
        rw [← hns] at hmet c5 hs40 hv4l hv4c
        have HM := Lib.hid (And.intro hmm hns)
        have HV4 := Lib.hid hv4
        clear hG2 hgl hbr hmm hns hv4
        by_cases hxm : x = (m : Int)
        · subst hxm
          by_cases hms : m < ns
          · have hms2 : (m : Int) < (ns : Int) := by omega
            have hms3 : decide ((ns : Int) ≤ (m : Int)) = false := decide_eq_false (by omega)
            have hgs := goS_yes P (goF P n) deep lo G2 m HM.out.1 (by rw [← HM.out.2]; exact hms)
            have HGS := Lib.hid hgs
            clear hgs
            have cA := add32 pb 10 (m : Nat) (by omega) wr c10 (At.free HG2.out.cells 10)
            go_upto_region 9 with (first | (go_at_call 62; (with_reducible refine cN.mono ?_); rintro e w' ⟨rfl, rfl⟩) | (go_at_call 77; refine cA.mono ?_; rintro e w' ⟨rfl, rfl⟩))
            have g3 : GoAt w0 (wr.setCell ⟨pb, 10, none⟩ (.int .i32 ((m : Int) + 1))) pb ib mb P v1 v2 v3 (.slice v4q ns v4c) v5 dn st ord { G2 with met := m + 1 } := by have := HG2.out.addMet HXX.out (by rw [← HM.out.1, ← HM.out.2]; exact hms); rw [← HM.out.1, ← HM.out.2] at this; exact this
            have b3 : Bk pb ib mb wr (wr.setCell ⟨pb, 10, none⟩ (.int .i32 ((m : Int) + 1))) := Bk.set HXX.out.h1 HXX.out.h2 (Or.inl rfl) _ _ _
            generalize wr.setCell ⟨pb, 10, none⟩ (.int .i32 ((m : Int) + 1)) = w3 at g3 b3 ⊢
            have i12 : w3.cell? ⟨pb, 12, none⟩ = some (.slice (some ⟨ib, 0, none⟩) ns ns) := by have : w3.cell? ⟨pb, 12, none⟩ = some (.slice (some ⟨ib, 0, none⟩) P.sts.length P.sts.length) := g3.cell 12 rfl; rw [← HM.out.2] at this; exact this
            obtain ⟨y0, hy0⟩ : ∃ y, G2.inner[m]? = some y := ⟨_, List.getElem?_eq_getElem (by rw [HG2.out.li, ← HM.out.2]; exact hms)⟩
            have i13 := g3.inn.cell m (intA_get hy0)
            have i14 := At.free g3.inn m
            have G3 := Lib.hid g3
            have B3 := Lib.hid (HBR.out.trans b3)
            clear g3 b3 cA cN c10 c1 hy0 c5
            go_upto_region 10 with (fail)
            have g4 : GoAt w0 (w3.setCell ⟨ib, m, none⟩ (.int .i64 deep)) pb ib mb P v1 v2 v3 (.slice v4q ns v4c) v5 dn st ord { G2 with met := m + 1, inner := G2.inner.set m deep } := by have := G3.out.setInn (by have := HXX.out; rw [← HM.out.2] at this; exact this) m deep (by rw [← HM.out.2]; exact hms); exact this
            have b4 : Bk pb ib mb w (w3.setCell ⟨ib, m, none⟩ (.int .i64 deep)) := B3.out.trans (Bk.set HXX.out.h1 HXX.out.h2 (Or.inr (Or.inl rfl)) _ _ _)
            generalize w3.setCell ⟨ib, m, none⟩ (.int .i64 deep) = w4 at g4 b4 ⊢
            obtain ⟨s, hs⟩ : ∃ s, P.sts[m]? = some s := ⟨_, List.getElem?_eq_getElem (by rw [← HM.out.2]; exact hms)⟩
            have hsd : P.sts.getD m default = s := by rw [List.getD_eq_getElem?_getD, hs]; rfl
            have hnew : s.op = 3 → isNewB P s.n = true := HXX.out.new s (List.mem_of_getElem? hs)
            rw [hsd] at HGS
            have hgs := HGS.out
            unfold newS at hgs
            clear HGS
            obtain ⟨_, _, _, ⟨qq, cc, hqc, _, _, hcs⟩, _⟩ := HXX.out.pr
            obtain ⟨hqq, hcc⟩ : v4q = qq ∧ v4c = cc := by injection hqc with a b c; exact ⟨a, c⟩
            subst hcc
            obtain ⟨sb, so, hqe, hsbl, hscell⟩ := hcs (by rw [← HM.out.2]; omega)
            have hqs := hscell m s hs
            obtain ⟨vb, ve, s0, s1, s2, s3, s4, s5, s6, ibd, iel⟩ := id hqs
            have hb04 : Below w0.heap.size w0 w4 := by rw [HXX.out.hpb]; exact g4.below
            replace s0 := cell_below s0 hb04
            replace s1 := cell_below s1 hb04
            replace s2 := cell_below s2 hb04
            replace s3 := cell_below s3 hb04
            replace s4 := cell_below s4 hb04
            replace s5 := cell_below s5 hb04
            replace s6 := cell_below s6 hb04
            have c5 : w4.cell? ⟨pb, 5, none⟩ = some (.slice (some ⟨sb, so, none⟩) ns v4c) := by have : w4.cell? ⟨pb, 5, none⟩ = some (.slice v4q ns v4c) := g4.cell 5 rfl; rw [hqq, hqe] at this; exact this
            have IBD := Lib.hid ibd
            have IEL := Lib.hid iel
            obtain ⟨qb, cb, rfl, _⟩ := ibd
            obtain ⟨qe, ce, rfl, _⟩ := iel
            generalize s.body.length = nb at *
            generalize s.els.length = ne at *
            have hbx := below_box1 w4 (.cells #[.int .i64 s.op, .int .i64 s.to, .int .i64 s.kind, .int .i64 s.e, .int .i64 s.n, .slice qb nb cb, .slice qe ne ce] 53)
            have g5 := g4.bel hbx
            have b5 : Bk pb ib mb w _ := b4.trans (Bk.below hbx (Nat.le_of_lt g4.cells.lt))
            have hA5 := At.new w4 #[.int .i64 s.op, .int .i64 s.to, .int .i64 s.kind, .int .i64 s.e, .int .i64 s.n, .slice qb nb cb, .slice qe ne ce] 53
            have hpb4 : pb < w4.heap.size := g4.cells.lt
            generalize s.op = sop at *
            generalize s.to = sto at *
            generalize s.kind = skd at *
            generalize s.e = sse at *
            generalize s.n = sn at *
            have hne4 : w4.heap.size ≠ pb ∧ w4.heap.size ≠ ib ∧ w4.heap.size ≠ mb := ⟨Nat.ne_of_gt g4.cells.lt, Nat.ne_of_gt g4.inn.lt, Nat.ne_of_gt g4.mad.lt⟩
            have hk1 := HM.out.2
            subst hk1
            have HMZ := Lib.hid HM.out.1
            clear HM
            clear hqc hqq hqe hsbl hscell hqs hs hsd hcs g4 b4 hb04 i12 i13 i14 hbx
            go_upto_region 11 with (fail)
            obtain ⟨w5, hw5⟩ : ∃ w5, w4.alloc (.cells #[.int .i64 sop, .int .i64 sto, .int .i64 skd, .int .i64 sse, .int .i64 sn, .slice qb nb cb, .slice qe ne ce] 53) = w5 := ⟨_, rfl⟩
            rw [hw5] at g5 b5 hA5
            try rw [hw5]
            clear hw5
            generalize w4.heap.size = B4 at *
            have d0 : w5.cell? ⟨B4, 0, none⟩ = some (.int .i64 sop) := hA5.cell 0 rfl
            have d4 : w5.cell? ⟨B4, 4, none⟩ = some (.int .i64 sn) := hA5.cell 4 rfl
            have d5 : w5.cell? ⟨B4, 5, none⟩ = some (.slice qb nb cb) := hA5.cell 5 rfl
            have d6 : w5.cell? ⟨B4, 6, none⟩ = some (.slice qe ne ce) := hA5.cell 6 rfl
            clear s0 s1 s2 s3 s4 s5 s6 c5
            by_cases h3 : sop = 3
            · subst h3
              have hnw := hnew rfl
              simp [isNewB] at hnw
              obtain ⟨j, rfl⟩ : ∃ j : Nat, sn = (j : Int) := ⟨sn.toNat, by omega⟩
              have hjr : j < 1 + P.vars.length + P.news.length := by omega
              rw [if_pos rfl] at hgs
              rw [Int.toNat_natCast] at hgs
              cases lo
              · have cM := gMakes_any w0 w5 pb ib mb P v1 v2 v3 (.slice v4q P.sts.length v4c) v5 dn st ord _ j hjr HXX.out g5
                unfold MakesP at cM
                dsimp only at cM
                cases hbm : G2.made.getD j true
                · rw [hbm] at cM hgs
                  simp only [Bool.or_false, Bool.false_or, if_false, Bool.false_eq_true, Option.bind_some] at hgs
                  have HGS2 := Lib.hid hgs
                  clear hgs hnw hjr g5
                  go_upto_region 13 with (go_at_call 78; refine cM.mono ?_; rintro e w6 ⟨rfl, g6, k6⟩)
                  have hgs6 := HGS2.out
                  rw [show ((3 : Int) == 6) = false from rfl] at hgs6
                  have b6 := b5.trans k6
                  have hA6 := k6.at hA5 hne4.1 hne4.2.1 hne4.2.2
                  clear d0 d4 d5 d6 cM HGS2
                  have d0 : w6.cell? ⟨B4, 0, none⟩ = some (.int .i64 3) := hA6.cell 0 rfl
                  have d4 : w6.cell? ⟨B4, 4, none⟩ = some (.int .i64 (j : Int)) := hA6.cell 4 rfl
                  have d5 : w6.cell? ⟨B4, 5, none⟩ = some (.slice qb nb cb) := hA6.cell 5 rfl
                  have d6 : w6.cell? ⟨B4, 6, none⟩ = some (.slice qe ne ce) := hA6.cell 6 rfl
                  have cB := HIH.out s.body (.slice qb nb cb) (deep + 1) false _ _ HDD.out.1 HDD.out.2 IBD.out g6
                  go_wp2_with fail
                  refine cB.mono ?_
                  rintro e w7 ⟨b7, G7, rfl, g7, k7, r7⟩
                  rw [r7] at hgs6
                  have e7 := k7.at hA6 hne4.1 hne4.2.1 hne4.2.2
                  have B7 := Lib.hid (b6.trans k7)
                  clear cB r7 k7 d0 d4 d5 d6 hA6
                  have d6 : w7.cell? ⟨B4, 6, none⟩ = some (.slice qe ne ce) := e7.cell 6 rfl
                  have d0 : w7.cell? ⟨B4, 0, none⟩ = some (.int .i64 _) := e7.cell 0 rfl
                  cases b7
                  · have FIN : Hid (GoP w0 w pb ib mb P v1 v2 v3 (.slice v4q P.sts.length v4c) v5 dn st ord R (.returned (.bool false)) w7) := Lib.hid ⟨false, G7, rfl, g7, B7.out, by rw [← HGL.out, hgs6]; rfl⟩
                    clear hgs6 g7 e7
                    go_wp2_with fail
                    go_ret
                    exact FIN.out
                  · have cE := HIH.out s.els (.slice qe ne ce) (deep + 1) false _ _ HDD.out.1 HDD.out.2 IEL.out g7
                    have HG6 := Lib.hid hgs6
                    clear hgs6 g7 e7
                    go_wp2_with fail
                    refine cE.mono ?_
                    rintro e w8 ⟨b8, G8, rfl, g8, k8, r8⟩
                    have hgs6 := HG6.out
                    simp only [if_true, Option.bind_some] at hgs6
                    rw [r8] at hgs6
                    have B8 := Lib.hid (B7.out.trans k8)
                    clear cE r8 k8 d0 d6 HG6
                    cases b8
                    · have FIN : Hid (GoP w0 w pb ib mb P v1 v2 v3 (.slice v4q P.sts.length v4c) v5 dn st ord R (.returned (.bool false)) w8) := Lib.hid ⟨false, G8, rfl, g8, B8.out, by rw [← HGL.out, hgs6]; rfl⟩
                      clear hgs6 g8
                      go_wp2_with fail
                      go_ret
                      exact FIN.out
                    · have FIN : Hid (RelG w0 w pb ib mb P v1 v2 v3 (.slice v4q P.sts.length v4c) v5 dn st ord n l deep false G len (.int .i64 ((i + 1 : Nat) : Int)) w8) := Lib.hid ⟨i + 1, G8, by omega, rfl, g8, B8.out, by rw [HRR.out, ← HGL.out, hgs6]; rfl⟩
                      clear hgs6 g8
                      go_wp2_with fail
                      go_roundw
                      case rel => exact FIN.out
                      case measure => simp [intOf]; omega
                · rw [hbm] at cM hgs
                  have HGS2 := Lib.hid hgs
                  clear hgs hnw hjr g5
                  go_wp2_with (go_at_call 78; refine cM.mono ?_; rintro e w6 ⟨rfl, g6, k6⟩)
                  go_ret
                  exact ⟨false, _, rfl, g6, b5.trans k6, by rw [← HGL.out, HGS2.out]; rfl⟩
              · have HGS2 := Lib.hid hgs
                clear hgs hnw hjr
                go_wp2_with fail
                go_ret
                exact ⟨false, _, rfl, g5, b5, by rw [← HGL.out, HGS2.out]; rfl⟩
            · have h3b : (sop == 3) = false := beq_eq_false_iff_ne.2 h3
              rw [if_neg h3] at hgs
              simp only [Option.bind_some] at hgs
              have hgs6 := hgs
              have g6 := g5
              have b6 := b5
              have hA6 := hA5
              clear hgs g5 b5 hA5
              cases lo
              · simp only [Bool.false_or] at hgs6
                have cB := HIH.out s.body (.slice qb nb cb) (deep + 1) (sop == 6) _ _ HDD.out.1 HDD.out.2 IBD.out g6
                go_wp2_with fail
                refine cB.mono ?_
                rintro e w7 ⟨b7, G7, rfl, g7, k7, r7⟩
                rw [r7] at hgs6
                have e7 := k7.at hA6 hne4.1 hne4.2.1 hne4.2.2
                have B7 := Lib.hid (b6.trans k7)
                clear cB r7 k7 d0 d4 d5 d6 hA6
                have d6 : w7.cell? ⟨B4, 6, none⟩ = some (.slice qe ne ce) := e7.cell 6 rfl
                have d0 : w7.cell? ⟨B4, 0, none⟩ = some (.int .i64 _) := e7.cell 0 rfl
                cases b7
                · have FIN : Hid (GoP w0 w pb ib mb P v1 v2 v3 (.slice v4q P.sts.length v4c) v5 dn st ord R (.returned (.bool false)) w7) := Lib.hid ⟨false, G7, rfl, g7, B7.out, by rw [← HGL.out, hgs6]; rfl⟩
                  clear hgs6 g7 e7
                  go_wp2_with fail
                  go_ret
                  exact FIN.out
                · have cE := HIH.out s.els (.slice qe ne ce) (deep + 1) false _ _ HDD.out.1 HDD.out.2 IEL.out g7
                  have HG6 := Lib.hid hgs6
                  clear hgs6 g7 e7
                  go_wp2_with fail
                  refine cE.mono ?_
                  rintro e w8 ⟨b8, G8, rfl, g8, k8, r8⟩
                  have hgs6 := HG6.out
                  simp only [if_true, Option.bind_some] at hgs6
                  rw [r8] at hgs6
                  have B8 := Lib.hid (B7.out.trans k8)
                  clear cE r8 k8 d0 d6 HG6
                  cases b8
                  · have FIN : Hid (GoP w0 w pb ib mb P v1 v2 v3 (.slice v4q P.sts.length v4c) v5 dn st ord R (.returned (.bool false)) w8) := Lib.hid ⟨false, G8, rfl, g8, B8.out, by rw [← HGL.out, hgs6]; rfl⟩
                    clear hgs6 g8
                    go_wp2_with fail
                    go_ret
                    exact FIN.out
                  · have FIN : Hid (RelG w0 w pb ib mb P v1 v2 v3 (.slice v4q P.sts.length v4c) v5 dn st ord n l deep false G len (.int .i64 ((i + 1 : Nat) : Int)) w8) := Lib.hid ⟨i + 1, G8, by omega, rfl, g8, B8.out, by rw [HRR.out, ← HGL.out, hgs6]; rfl⟩
                    clear hgs6 g8
                    go_wp2_with fail
                    go_roundw
                    case rel => exact FIN.out
                    case measure => simp [intOf]; omega
              · simp only [Bool.true_or] at hgs6
                have cB := HIH.out s.body (.slice qb nb cb) (deep + 1) true _ _ HDD.out.1 HDD.out.2 IBD.out g6
                go_wp2_with fail
                refine cB.mono ?_
                rintro e w7 ⟨b7, G7, rfl, g7, k7, r7⟩
                rw [r7] at hgs6
                have e7 := k7.at hA6 hne4.1 hne4.2.1 hne4.2.2
                have B7 := Lib.hid (b6.trans k7)
                clear cB r7 k7 d0 d4 d5 d6 hA6
                have d6 : w7.cell? ⟨B4, 6, none⟩ = some (.slice qe ne ce) := e7.cell 6 rfl
                have d0 : w7.cell? ⟨B4, 0, none⟩ = some (.int .i64 _) := e7.cell 0 rfl
                cases b7
                · have FIN : Hid (GoP w0 w pb ib mb P v1 v2 v3 (.slice v4q P.sts.length v4c) v5 dn st ord R (.returned (.bool false)) w7) := Lib.hid ⟨false, G7, rfl, g7, B7.out, by rw [← HGL.out, hgs6]; rfl⟩
                  clear hgs6 g7 e7
                  go_wp2_with fail
                  go_ret
                  exact FIN.out
                · have cE := HIH.out s.els (.slice qe ne ce) (deep + 1) true _ _ HDD.out.1 HDD.out.2 IEL.out g7
                  have HG6 := Lib.hid hgs6
                  clear hgs6 g7 e7
                  go_wp2_with fail
                  refine cE.mono ?_
                  rintro e w8 ⟨b8, G8, rfl, g8, k8, r8⟩
                  have hgs6 := HG6.out
                  simp only [if_true, Option.bind_some] at hgs6
                  rw [r8] at hgs6
                  have B8 := Lib.hid (B7.out.trans k8)
                  clear cE r8 k8 d0 d6 HG6
                  cases b8
                  · have FIN : Hid (GoP w0 w pb ib mb P v1 v2 v3 (.slice v4q P.sts.length v4c) v5 dn st ord R (.returned (.bool false)) w8) := Lib.hid ⟨false, G8, rfl, g8, B8.out, by rw [← HGL.out, hgs6]; rfl⟩
                    clear hgs6 g8
                    go_wp2_with fail
                    go_ret
                    exact FIN.out
                  · have FIN : Hid (RelG w0 w pb ib mb P v1 v2 v3 (.slice v4q P.sts.length v4c) v5 dn st ord n l deep true G len (.int .i64 ((i + 1 : Nat) : Int)) w8) := Lib.hid ⟨i + 1, G8, by omega, rfl, g8, B8.out, by rw [HRR.out, ← HGL.out, hgs6]; rfl⟩
                    clear hgs6 g8
                    go_wp2_with fail
                    go_roundw
                    case rel => exact FIN.out
                    case measure => simp [intOf]; omega
          · have hms2 : (ns : Int) ≤ (m : Int) := by omega
            have FIN : Hid (GoP w0 w pb ib mb P v1 v2 v3 (.slice v4q P.sts.length v4c) v5 dn st ord R (.returned (.bool false)) wr) := Lib.hid ⟨false, G2, rfl, HG2.out, HBR.out, by rw [← HGL.out]; unfold goS; rw [if_neg (by rw [← HM.out.1, ← HM.out.2]; exact fun h => hms h.2)]; rfl⟩
            go_wp2_with (go_at_call 62; (with_reducible refine cN.mono ?_); rintro e w' ⟨rfl, rfl⟩)
            go_ret
            exact FIN.out
        · have hxb : (x != (m : Int)) = true := bne_iff_ne.2 hxm
          have FIN : Hid (GoP w0 w pb ib mb P v1 v2 v3 (.slice v4q P.sts.length v4c) v5 dn st ord R (.returned (.bool false)) wr) := Lib.hid ⟨false, G2, rfl, HG2.out, HBR.out, by rw [← HGL.out]; unfold goS; rw [if_neg (by rw [← HM.out.1]; exact fun h => hxm h.1)]; rfl⟩
          go_wp2_with (go_at_call 62; (with_reducible refine cN.mono ?_); rintro e w' ⟨rfl, rfl⟩)
          go_ret
          exact FIN.out
      · obtain rfl : i = len := by omega
        have FIN : Hid (GoP w0 w pb ib mb P v1 v2 v3 v4 v5 dn st ord R (.returned (.bool true)) wr) := Lib.hid ⟨true, G2, rfl, hG2, hbr, by rw [← HRR.out, ← hgl, HL.out, List.drop_length]; rfl⟩
        clear hgl hG2 hbr
        go_wp2
        go_ret
        exact FIN.out
  · have hl2 : ¬ (0 : Int) < (len : Int) := by omega
    clear hl1
    go_enter Tryz.func61, Tryz.ntmps61
    go_wp2
    go_loopw [21] (fun v wr => RelG w0 w pb ib mb P v1 v2 v3 v4 v5 dn st ord n l deep lo G len v wr) (fun v _ => len - (intOf v).toNat)
    case atStart => exact HH0.out
    case round =>
      obtain ⟨i, G2, hi, rfl, hG2, hbr, hgl⟩ := hrel
      obtain rfl : i = len := by omega
      have FIN : Hid (GoP w0 w pb ib mb P v1 v2 v3 v4 v5 dn st ord R (.returned (.bool true)) wr) := Lib.hid ⟨true, G2, rfl, hG2, hbr, by rw [← HRR.out, ← hgl, HL.out, List.drop_length]; rfl⟩
      clear hgl hG2 hbr
      go_wp2
      go_ret
      exact FIN.out
theorem goOn_any (w0 : World) (pb ib mb : Nat) (P : PX) (v1 v2 v3 v4 v5 : Value) (dn st : Int) (ord : Bool) (hx : GoCx w0 pb ib mb P v1 v2 v3 v4 v5) (n : Nat) : HQ w0 pb ib mb P v1 v2 v3 v4 v5 dn st ord n := by
  induction n with
  | zero => exact goOn_zero w0 pb ib mb P v1 v2 v3 v4 v5 dn st ord
  | succ n ih => exact goOn_succ w0 pb ib mb P v1 v2 v3 v4 v5 dn st ord hx n ih
end Go.Proofs.YtncdbjflfhfddaaGreat
