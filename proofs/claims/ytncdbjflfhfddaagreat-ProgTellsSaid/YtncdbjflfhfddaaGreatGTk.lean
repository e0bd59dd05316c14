/- Package prog, the document on programs: loops, kinds. -/
import Derived.Test.YtncdbjflfhfddaaGreatGB
import Derived.Test.YtncdbjflfhfddaaGreatGRd
import Derived.Test.YtncdbjflfhfddaaGreatGTs
import Derived.Test.YtncdbjflfhfddaaGreatGCq
import Derived.Deep.RegionLaw
namespace Go.Proofs.YtncdbjflfhfddaaGreat
open Go.ChangeShapes Go.WideShapes Go.ChangeAt Go.RowKit Go.Joins Go.Deep
set_option linter.unusedVariables false

/-- the first statements' loops -/
def loopsT (l : List SX) (i : Nat) : List Int := ((List.range i).filter fun j => (l.getD j default).op == 6).map fun (j : Nat) => (j : Int)
theorem loopsT_succ {l : List SX} {i : Nat} {x : SX} (h : l[i]? = some x) : loopsT l (i + 1) = if x.op = 6 then loopsT l i ++ [(i : Int)] else loopsT l i := by
  have hx : l.getD i default = x := by rw [List.getD_eq_getElem?_getD, h]; rfl
  unfold loopsT
  rw [List.range_succ, List.filter_append, List.map_append]
  by_cases h6 : x.op = 6
  · have hb : ((l.getD i default).op == 6) = true := by rw [hx]; exact beq_iff_eq.2 h6
    rw [if_pos h6, show ([i].filter fun j => (l.getD j default).op == 6) = [i] by rw [List.filter_cons, if_pos hb, List.filter_nil]]
    rfl
  · have hb : ¬ ((l.getD i default).op == 6) = true := by rw [hx]; simpa using h6
    rw [if_neg h6, show ([i].filter fun j => (l.getD j default).op == 6) = [] by rw [List.filter_cons, if_neg hb, List.filter_nil], List.map_nil, List.append_nil]
theorem loopsT_len (l : List SX) (i : Nat) : (loopsT l i).length ≤ i := by
  unfold loopsT
  rw [List.length_map]
  exact Nat.le_trans (List.length_filter_le _ _) (by simp)
def LoopsP (P : PX) (w : World) (e : Ending) (w' : World) : Prop :=
  ∃ (v : Value) (k : Int), e = .returned (.tuple #[v, .int .i64 k]) ∧ Below w.heap.size w w' ∧ (progB P = false → v = .slice none 0 0 ∧ k = 1) ∧ (progB P = true → k = 0 ∧ IsIs w' v (loopsT P.sts P.sts.length))
set_option maxRecDepth 100000 in
set_option maxHeartbeats 3200000 in
theorem Loops_prog (P : PX) (v1 v2 v3 v4 v5 : Value) (hns : P.sts.length ≤ 100000) (w : World) (h : IsPr w v1 v2 v3 v4 v5 P) : Calls Tryz.prog 8 #[.agg #[.bool P.big, .int .i64 P.ptr, v1, v2, v3, v4, v5]] w (LoopsP P w) := by
  have hb0 := below_box1 w (.cells #[.bool P.big, .int .i64 P.ptr, v1, v2, v3, v4, v5] 33)
  have hA := pgBox P v1 v2 v3 v4 v5 w
  obtain ⟨w1, hw1⟩ : ∃ w1, w.alloc (.cells #[.bool P.big, .int .i64 P.ptr, v1, v2, v3, v4, v5] 33) = w1 := ⟨_, rfl⟩
  rw [hw1] at hb0 hA
  have h1 := h.below hb0
  have cT := take_any P v1 v2 v3 v4 v5 w1 h1
  unfold TakeP at cT
  have cM := fun w0 pb w h => mayBe_any w0 pb P v1 v2 v3 v4 v5 w h
  unfold MayP at cM
  have HH1 := Lib.hid h1
  obtain ⟨q1, k1, rfl, _⟩ := id h.1
  obtain ⟨q2, k2, rfl, _⟩ := id h.2.1
  obtain ⟨q3, k3, rfl, _⟩ := id h.2.2.1
  obtain ⟨q4, k4, rfl, _, _, hc4⟩ := id h1.2.2.2.1
  obtain ⟨q5, k5, rfl, _⟩ := id h.2.2.2.2
  have a0 : w1.cell? ⟨w.heap.size, 0, none⟩ = some (.bool P.big) := hA.cell 0 rfl
  have a1 : w1.cell? ⟨w.heap.size, 1, none⟩ = some (.int .i64 P.ptr) := hA.cell 1 rfl
  have a2 : w1.cell? ⟨w.heap.size, 2, none⟩ = some (.slice q1 P.vars.length k1) := hA.cell 2 rfl
  have a3 : w1.cell? ⟨w.heap.size, 3, none⟩ = some (.slice q2 P.news.length k2) := hA.cell 3 rfl
  have a4 : w1.cell? ⟨w.heap.size, 4, none⟩ = some (.slice q3 P.exs.length k3) := hA.cell 4 rfl
  have a5 : w1.cell? ⟨w.heap.size, 5, none⟩ = some (.slice q4 P.sts.length k4) := hA.cell 5 rfl
  have a6 : w1.cell? ⟨w.heap.size, 6, none⟩ = some (.slice q5 P.main.length k5) := hA.cell 6 rfl
  have HB0 := Lib.hid hb0
  have HC4 := Lib.hid hc4
  obtain ⟨b, hb⟩ : ∃ b, b = progB P := ⟨_, rfl⟩
  have HBP := Lib.hid hb
  rw [← hb] at cM
  clear h h1 hb0 hA hb hc4
  cases b
  · go_enter Tryz.func8, Tryz.ntmps8
    go_wp2_with (first | (go_at_call 25; refine cT.mono ?_; rintro e w2 ⟨w0, pb, rfl, n2, z2, y2⟩) | (go_at_call 26; refine (cM w0 pb _ n2).mono ?_; rintro e w3 ⟨rfl, d3, b3⟩))
    go_ret2
    exact ⟨_, _, rfl, HB0.out.trans ((y2.trans (b3.mono (by rw [n2.hpb.symm]; exact z2.size))).mono HB0.out.size), fun _ => ⟨rfl, rfl⟩, fun h => by rw [← HBP.out] at h; (cases h)⟩
  · obtain ⟨i0, hi0, hz0, hz1, hz2⟩ := info_parts gInt
    obtain ⟨ns, hnse⟩ : ∃ ns, ns = P.sts.length := ⟨_, rfl⟩
    rw [← hnse] at a5 hw1 hns cT ⊢
    have HNS := Lib.hid hnse
    rw [← hnse] at cM
    clear hnse
    go_enter Tryz.func8, Tryz.ntmps8
    go_wp2_with (first | (go_at_call 25; refine cT.mono ?_; rintro e w2 ⟨w0, pb, rfl, n2, z2, y2⟩) | (go_at_call 26; refine (cM w0 pb _ n2).mono ?_; rintro e w3 ⟨rfl, d3, b3⟩; have hb13 := y2.trans (b3.mono (by rw [n2.hpb.symm]; exact z2.size)); have c5 := cell_below a5 hb13))
    have HB13 := Lib.hid hb13
    clear cT cM d3 n2 z2 y2 b3 a0 a1 a2 a3 a4 a5 a6 c5 hb13 hw1
    go_loopw [4, 14] (fun v4 v14 wr => ∃ i : Nat, i ≤ ns ∧ v14 = .int .i64 (i : Nat) ∧ RowZ w3.heap.size (loopsT P.sts i) v4 wr ∧ Below w3.heap.size w3 wr) (fun _ v _ => ns - (intOf v).toNat)
    case atStart => exact ⟨0, Nat.zero_le _, rfl, RowZ.nil _ _, Below.refl _ _⟩
    case round =>
      obtain ⟨i, hi, rfl, hR, hbr⟩ := hrel
      by_cases hlt : i < ns
      · have hj3 : (i : Int) < (ns : Int) := by omega
        obtain ⟨sb, so, rfl, hsb, hscell⟩ := HC4.out (by rw [← HNS.out]; omega)
        obtain ⟨x, hx⟩ : ∃ x, P.sts[i]? = some x := ⟨_, List.getElem?_eq_getElem (by rw [← HNS.out]; exact hlt)⟩
        have hb1r := HB13.out.trans (hbr.mono HB13.out.size)
        obtain ⟨vb, ve, s0, s1, s2, s3, s4, s5, s6, ib, ie⟩ := QS.below _ _ _ _ _ hb1r (hscell i x hx)
        obtain ⟨qb, cb, rfl, _⟩ := id ib
        obtain ⟨qe, ce, rfl, _⟩ := id ie
        have hsucc := loopsT_succ hx
        have hlen := loopsT_len P.sts i
        have hsz3 := hbr.size
        obtain ⟨q3, cc, rfl⟩ := hR.form
        obtain ⟨m, hm⟩ : ∃ m, m = (loopsT P.sts i).length := ⟨_, rfl⟩
        obtain ⟨xo, xt, xk, xe, xn, xbd, xel⟩ := x
        dsimp only at s0 s1 s2 s3 s4 s5 s6 hsucc
        generalize xbd.length = nb at *
        generalize xel.length = ne at *
        have Bwd := below_box1 wr (.cells #[.int .i64 xo, .int .i64 xt, .int .i64 xk, .int .i64 xe, .int .i64 xn, .slice qb nb cb, .slice qe ne ce] 53)
        have Awd := At.new wr #[.int .i64 xo, .int .i64 xt, .int .i64 xk, .int .i64 xe, .int .i64 xn, .slice qb nb cb, .slice qe ne ce] 53
        rw [← hm] at hR hlen ⊢
        have hRd := hR.bel Bwd
        have hbd := hbr.trans (Bwd.mono hbr.size)
        clear ib ie hx hscell hb1r
        by_cases h6 : xo = 6
        · subst h6
          rw [if_pos rfl] at hsucc
          unfold RowZ at hRd
          rw [← hm] at hRd
          have hown := hRd.alloc (.cells #[.int .i64 (i : Nat)] 3)
          have hbd2 := hbd.alloc hbd.size (.cells #[.int .i64 (i : Nat)] 3)
          have hm1 : m + 1 ≤ maxLen := by unfold maxLen; omega
          have hm2 : (m + 1) * 8 ≤ 140737488355328 := by omega
          have hszd := hbd.size
          rw [World.size_alloc] at hszd
          have HS := Lib.hid (And.intro hsucc hm)
          clear hsucc hm hR hRd hbr Bwd hbd
          go_wp2_with ((at_builtin; refine wpList_append_lies _ rfl _ _ 23 rfl w3.heap.size 3 i0 _ 1 8 Tryz.underlying23 hi0 hz0 hz1 hz2 rfl (by decide) (.slice q3 m cc) m ((loopsT P.sts i).map fun x => Value.int .i64 x) rfl hown ⟨wr.heap.size + 1, 0, none⟩ 1 1 [.int .i64 (i : Nat)] rfl rfl (World.news_of_block (cs := #[.int .i64 (i : Nat)]) (t := 3) (fr := (0, 0)) (by have := heap_alloc_new (wr.alloc (.cells #[.int .i64 6, .int .i64 xt, .int .i64 xk, .int .i64 xe, .int .i64 xn, .slice qb nb cb, .slice qe ne ce] 53)) (.cells #[.int .i64 (i : Nat)] 3); rw [World.size_alloc] at this; exact this)) (by simp [Value.oneCell']) (by omega) hm1 hm2 (by simp; omega) _ rfl ?_; intro g2 cap2 w5 hown3 hgrow hat hlt3))
          have hR3 : RowZ w3.heap.size (loopsT P.sts (i + 1)) (.slice (some ⟨g2, 0, none⟩) (m + 1) cap2) w5 := by
            unfold RowZ
            rw [HS.out.1, List.length_append, List.map_append, ← HS.out.2]
            exact hown3
          have hb4 := hbd2.grown hgrow (by simp; omega) (fun j hj => own_geG hown hj)
          clear hown3 hgrow hat hlt3 hown hbd2 hi0 hz0 hz1 hz2
          go_wp2_with fail
          go_roundw
          case rel => exact ⟨i + 1, by omega, by go_num, hR3, hb4⟩
          case measure => simp [intOf]; omega
        · have h6b : (xo == 6) = false := beq_eq_false_iff_ne.2 h6
          rw [if_neg h6] at hsucc
          rw [← hsucc] at hRd
          have HR := Lib.hid (And.intro hRd hbd)
          clear hR hRd hbd hbr Bwd hm hsucc
          go_wp2_with fail
          go_roundw
          case rel => exact ⟨i + 1, by omega, by go_num, HR.out.1, HR.out.2⟩
          case measure => simp [intOf]; omega
      · obtain rfl : i = ns := by omega
        have hln := loopsT_len P.sts i
        have FIN : Hid (LoopsP P w (.returned (.tuple #[u4, .int .i64 0])) wr) := Lib.hid ⟨_, _, rfl, HB0.out.trans ((HB13.out.trans (hbr.mono HB13.out.size)).mono HB0.out.size), (fun h => by rw [← HBP.out] at h; (cases h)), fun _ => ⟨rfl, by rw [← HNS.out]; exact hR.is (by unfold maxLen; omega)⟩⟩
        obtain ⟨q3, cc, rfl⟩ := hR.form
        clear hR hln
        go_wp2_with fail
        go_ret2
        exact FIN.out

end Go.Proofs.YtncdbjflfhfddaaGreat

/- Package prog, the document on programs: kinds; the document's inner, loops. -/
namespace Go.Proofs.YtncdbjflfhfddaaGreat
open Go.ChangeShapes Go.WideShapes Go.ChangeAt Go.RowKit Go.Joins Go.Deep
set_option linter.unusedVariables false

def kindsL (P : PX) : List Int := [0] ++ P.vars ++ P.news
theorem rowZ_kinds {w : World} {base g c : Nat} {P : PX} {m : Nat} (hm : m = 1 + P.vars.length + P.news.length)
    (h : w.ownsRow base 3 1 (.slice (some ⟨g, 0, none⟩) m c) m ([Value.int .i64 0] ++ (P.vars.map fun x => Value.int .i64 x) ++ P.news.map fun x => Value.int .i64 x)) : RowZ base (kindsL P) (.slice (some ⟨g, 0, none⟩) m c) w := by
  unfold RowZ
  have hl : (kindsL P).length = m := by simp [kindsL]; omega
  rw [hl]
  have : (kindsL P).map (fun x => Value.int .i64 x) = [Value.int .i64 0] ++ (P.vars.map fun x => Value.int .i64 x) ++ P.news.map fun x => Value.int .i64 x := by simp [kindsL]
  rw [this]
  exact h
def KindsP (P : PX) (w : World) (e : Ending) (w' : World) : Prop :=
  ∃ (v : Value) (k : Int) (l : List Int), e = .returned (.tuple #[v, .int .i64 k]) ∧ Below w.heap.size w w' ∧ RowZ w.heap.size l v w' ∧ (progB P = false → l = [] ∧ k = 1) ∧ (progB P = true → l = kindsL P ∧ k = 0)
set_option maxRecDepth 100000 in
set_option maxHeartbeats 3200000 in
theorem Kinds_prog (P : PX) (v1 v2 v3 v4 v5 : Value) (hV : P.vars.length ≤ 100000) (hN : P.news.length ≤ 100000) (w : World) (h : IsPr w v1 v2 v3 v4 v5 P) : Calls Tryz.prog 9 #[.agg #[.bool P.big, .int .i64 P.ptr, v1, v2, v3, v4, v5]] w (KindsP P w) := by
  have hb0 := below_box1 w (.cells #[.bool P.big, .int .i64 P.ptr, v1, v2, v3, v4, v5] 33)
  have hA := pgBox P v1 v2 v3 v4 v5 w
  obtain ⟨w1, hw1⟩ : ∃ w1, w.alloc (.cells #[.bool P.big, .int .i64 P.ptr, v1, v2, v3, v4, v5] 33) = w1 := ⟨_, rfl⟩
  rw [hw1] at hb0 hA
  have h1 := h.below hb0
  have cT := take_any P v1 v2 v3 v4 v5 w1 h1
  unfold TakeP at cT
  have cM := fun w0 pb w h => mayBe_any w0 pb P v1 v2 v3 v4 v5 w h
  unfold MayP at cM
  obtain ⟨q1, k1, rfl, _⟩ := id h.1
  obtain ⟨q2, k2, rfl, _⟩ := id h.2.1
  obtain ⟨q3, k3, rfl, _⟩ := id h.2.2.1
  obtain ⟨q4, k4, rfl, _⟩ := id h.2.2.2.1
  obtain ⟨q5, k5, rfl, _⟩ := id h.2.2.2.2
  have HI := Lib.hid (And.intro h1.1 h1.2.1)
  have a0 : w1.cell? ⟨w.heap.size, 0, none⟩ = some (.bool P.big) := hA.cell 0 rfl
  have a1 : w1.cell? ⟨w.heap.size, 1, none⟩ = some (.int .i64 P.ptr) := hA.cell 1 rfl
  have a2 : w1.cell? ⟨w.heap.size, 2, none⟩ = some (.slice q1 P.vars.length k1) := hA.cell 2 rfl
  have a3 : w1.cell? ⟨w.heap.size, 3, none⟩ = some (.slice q2 P.news.length k2) := hA.cell 3 rfl
  have a4 : w1.cell? ⟨w.heap.size, 4, none⟩ = some (.slice q3 P.exs.length k3) := hA.cell 4 rfl
  have a5 : w1.cell? ⟨w.heap.size, 5, none⟩ = some (.slice q4 P.sts.length k4) := hA.cell 5 rfl
  have a6 : w1.cell? ⟨w.heap.size, 6, none⟩ = some (.slice q5 P.main.length k5) := hA.cell 6 rfl
  have HB0 := Lib.hid hb0
  obtain ⟨b, hb⟩ : ∃ b, b = progB P := ⟨_, rfl⟩
  have HBP := Lib.hid hb
  rw [← hb] at cM
  clear h h1 hb0 hA hb
  cases b
  · go_enter Tryz.func9, Tryz.ntmps9
    go_wp2_with (first | (go_at_call 25; refine cT.mono ?_; rintro e w2 ⟨w0, pb, rfl, n2, z2, y2⟩) | (go_at_call 26; refine (cM w0 pb _ n2).mono ?_; rintro e w3 ⟨rfl, d3, b3⟩))
    go_ret2
    exact ⟨_, _, [], rfl, HB0.out.trans ((y2.trans (b3.mono (by rw [n2.hpb.symm]; exact z2.size))).mono HB0.out.size), RowZ.nil _ _, fun _ => ⟨rfl, rfl⟩, fun h => by rw [← HBP.out] at h; (cases h)⟩
  · obtain ⟨i0, hi0, hz0, hz1, hz2⟩ := info_parts gInt
    obtain ⟨nv, hnv⟩ : ∃ nv, nv = P.vars.length := ⟨_, rfl⟩
    obtain ⟨nn, hnn⟩ : ∃ nn, nn = P.news.length := ⟨_, rfl⟩
    rw [← hnv] at a2 hw1 hV cT cM ⊢
    rw [← hnn] at a3 hw1 hN cT cM ⊢
    have HNV := Lib.hid (And.intro hnv hnn)
    clear hnv hnn
    go_enter Tryz.func9, Tryz.ntmps9
    go_upto_region 3 with (first | (go_at_call 25; refine cT.mono ?_; rintro e w2 ⟨w0, pb, rfl, n2, z2, y2⟩) | (go_at_call 26; refine (cM w0 pb _ n2).mono ?_; rintro e w3 ⟨rfl, d3, b3⟩))
    have hb13 := y2.trans (b3.mono (by rw [n2.hpb.symm]; exact z2.size))
    have c2 := cell_below a2 hb13
    have c3 := cell_below a3 hb13
    have Bl := below_box1 w3 (.cells #[.int .i64 0] 3)
    have hown := ownsRow_lit w3 w3.heap.size 3 1 1 #[.int .i64 0] (Nat.le_refl _) rfl (by decide)
    have hy1 : YieldsG (w3.alloc (.cells #[.int .i64 0] 3)) 1 q1 nv k1 (P.vars.map fun x => Value.int .i64 x) := by
      have := (HI.out.1.below (hb13.trans (Bl.mono hb13.size))).yields
      rw [← HNV.out.1] at this
      exact this
    have HY1 := Lib.hid hy1
    have HB13 := Lib.hid hb13
    have hm1 : 1 + nv ≤ maxLen := by unfold maxLen; omega
    have hm2 : (1 + nv) * 8 ≤ 140737488355328 := by omega
    have HBL := Lib.hid Bl
    have c2a := cell_alloc c2 (.cells #[.int .i64 0] 3)
    clear cT cM d3 n2 z2 y2 b3 a0 a1 a2 a3 a4 a5 a6 hb13 hw1 hy1 Bl
    go_upto_region 4 with ((at_builtin; refine wpList_append_anyG rfl _ _ 23 rfl w3.heap.size 3 i0 _ 1 8 Tryz.underlying23 hi0 hz0 hz1 hz2 rfl (by decide) w3.heap.size 1 1 [.int .i64 0] rfl hown q1 nv k1 (P.vars.map fun x => Value.int .i64 x) rfl HY1.out hm1 hm2 (by simp) ?_; intro g2 cap2 w5 hown5 hgrow5))
    have hb5 := HBL.out.grown hgrow5 (by simp) (fun j hj => by injection hj with hj; omega)
    have d3 := cell_below c3 hb5
    have hy2 : YieldsG w5 1 q2 nn k2 (P.news.map fun x => Value.int .i64 x) := by
      have := (HI.out.2.below (HB13.out.trans (hb5.mono HB13.out.size))).yields
      rw [← HNV.out.2] at this
      exact this
    have HY2 := Lib.hid hy2
    have HB5 := Lib.hid hb5
    have hm3 : 1 + nv + nn ≤ maxLen := by unfold maxLen; omega
    have hm4 : (1 + nv + nn) * 8 ≤ 140737488355328 := by omega
    have hs5 : w3.heap.size ≤ w5.heap.size := hb5.size
    obtain ⟨m1, hm1e⟩ : ∃ m1, m1 = 1 + nv := ⟨_, rfl⟩
    rw [← hm1e] at hown5 hm3 hm4 ⊢
    have HM1 := Lib.hid hm1e
    clear hy2 hgrow5 hb5 hown c2 c3 hm1e
    go_wp2_with ((at_builtin; refine wpList_append_anyG rfl _ _ 23 rfl w3.heap.size 3 i0 _ 1 8 Tryz.underlying23 hi0 hz0 hz1 hz2 rfl (by decide) g2 m1 cap2 ([Value.int .i64 0] ++ P.vars.map fun x => Value.int .i64 x) rfl hown5 q2 nn k2 (P.news.map fun x => Value.int .i64 x) rfl HY2.out hm3 hm4 hs5 ?_; intro g3 cap3 w6 hown6 hgrow6))
    have hb6 := HB5.out.grown hgrow6 hs5 (fun j hj => by injection hj with hj; subst hj; exact own_geG hown5 rfl)
    have hz6 := rowZ_kinds (P := P) (by rw [HM1.out, HNV.out.1, HNV.out.2]) hown6
    have FIN : Hid (KindsP P w (.returned (.tuple #[.slice (some ⟨g3, 0, none⟩) (m1 + nn) cap3, .int .i64 0])) w6) := Lib.hid ⟨_, _, _, rfl, HB0.out.trans ((HB13.out.trans (hb6.mono HB13.out.size)).mono HB0.out.size), ownsRow_mono hz6 (Nat.le_trans HB0.out.size HB13.out.size), (fun h => by rw [← HBP.out] at h; (cases h)), fun _ => ⟨rfl, rfl⟩⟩
    clear hown5 hown6 hgrow6 hb6 hz6
    go_ret2
    exact FIN.out
def ListP (l : List Int) (w : World) (e : Ending) (w' : World) : Prop := ∃ v, e = .returned v ∧ IsIs w' v l ∧ Below w.heap.size w w'
set_option maxRecDepth 100000 in
set_option maxHeartbeats 3200000 in
theorem rKinds_any (P : PX) (v1 v2 v3 v4 v5 : Value) (hV : P.vars.length ≤ 100000) (hN : P.news.length ≤ 100000) (w : World) (h : IsPr w v1 v2 v3 v4 v5 P) : Calls Tryz.prog 13 #[.agg #[.bool P.big, .int .i64 P.ptr, v1, v2, v3, v4, v5]] w (ListP (kindsL P) w) := by
  have hb0 := below_box1 w (.cells #[.bool P.big, .int .i64 P.ptr, v1, v2, v3, v4, v5] 33)
  have hA := pgBox P v1 v2 v3 v4 v5 w
  obtain ⟨w1, hw1⟩ : ∃ w1, w.alloc (.cells #[.bool P.big, .int .i64 P.ptr, v1, v2, v3, v4, v5] 33) = w1 := ⟨_, rfl⟩
  rw [hw1] at hb0 hA
  have h1 := h.below hb0
  obtain ⟨q1, k1, rfl, _⟩ := id h.1
  obtain ⟨q2, k2, rfl, _⟩ := id h.2.1
  obtain ⟨q3, k3, rfl, _⟩ := id h.2.2.1
  obtain ⟨q4, k4, rfl, _⟩ := id h.2.2.2.1
  obtain ⟨q5, k5, rfl, _⟩ := id h.2.2.2.2
  have a2 : w1.cell? ⟨w.heap.size, 2, none⟩ = some (.slice q1 P.vars.length k1) := hA.cell 2 rfl
  have a3 : w1.cell? ⟨w.heap.size, 3, none⟩ = some (.slice q2 P.news.length k2) := hA.cell 3 rfl
  have HB0 := Lib.hid hb0
  obtain ⟨i0, hi0, hz0, hz1, hz2⟩ := info_parts gInt
  have HI := Lib.hid (And.intro h1.1 h1.2.1)
  obtain ⟨nv, hnv⟩ : ∃ nv, nv = P.vars.length := ⟨_, rfl⟩
  obtain ⟨nn, hnn⟩ : ∃ nn, nn = P.news.length := ⟨_, rfl⟩
  rw [← hnv] at a2 hw1 hV ⊢
  rw [← hnn] at a3 hw1 hN ⊢
  have HNV := Lib.hid (And.intro hnv hnn)
  have hm1 : 1 + nv ≤ maxLen := by unfold maxLen; omega
  have hm2 : (1 + nv) * 8 ≤ 140737488355328 := by omega
  have hm3 : 1 + nv + nn ≤ maxLen := by unfold maxLen; omega
  have hm4 : (1 + nv + nn) * 8 ≤ 140737488355328 := by omega
  have HYS : Hid (∀ (w2 : World), Below w1.heap.size w1 w2 → YieldsG w2 1 q1 nv k1 (P.vars.map fun x => Value.int .i64 x) ∧ YieldsG w2 1 q2 nn k2 (P.news.map fun x => Value.int .i64 x)) := Lib.hid fun w2 hb2 => by
    have y1 := (HI.out.1.below hb2).yields
    have y2 := (HI.out.2.below hb2).yields
    rw [← HNV.out.1] at y1
    rw [← HNV.out.2] at y2
    exact ⟨y1, y2⟩
  have HR1 := Lib.hid (Below.refl w1.heap.size w1)
  clear h h1 hb0 hA hnv hnn
  go_enter Tryz.func13, Tryz.ntmps13
  go_upto_region 1 with (fail)
  clear hw1
  have hlw : w.heap.size < w1.heap.size := World.block_lt_of_cell? w1 _ a2
  have hown0 : (w1.alloc (.cells #[.int .i64 0] 3)).drew.ownsRow w1.heap.size 3 1 (.slice (some ⟨w1.heap.size, 0, none⟩) 1 1) 1 [.int .i64 0] := ownsRow_lit w1 w1.heap.size 3 1 1 #[.int .i64 0] (Nat.le_refl _) rfl (by decide)
  have hbl : Below w1.heap.size w1 (w1.alloc (.cells #[.int .i64 0] 3)).drew := (below_box1 w1 _).drew
  have hy0 := (HYS.out _ hbl).1
  have hsl := hbl.size
  go_region_law (first | (refine step_append_anyG rfl _ _ 23 rfl w1.heap.size 3 i0 _ 1 8 Tryz.underlying23 hi0 hz0 hz1 hz2 rfl (by decide) w1.heap.size 1 1 [.int .i64 0] rfl hown0 q1 nv k1 (P.vars.map fun x => Value.int .i64 x) rfl hy0 hm1 hm2 hsl ?_; intro g2 cap2 w5 hown5 hgrow5; have hb5 : Below w1.heap.size w1 w5 := hbl.grown hgrow5 hsl (fun j hj => by injection hj with hj; omega); have d2 := cell_below a2 hb5; have d3 := cell_below a3 hb5; have hs5 := hb5.size) | (refine step_append_anyG rfl _ _ 23 rfl w1.heap.size 3 i0 _ 1 8 Tryz.underlying23 hi0 hz0 hz1 hz2 rfl (by decide) g2 (1 + nv) cap2 ([Value.int .i64 0] ++ P.vars.map fun x => Value.int .i64 x) rfl hown5 q2 nn k2 (P.news.map fun x => Value.int .i64 x) rfl (HYS.out _ hb5).2 hm3 hm4 hs5 ?_; intro g3 cap3 w6 hown6 hgrow6; have hb6 := hb5.grown hgrow6 hs5 (fun j hj => by injection hj with hj; subst hj; exact own_geG hown5 rfl)))
  all_goals
    have hz6 := rowZ_kinds (P := P) (by rw [HNV.out.1, HNV.out.2]) hown6
    have FIN : Hid (ListP (kindsL P) w (.returned (.slice (some ⟨g3, 0, none⟩) (1 + nv + nn) cap3)) w6) := Lib.hid ⟨_, rfl, hz6.is (by simp [kindsL]; rw [← HNV.out.1, ← HNV.out.2]; unfold maxLen; omega), HB0.out.trans (hb6.mono HB0.out.size)⟩
    clear hown5 hown6 hgrow6 hgrow5 hb6 hz6 hb5 hy0 hown0
    go_wp2
    go_ret
    exact FIN.out
set_option maxRecDepth 100000 in
set_option maxHeartbeats 1600000 in
theorem rInner_any (P : PX) (v1 v2 v3 v4 v5 : Value) (hp : progB P = true) (w : World) (h : IsPr w v1 v2 v3 v4 v5 P) : Calls Tryz.prog 11 #[.agg #[.bool P.big, .int .i64 P.ptr, v1, v2, v3, v4, v5]] w (ListP (innerL P) w) := by
  have hF : formB P = true := by
    unfold progB at hp
    cases hf : formB P
    · rw [hf] at hp; cases hp
    · rfl
  have hG : (goA P).isSome = true := by
    unfold progB at hp
    cases hg : (goA P).isSome
    · rw [hg, Bool.and_false] at hp; cases hp
    · rfl
  obtain ⟨hag, hin⟩ := stands_agree P (form_sts hF).2.2.2
  have hst : P.sts.length ≤ 40 := (form_sts hF).1
  have hb0 := below_box1 w (.cells #[.bool P.big, .int .i64 P.ptr, v1, v2, v3, v4, v5] 33)
  have hA := pgBox P v1 v2 v3 v4 v5 w
  obtain ⟨w1, hw1⟩ : ∃ w1, w.alloc (.cells #[.bool P.big, .int .i64 P.ptr, v1, v2, v3, v4, v5] 33) = w1 := ⟨_, rfl⟩
  rw [hw1] at hb0 hA
  have cS := seats_any P v1 v2 v3 v4 v5 hF w1 (h.below hb0)
  have HB0 := Lib.hid hb0
  unfold SeatsP at cS
  have HSO : Hid (∀ (rs : RS), ((boA P).isSome = true → boA P = some rs) → rs.inner = innerL P) := Lib.hid fun rs hrs => by
    obtain ⟨st, hs⟩ := Option.isSome_iff_exists.1 hG
    rw [hin st rs hs (hrs (by rw [← hag]; exact hG))]
    unfold innerL
    rw [hs]
  obtain ⟨q1, k1, rfl, _⟩ := id h.1
  obtain ⟨q2, k2, rfl, _⟩ := id h.2.1
  obtain ⟨q3, k3, rfl, _⟩ := id h.2.2.1
  obtain ⟨q4, k4, rfl, _⟩ := id h.2.2.2.1
  obtain ⟨q5, k5, rfl, _⟩ := id h.2.2.2.2
  have a0 : w1.cell? ⟨w.heap.size, 0, none⟩ = some (.bool P.big) := hA.cell 0 rfl
  have a1 : w1.cell? ⟨w.heap.size, 1, none⟩ = some (.int .i64 P.ptr) := hA.cell 1 rfl
  have a2 : w1.cell? ⟨w.heap.size, 2, none⟩ = some (.slice q1 P.vars.length k1) := hA.cell 2 rfl
  have a3 : w1.cell? ⟨w.heap.size, 3, none⟩ = some (.slice q2 P.news.length k2) := hA.cell 3 rfl
  have a4 : w1.cell? ⟨w.heap.size, 4, none⟩ = some (.slice q3 P.exs.length k3) := hA.cell 4 rfl
  have a5 : w1.cell? ⟨w.heap.size, 5, none⟩ = some (.slice q4 P.sts.length k4) := hA.cell 5 rfl
  have a6 : w1.cell? ⟨w.heap.size, 6, none⟩ = some (.slice q5 P.main.length k5) := hA.cell 6 rfl
  clear h hb0 hA hag hin hF hG hp
  go_enter Tryz.func11, Tryz.ntmps11
  go_wp2_with (go_at_call 32; refine cS.mono ?_; rintro e w2 ⟨wb, ib, rs, rfl, hb2, hso, c7, hAt, hil⟩)
  have hrs := HSO.out rs hso
  have hI := hAt.isIs (by rw [hil]; unfold maxLen; omega)
  rw [hil, hrs] at hI
  have FIN : Hid (ListP (innerL P) w (.returned (.slice (some ⟨ib, 0, none⟩) P.sts.length P.sts.length)) w2) := Lib.hid ⟨_, rfl, hI, HB0.out.trans (hb2.mono HB0.out.size)⟩
  clear hI hrs hso hAt
  go_ret
  exact FIN.out
set_option maxRecDepth 100000 in
set_option maxHeartbeats 3200000 in
theorem rLoops_any (P : PX) (v1 v2 v3 v4 v5 : Value) (hns : P.sts.length ≤ 100000) (w : World) (h : IsPr w v1 v2 v3 v4 v5 P) : Calls Tryz.prog 12 #[.agg #[.bool P.big, .int .i64 P.ptr, v1, v2, v3, v4, v5]] w (ListP (loopsT P.sts P.sts.length) w) := by
  have hb0 := below_box1 w (.cells #[.bool P.big, .int .i64 P.ptr, v1, v2, v3, v4, v5] 33)
  have hA := pgBox P v1 v2 v3 v4 v5 w
  obtain ⟨w1, hw1⟩ : ∃ w1, w.alloc (.cells #[.bool P.big, .int .i64 P.ptr, v1, v2, v3, v4, v5] 33) = w1 := ⟨_, rfl⟩
  rw [hw1] at hb0 hA
  have h1 := h.below hb0
  obtain ⟨q1, k1, rfl, _⟩ := id h.1
  obtain ⟨q2, k2, rfl, _⟩ := id h.2.1
  obtain ⟨q3, k3, rfl, _⟩ := id h.2.2.1
  obtain ⟨q4, k4, rfl, _, _, hc4⟩ := id h1.2.2.2.1
  obtain ⟨q5, k5, rfl, _⟩ := id h.2.2.2.2
  have a5 : w1.cell? ⟨w.heap.size, 5, none⟩ = some (.slice q4 P.sts.length k4) := hA.cell 5 rfl
  have HB0 := Lib.hid hb0
  have HC4 := Lib.hid hc4
  obtain ⟨i0, hi0, hz0, hz1, hz2⟩ := info_parts gInt
  obtain ⟨ns, hnse⟩ : ∃ ns, ns = P.sts.length := ⟨_, rfl⟩
  rw [← hnse] at a5 hw1 hns ⊢
  have HNS := Lib.hid hnse
  clear hnse h h1 hb0 hA hc4
  go_enter Tryz.func12, Tryz.ntmps12
  go_wp2_with fail
  go_loopw [3, 4] (fun v3 v4 wr => ∃ i : Nat, i ≤ ns ∧ v4 = .int .i64 (i : Nat) ∧ RowZ w1.heap.size (loopsT P.sts i) v3 wr ∧ Below w1.heap.size w1 wr) (fun _ v _ => ns - (intOf v).toNat)
  case atStart => exact ⟨0, Nat.zero_le _, rfl, RowZ.nil _ _, Below.refl _ _⟩
  case round =>
    obtain ⟨i, hi, rfl, hR, hbr⟩ := hrel
    have c5 := cell_below a5 hbr
    by_cases hlt : i < ns
    · have hj3 : (i : Int) < (ns : Int) := by omega
      obtain ⟨sb, so, rfl, hsb, hscell⟩ := HC4.out (by rw [← HNS.out]; omega)
      obtain ⟨x, hx⟩ : ∃ x, P.sts[i]? = some x := ⟨_, List.getElem?_eq_getElem (by rw [← HNS.out]; exact hlt)⟩
      obtain ⟨vb, ve, s0, _⟩ := QS.below _ _ _ _ _ hbr (hscell i x hx)
      have hsucc := loopsT_succ hx
      have hlen := loopsT_len P.sts i
      have hsz3 := hbr.size
      obtain ⟨q3, cc, rfl⟩ := hR.form
      obtain ⟨m, hm⟩ : ∃ m, m = (loopsT P.sts i).length := ⟨_, rfl⟩
      generalize x.op = xo at *
      rw [← hm] at hR hlen ⊢
      clear hx hscell
      by_cases h6 : xo = 6
      · subst h6
        rw [if_pos rfl] at hsucc
        unfold RowZ at hR
        rw [← hm] at hR
        have hown := hR.alloc (.cells #[.int .i64 (i : Nat)] 3)
        have hbd2 := hbr.alloc hbr.size (.cells #[.int .i64 (i : Nat)] 3)
        have hm1 : m + 1 ≤ maxLen := by unfold maxLen; omega
        have hm2 : (m + 1) * 8 ≤ 140737488355328 := by omega
        have HS := Lib.hid (And.intro hsucc hm)
        clear hsucc hm hR hbr
        go_wp2_with ((at_builtin; refine wpList_append_lies _ rfl _ _ 23 rfl w1.heap.size 3 i0 _ 1 8 Tryz.underlying23 hi0 hz0 hz1 hz2 rfl (by decide) (.slice q3 m cc) m ((loopsT P.sts i).map fun x => Value.int .i64 x) rfl hown ⟨wr.heap.size, 0, none⟩ 1 1 [.int .i64 (i : Nat)] rfl rfl (World.news_of_block (cs := #[.int .i64 (i : Nat)]) (t := 3) (fr := (0, 0)) (heap_alloc_new wr _)) (by simp [Value.oneCell']) (by omega) hm1 hm2 (by simp; omega) (wr.heap.size + 1) (by simp) ?_; intro g2 cap2 w5 hown3 hgrow hat hlt3))
        have hR3 : RowZ w1.heap.size (loopsT P.sts (i + 1)) (.slice (some ⟨g2, 0, none⟩) (m + 1) cap2) w5 := by
          unfold RowZ
          rw [HS.out.1, List.length_append, List.map_append, ← HS.out.2]
          exact hown3
        have hb4 := hbd2.grown hgrow (by simp; omega) (fun j hj => own_geG hown hj)
        clear hown3 hgrow hat hlt3 hown hbd2 hi0 hz0 hz1 hz2
        go_wp2_with fail
        go_roundw
        case rel => exact ⟨i + 1, by omega, by go_num, hR3, hb4⟩
        case measure => simp [intOf]; omega
      · have h6b : (xo == 6) = false := beq_eq_false_iff_ne.2 h6
        rw [if_neg h6] at hsucc
        rw [← hsucc] at hR
        have HR := Lib.hid (And.intro hR hbr)
        clear hR hbr hm hsucc
        go_wp2_with fail
        go_roundw
        case rel => exact ⟨i + 1, by omega, by go_num, HR.out.1, HR.out.2⟩
        case measure => simp [intOf]; omega
    · obtain rfl : i = ns := by omega
      have hln := loopsT_len P.sts i
      have FIN : Hid (ListP (loopsT P.sts P.sts.length) w (.returned u3) wr) := Lib.hid ⟨_, rfl, by rw [← HNS.out]; exact hR.is (by unfold maxLen; omega), HB0.out.trans (hbr.mono HB0.out.size)⟩
      rw [← HNS.out] at FIN
      obtain ⟨q3, cc, rfl⟩ := hR.form
      clear hR hln
      go_wp2_with fail
      go_ret
      exact FIN.out
end Go.Proofs.YtncdbjflfhfddaaGreat
