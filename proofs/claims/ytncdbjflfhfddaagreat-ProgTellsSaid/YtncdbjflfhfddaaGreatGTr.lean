/- A program, and some with one thing changed. -/
import Derived.Test.YtncdbjflfhfddaaGreatGTw1
import Derived.Test.YtncdbjflfhfddaaGreatGTw2
import Derived.Deep.Cut
import Derived.Deep.CutRange
import Derived.Deep.CutBlock
namespace Go.Proofs.YtncdbjflfhfddaaGreat
open Go.ChangeShapes Go.WideShapes Go.ChangeAt Go.RowKit Go.Joins Go.Deep
set_option linter.unusedVariables false

theorem mulC {i m : Nat} {c : Int} {n : Nat} (hc : c = (n : Int)) (h : m = i * n) (hm : m ≤ 1000000) : IntKind.i64.wrap ((i : Int) * c) = (m : Int) := by subst hc h; rw [IntKind.wrap_i64]; push_cast; omega
theorem succI (i : Nat) (h : i ≤ 1000000) : wrap64 ((i : Int) + 1) = ((i + 1 : Nat) : Int) := by unfold wrap64; omega
theorem swAll (w0 wb : World) (bx : Nat) (xbig : Bool) (xptr : Int) (p1 p2 p3 p4 p5 : Option Addr) (n1 n2 n3 n4 n5 j1 j2 j3 j4 j5 : Nat) (V N : List Int) (E : List EX) (r : List TT) (M : List Int) (a : Nat) (ha : a < 50)
    (hn1 : V.length = n1) (hn2 : N.length = n2) (hn3 : E.length = n3) (hn4 : r.length = n4) (hn5 : M.length = n5) (l1 : n1 ≤ 900) (l2 : n2 ≤ 900) (l3 : n3 ≤ 900) (ln4 : n4 ≤ 900) (l5 : n5 ≤ 900)
    (hA : CpA w0.heap.size bx 900 wb xbig xptr (.slice p1 n1 j1) (.slice p2 n2 j2) (.slice p3 n3 j3) (.slice p4 n4 j4) (.slice p5 n5 j5) V N E r M) (hb : Below w0.heap.size w0 wb)
    (kz : Int) (hk : kz = 0 ∨ kz = 1 ∨ kz = 2 ∨ kz = 3 ∨ kz = 4 ∨ kz = 5 ∨ kz = 6 ∨ kz = 7 ∨ kz = 8 ∨ kz = 9)
    (t : Array Value) (hF : FrN t kz a bx) (Q : Exit → Act → World → Prop) (hQ : ∀ t' w', KeepN t t' → (CpS w0.heap.size bx 1000 w' ∧ Below w0.heap.size w0 w') → Q .normal ⟨t', []⟩ w') : swC.wp Tryz.prog (NoPanic Q) ⟨t, []⟩ wb := by
  rcases hk with rfl | rfl | rfl | rfl | rfl | rfl | rfl | rfl | rfl | rfl
  · exact sw0 w0 wb bx xbig xptr p1 p2 p3 p4 p5 n1 n2 n3 n4 n5 j1 j2 j3 j4 j5 V N E r M a ha hn1 hn2 hn3 hn4 hn5 l1 l2 l3 ln4 l5 hA hb t hF Q hQ
  · exact sw1 w0 wb bx xbig xptr p1 p2 p3 p4 p5 n1 n2 n3 n4 n5 j1 j2 j3 j4 j5 V N E r M a ha hn1 hn2 hn3 hn4 hn5 l1 l2 l3 ln4 l5 hA hb t hF Q hQ
  · exact sw2 w0 wb bx xbig xptr p1 p2 p3 p4 p5 n1 n2 n3 n4 n5 j1 j2 j3 j4 j5 V N E r M a ha hn1 hn2 hn3 hn4 hn5 l1 l2 l3 ln4 l5 hA hb t hF Q hQ
  · exact sw3 w0 wb bx xbig xptr p1 p2 p3 p4 p5 n1 n2 n3 n4 n5 j1 j2 j3 j4 j5 V N E r M a ha hn1 hn2 hn3 hn4 hn5 l1 l2 l3 ln4 l5 hA hb t hF Q hQ
  · exact sw4 w0 wb bx xbig xptr p1 p2 p3 p4 p5 n1 n2 n3 n4 n5 j1 j2 j3 j4 j5 V N E r M a ha hn1 hn2 hn3 hn4 hn5 l1 l2 l3 ln4 l5 hA hb t hF Q hQ
  · exact sw5 w0 wb bx xbig xptr p1 p2 p3 p4 p5 n1 n2 n3 n4 n5 j1 j2 j3 j4 j5 V N E r M a ha hn1 hn2 hn3 hn4 hn5 l1 l2 l3 ln4 l5 hA hb t hF Q hQ
  · exact sw6 w0 wb bx xbig xptr p1 p2 p3 p4 p5 n1 n2 n3 n4 n5 j1 j2 j3 j4 j5 V N E r M a ha hn1 hn2 hn3 hn4 hn5 l1 l2 l3 ln4 l5 hA hb t hF Q hQ
  · exact sw7 w0 wb bx xbig xptr p1 p2 p3 p4 p5 n1 n2 n3 n4 n5 j1 j2 j3 j4 j5 V N E r M a ha hn1 hn2 hn3 hn4 hn5 l1 l2 l3 ln4 l5 hA hb t hF Q hQ
  · exact sw8 w0 wb bx xbig xptr p1 p2 p3 p4 p5 n1 n2 n3 n4 n5 j1 j2 j3 j4 j5 V N E r M a ha hn1 hn2 hn3 hn4 hn5 l1 l2 l3 ln4 l5 hA hb t hF Q hQ
  · exact sw9 w0 wb bx xbig xptr p1 p2 p3 p4 p5 n1 n2 n3 n4 n5 j1 j2 j3 j4 j5 V N E r M a ha hn1 hn2 hn3 hn4 hn5 l1 l2 l3 ln4 l5 hA hb t hF Q hQ
def NearP (w : World) (e : Ending) (w' : World) : Prop := ∃ (v : Value) (xs : List PX), e = .returned v ∧ IsPs w' v xs ∧ xs.length ≤ 11 ∧ (∀ x ∈ xs, LeP 1000 x) ∧ Below w.heap.size w w'
set_option maxRecDepth 100000 in
set_option maxHeartbeats 12800000 in
theorem near_any (P : PX) (v1 v2 v3 v4 v5 : Value) (s : Nat) (hs : s ≤ 2000) (hL : LeP 900 P) (w : World) (h : IsPr w v1 v2 v3 v4 v5 P) : Calls Tryz.prog 5 #[.agg #[.bool P.big, .int .i64 P.ptr, v1, v2, v3, v4, v5], .int .i64 (s : Nat)] w (NearP w) := by
  obtain ⟨l1, l2, l3, l4, l5, lst⟩ := hL
  have hSt : Stays (w.heap.size + 1) (w.alloc (.cells #[.bool P.big, .int .i64 P.ptr, v1, v2, v3, v4, v5] 33)) (P, v1, v2, v3, v4, v5) := fun w2 h2 => by
    have hb := below_box1 w (.cells #[.bool P.big, .int .i64 P.ptr, v1, v2, v3, v4, v5] 33)
    exact IsPr.below h (hb.trans (h2.1.mono (Nat.le_succ _)))
  obtain ⟨q1, k1, rfl, _⟩ := id h.1
  obtain ⟨q2, k2, rfl, _⟩ := id h.2.1
  obtain ⟨q3, k3, rfl, _⟩ := id h.2.2.1
  obtain ⟨q4, k4, rfl, _⟩ := id h.2.2.2.1
  obtain ⟨q5, k5, rfl, _⟩ := id h.2.2.2.2
  have hb0 := below_box1 w (.cells #[.bool P.big, .int .i64 P.ptr, .slice q1 P.vars.length k1, .slice q2 P.news.length k2, .slice q3 P.exs.length k3, .slice q4 P.sts.length k4, .slice q5 P.main.length k5] 33)
  have hA := At.new w #[.bool P.big, .int .i64 P.ptr, .slice q1 P.vars.length k1, .slice q2 P.news.length k2, .slice q3 P.exs.length k3, .slice q4 P.sts.length k4, .slice q5 P.main.length k5] 33
  have hsz := World.size_alloc w (.cells #[.bool P.big, .int .i64 P.ptr, .slice q1 P.vars.length k1, .slice q2 P.news.length k2, .slice q3 P.exs.length k3, .slice q4 P.sts.length k4, .slice q5 P.main.length k5] 33)
  obtain ⟨w1, hw1⟩ : ∃ w1, w.alloc (.cells #[.bool P.big, .int .i64 P.ptr, .slice q1 P.vars.length k1, .slice q2 P.news.length k2, .slice q3 P.exs.length k3, .slice q4 P.sts.length k4, .slice q5 P.main.length k5] 33) = w1 := ⟨_, rfl⟩
  rw [hw1] at hb0 hA hsz hSt
  rw [← hsz] at hSt
  have hb1 := below_box1 w1 (.cells #[.bool P.big, .int .i64 P.ptr, .slice q1 P.vars.length k1, .slice q2 P.news.length k2, .slice q3 P.exs.length k3, .slice q4 P.sts.length k4, .slice q5 P.main.length k5] 33)
  have hown1 := ownsRow_lit w1 w1.heap.size 33 7 1 #[.bool P.big, .int .i64 P.ptr, .slice q1 P.vars.length k1, .slice q2 P.news.length k2, .slice q3 P.exs.length k3, .slice q4 P.sts.length k4, .slice q5 P.main.length k5] (Nat.le_refl _) rfl (by decide)
  obtain ⟨w2, hw2⟩ : ∃ w2, w1.alloc (.cells #[.bool P.big, .int .i64 P.ptr, .slice q1 P.vars.length k1, .slice q2 P.news.length k2, .slice q3 P.exs.length k3, .slice q4 P.sts.length k4, .slice q5 P.main.length k5] 33) = w2 := ⟨_, rfl⟩
  rw [hw2] at hb1 hown1
  have hR2 : RowPr w1.heap.size [(P, .slice q1 P.vars.length k1, .slice q2 P.news.length k2, .slice q3 P.exs.length k3, .slice q4 P.sts.length k4, .slice q5 P.main.length k5)] (.slice (some ⟨w1.heap.size, 0, none⟩) 1 1) w2 := ⟨fun t ht => by
    obtain rfl := List.mem_singleton.1 ht
    exact ⟨hSt.step (PStep.below hb1 (Nat.le_refl _)), ⟨by show P.vars.length ≤ 1000; omega, by show P.news.length ≤ 1000; omega, by show P.exs.length ≤ 1000; omega, by show P.sts.length ≤ 1000; omega, by show P.main.length ≤ 1000; omega, fun s hs => by have := lst s hs; exact ⟨by have := this.1; omega, by have := this.2; omega⟩⟩⟩, hown1⟩
  have a0 : w1.cell? ⟨w.heap.size, 0, none⟩ = some (.bool P.big) := hA.cell 0 rfl
  have a1 : w1.cell? ⟨w.heap.size, 1, none⟩ = some (.int .i64 P.ptr) := hA.cell 1 rfl
  have a2 : w1.cell? ⟨w.heap.size, 2, none⟩ = some (.slice q1 P.vars.length k1) := hA.cell 2 rfl
  have a3 : w1.cell? ⟨w.heap.size, 3, none⟩ = some (.slice q2 P.news.length k2) := hA.cell 3 rfl
  have a4 : w1.cell? ⟨w.heap.size, 4, none⟩ = some (.slice q3 P.exs.length k3) := hA.cell 4 rfl
  have a5 : w1.cell? ⟨w.heap.size, 5, none⟩ = some (.slice q4 P.sts.length k4) := hA.cell 5 rfl
  have a6 : w1.cell? ⟨w.heap.size, 6, none⟩ = some (.slice q5 P.main.length k5) := hA.cell 6 rfl
  have HB0 := Lib.hid hb0
  have HB1 := Lib.hid hb1
  have HR2 := Lib.hid hR2
  have HH := Lib.hid h
  have HLst := Lib.hid lst
  obtain ⟨i0, hi0, hz0, hz1, hz2⟩ := info_parts gProgI
  clear h hb0 hb1 hA hSt hown1 hR2 hsz lst
  go_enter Tryz.func5, Tryz.ntmps5
  go_wp2_with fail
  clear hw1 hw2
  go_loopw [5, 6] (fun v5 v6 wr => ∃ (i : Nat) (ps : List PT), i ≤ 10 ∧ ps.length = i + 1 ∧ v6 = .int .i64 (i : Nat) ∧ RowPr w1.heap.size ps v5 wr ∧ Below w1.heap.size w1 wr) (fun _ v _ => 10 - (intOf v).toNat)
  case atStart => exact ⟨0, _, Nat.zero_le _, rfl, rfl, HR2.out, HB1.out⟩
  case round =>
    obtain ⟨i, ps, hi, hps, rfl, hR, hbr⟩ := hrel
    obtain ⟨wr1, hwr1⟩ : ∃ w', w' = wr := ⟨_, rfl⟩
    subst hwr1
    have HBR := Lib.hid hbr
    by_cases hlt : i < 10
    · have hj3 : (i : Int) < 10 := by omega
      have c0 := cell_below a0 hbr
      have c1 := cell_below a1 hbr
      have c2 := cell_below a2 hbr
      have c3 := cell_below a3 hbr
      have c4 := cell_below a4 hbr
      have c5 := cell_below a5 hbr
      have c6 := cell_below a6 hbr
      have hpr := HH.out.below (HB0.out.trans (hbr.mono HB0.out.size))
      have cC := copyProgram_any P.big P.ptr _ _ _ _ _ P.vars P.news P.exs P.sts P.main (by omega) (by omega) (by omega) (by omega) (by omega) (fun s hs => by have := HLst.out s hs; exact ⟨by have := this.1; omega, by have := this.2; omega⟩) wr1 hpr.1 hpr.2.1 hpr.2.2.1 hpr.2.2.2.1 hpr.2.2.2.2
      unfold CopyPr at cC
      obtain ⟨s7, hs7⟩ : ∃ m, m = s * 7 := ⟨_, rfl⟩
      obtain ⟨i5, hi5⟩ : ∃ m, m = i * 5 := ⟨_, rfl⟩
      obtain ⟨sm, hsm⟩ : ∃ m, m = s7 + i5 := ⟨_, rfl⟩
      have e1 : IntKind.i64.wrap ((s : Int) * 7) = (s7 : Int) := mulC (n := 7) rfl hs7 (by omega)
      have e2 : IntKind.i64.wrap ((i : Int) * 5) = (i5 : Int) := mulC (n := 5) rfl hi5 (by omega)
      have e3 : IntKind.i64.wrap ((s7 : Int) + (i5 : Int)) = (sm : Int) := by rw [IntKind.wrap_i64]; omega
      have cW : ∀ w, Calls Tryz.prog 21 #[.int .i64 (sm : Nat), .int .i64 50] w fun e w' => (∃ a : Nat, a < 50 ∧ e = .returned (.int .i64 a)) ∧ w = w' := fun w => withinG_any sm 50 (by omega) (by omega) (by omega) w
      have HR := Lib.hid (And.intro hR hps)
      have HE := Lib.hid (And.intro hs7 (And.intro hi5 hsm))
      clear hR hps hpr hbr hs7 hi5 hsm
      generalize P.big = xbig at *
      generalize P.ptr = xptr at *
      go_upto_region 6 with ((go_at_call 6; refine cC.mono ?_; rintro e wc ⟨u1, u2, u3, u4, u5, rfl, z1, z2, z3, ⟨r, hr, z4⟩, z5, hbc⟩; obtain ⟨p1, j1, rfl⟩ := z1.form; obtain ⟨p2, j2, rfl⟩ := z2.form; obtain ⟨p3, j3, rfl⟩ := z3.form; obtain ⟨p4, j4, rfl⟩ := z4.form; obtain ⟨p5, j5, rfl⟩ := z5.form))
      --CUT
      have hlt4 : LeT 900 r := ⟨by have := congrArg List.length hr; rw [List.length_map] at this; omega, fun t ht => HLst.out t.1 (by rw [← hr]; exact List.mem_map_of_mem ht)⟩
      have hn4' : r.length = P.sts.length := by rw [← hr, List.length_map]
      have Bb := below_box1 wc (.cells #[.bool xbig, .int .i64 xptr, .slice p1 P.vars.length j1, .slice p2 P.news.length j2, .slice p3 P.exs.length j3, .slice p4 r.length j4, .slice p5 P.main.length j5] 33)
      have Ab := At.new wc #[.bool xbig, .int .i64 xptr, .slice p1 P.vars.length j1, .slice p2 P.news.length j2, .slice p3 P.exs.length j3, .slice p4 r.length j4, .slice p5 P.main.length j5] 33
      obtain ⟨wb, hwb⟩ : ∃ wb, wc.alloc (.cells #[.bool xbig, .int .i64 xptr, .slice p1 P.vars.length j1, .slice p2 P.news.length j2, .slice p3 P.exs.length j3, .slice p4 r.length j4, .slice p5 P.main.length j5] 33) = wb := ⟨_, rfl⟩
      rw [hwb] at Bb Ab
      rw [hwb]
      have hA : CpA wr1.heap.size wc.heap.size 900 wb xbig xptr (.slice p1 P.vars.length j1) (.slice p2 P.news.length j2) (.slice p3 P.exs.length j3) (.slice p4 r.length j4) (.slice p5 P.main.length j5) P.vars P.news P.exs r P.main := ⟨Ab, hbc.size, z1.bel Bb, z2.bel Bb, z3.bel Bb, z4.bel Bb, z5.bel Bb, l1, l2, l3, hlt4, l5⟩
      have HB := Lib.hid (hbc.trans (Bb.mono hbc.size))
      obtain ⟨bx, hbx⟩ : ∃ bx, wc.heap.size = bx := ⟨_, rfl⟩
      rw [hbx] at hA
      rw [hbx]
      have ln4 : r.length ≤ 900 := hlt4.1
      clear hwb Bb Ab z1 z2 z3 z4 z5 hbc hr hn4' hlt4 c0 c1 c2 c3 c4 c5 c6 a0 a1 a2 a3 a4 a5 a6 cC HH HLst HR2
      obtain ⟨n1, hn1⟩ : ∃ n, P.vars.length = n := ⟨_, rfl⟩
      obtain ⟨n2, hn2⟩ : ∃ n, P.news.length = n := ⟨_, rfl⟩
      obtain ⟨n3, hn3⟩ : ∃ n, P.exs.length = n := ⟨_, rfl⟩
      obtain ⟨n4, hn4⟩ : ∃ n, r.length = n := ⟨_, rfl⟩
      obtain ⟨n5, hn5⟩ : ∃ n, P.main.length = n := ⟨_, rfl⟩
      rw [hn1] at hA l1 ⊢
      rw [hn2] at hA l2 ⊢
      rw [hn3] at hA l3 ⊢
      rw [hn4] at hA ln4 ⊢
      rw [hn5] at hA l5 ⊢
      have hA1 : CpA wr1.heap.size bx 1000 wb xbig xptr (.slice p1 n1 j1) (.slice p2 n2 j2) (.slice p3 n3 j3) (.slice p4 n4 j4) (.slice p5 n5 j5) P.vars P.news P.exs r P.main := ⟨hA.box, hA.ge, hA.z1, hA.z2, hA.z3, hA.z4, hA.z5, by omega, by omega, by omega, ⟨by omega, fun t ht => by have := hA.l4.2 t ht; omega⟩, by omega⟩
      go_upto_region 7 with (go_at_call 21; refine (cW _).mono ?_; rintro e w' ⟨⟨a, ha, rfl⟩, rfl⟩)
      obtain ⟨kz, hkz⟩ : ∃ kz : Int, (i : Int) = kz := ⟨_, rfl⟩
      have hk10 : kz = 0 ∨ kz = 1 ∨ kz = 2 ∨ kz = 3 ∨ kz = 4 ∨ kz = 5 ∨ kz = 6 ∨ kz = 7 ∨ kz = 8 ∨ kz = 9 := by omega
      have HK := Lib.hid hkz
      have HNS := Lib.hid (And.intro hn1 (And.intro hn2 (And.intro hn3 hn5)))
      rw [hkz]
      clear hkz cW e1 e2 e3
      go_upto_block 2 with (fail)
      go_cut [9, 10] from 13 to 148 (fun v9 v10 wx => CpS wr1.heap.size bx 1000 wx ∧ Below wr1.heap.size wr1 wx)
      case first =>
        refine noPanic_mono (swAll wr1 wb bx xbig xptr p1 p2 p3 p4 p5 n1 n2 n3 n4 n5 j1 j2 j3 j4 j5 P.vars P.news P.exs r P.main a ha hn1 hn2 hn3 hn4 hn5 l1 l2 l3 ln4 l5 hA HB.out kz hk10 _ ⟨rfl, rfl, rfl, rfl, rfl⟩ _ ?_)
        intro t' w' hk hcs
        obtain ⟨g0, k0, k1, k2, k3, k4, k5, k6, k7, k8, k11, k12, k149⟩ := hk
        conv at k0 => rhs; whnf
        conv at k1 => rhs; whnf
        conv at k2 => rhs; whnf
        conv at k3 => rhs; whnf
        conv at k4 => rhs; whnf
        conv at k5 => rhs; whnf
        conv at k6 => rhs; whnf
        conv at k7 => rhs; whnf
        conv at k8 => rhs; whnf
        conv at k11 => rhs; whnf
        conv at k12 => rhs; whnf
        conv at k149 => rhs; whnf
        change sl t' 3 = undef at k3
        change sl t' 149 = undef at k149
        rw [open_150 t' g0]
        simp only [k0, k1, k2, k3, k4, k5, k6, k7, k8, k11, k12, k149]
        clear g0 k0 k1 k2 k3 k4 k5 k6 k7 k8 k11 k12 k149
        go_wp2_with fail
        go_meet
        case rel => exact hcs
      case rest =>
        obtain ⟨⟨big9, ptr9, y1, y2, y3, y4, y5, V9, N9, E9, r9, M9, hC⟩, hbx2⟩ := hcut
        clear hA hA1 HB hk10
        obtain ⟨p1', j1', rfl⟩ := hC.z1.form
        obtain ⟨p2', j2', rfl⟩ := hC.z2.form
        obtain ⟨p3', j3', rfl⟩ := hC.z3.form
        obtain ⟨p4', j4', rfl⟩ := hC.z4.form
        obtain ⟨p5', j5', rfl⟩ := hC.z5.form
        obtain ⟨qv, cv, hqv⟩ := HR.out.1.form
        obtain ⟨m, hm⟩ : ∃ m, m = i + 1 := ⟨_, rfl⟩
        rw [HR.out.2, ← hm] at hqv
        obtain ⟨wx, hwx⟩ : ∃ w', w' = wc := ⟨_, rfl⟩
        subst hwx
        have Bn := below_box1 wx (.cells #[.bool big9, .int .i64 ptr9, .slice p1' V9.length j1', .slice p2' N9.length j2', .slice p3' E9.length j3', .slice p4' r9.length j4', .slice p5' M9.length j5'] 33)
        have An := At.new wx #[.bool big9, .int .i64 ptr9, .slice p1' V9.length j1', .slice p2' N9.length j2', .slice p3' E9.length j3', .slice p4' r9.length j4', .slice p5' M9.length j5'] 33
        have b0 : wx.cell? ⟨bx, 0, none⟩ = some (.bool big9) := hC.box.cell 0 rfl
        have b1 : wx.cell? ⟨bx, 1, none⟩ = some (.int .i64 ptr9) := hC.box.cell 1 rfl
        have b2 : wx.cell? ⟨bx, 2, none⟩ = some (.slice p1' V9.length j1') := hC.box.cell 2 rfl
        have b3 : wx.cell? ⟨bx, 3, none⟩ = some (.slice p2' N9.length j2') := hC.box.cell 3 rfl
        have b4 : wx.cell? ⟨bx, 4, none⟩ = some (.slice p3' E9.length j3') := hC.box.cell 4 rfl
        have b5 : wx.cell? ⟨bx, 5, none⟩ = some (.slice p4' r9.length j4') := hC.box.cell 5 rfl
        have b6 : wx.cell? ⟨bx, 6, none⟩ = some (.slice p5' M9.length j5') := hC.box.cell 6 rfl
        have hso := Stays.own (base := w1.heap.size) (hC.bel Bn)
        have hRn := ((HR.out.1).below hbx2 HBR.out.size).below Bn (Nat.le_trans HBR.out.size hbx2.size)
        rw [hqv] at hRn
        have hown0 := hRn.2
        rw [HR.out.2, ← hm] at hown0
        have hbn := (HBR.out.trans (hbx2.mono HBR.out.size)).trans (Bn.mono (Nat.le_trans HBR.out.size hbx2.size))
        have hbase := hbn.size
        have hm1 : m + 1 ≤ maxLen := by unfold maxLen; omega
        have hm2 : (m + 1) * 136 ≤ 140737488355328 := by omega
        have HN := Lib.hid (And.intro hRn (And.intro hso hbn))
        have HM := Lib.hid hm
        clear hC hso hRn hbn hbx2 Bn hm HE
        subst hqv
        go_wp2_with ((at_builtin; refine wpList_append_lies _ rfl _ _ 22 rfl w1.heap.size 33 i0 _ 7 136 Tryz.underlying22 hi0 hz0 hz1 hz2 rfl (by decide) (.slice qv m cv) m (ps.flatMap ptC) rfl hown0 ⟨wx.heap.size, 0, none⟩ 1 1 [.bool big9, .int .i64 ptr9, .slice p1' V9.length j1', .slice p2' N9.length j2', .slice p3' E9.length j3', .slice p4' r9.length j4', .slice p5' M9.length j5'] rfl rfl (World.news_of_block (cs := #[.bool big9, .int .i64 ptr9, .slice p1' V9.length j1', .slice p2' N9.length j2', .slice p3' E9.length j3', .slice p4' r9.length j4', .slice p5' M9.length j5']) (t := 33) (fr := (0, 0)) An) (by simp [Value.oneCell']) (by omega) hm1 hm2 hbase _ rfl ?_; intro g2 cap2 w9 hown9 hgrow hat hlt9))
        have hrow := RowPr.grown (t := (⟨big9, ptr9, V9, N9, E9, r9.map (·.1), M9⟩, .slice p1' V9.length j1', .slice p2' N9.length j2', .slice p3' E9.length j3', .slice p4' r9.length j4', .slice p5' M9.length j5')) HN.out.1 HN.out.2.1 hbase hgrow (by rw [HR.out.2, ← HM.out]; exact hown9)
        have hb9 := HN.out.2.2.grown hgrow hbase (fun j hj => own_geG hown0 hj)
        clear hown9 hgrow hat hlt9 hown0 b0 b1 b2 b3 b4 b5 b6 An
        go_wp2_with fail
        have ek := HK.out
        obtain ⟨en1, en2, en3, en5⟩ := HNS.out
        clear hn1 hn2 hn3 hn5
        subst ek en1 en2 en3 en5
        rw [succI i (by omega)]
        go_roundw
        case rel => exact ⟨i + 1, _, by omega, by rw [List.length_append, HR.out.2]; rfl, rfl, hrow, hb9⟩
        case measure => simp [intOf]; omega
    · obtain rfl : i = 10 := by omega
      have hl11 : ps.length ≤ maxLen := by unfold maxLen; omega
      have hFIN : NearP w (.returned u5) wr1 := ⟨_, _, rfl, hR.is hl11, by rw [List.length_map]; omega, fun x hx => by
        obtain ⟨t, ht, rfl⟩ := List.mem_map.1 hx
        exact (hR.1 t ht).2, HB0.out.trans (HBR.out.mono HB0.out.size)⟩
      have FIN := Lib.hid hFIN
      obtain ⟨q, c, rfl⟩ := hR.form
      clear hR hbr hFIN
      go_wp2_with fail
      go_ret
      exact FIN.out
end Go.Proofs.YtncdbjflfhfddaaGreat
