/- Package val: tell: one of a layout's arcs that fits, or nothing. -/
import Derived.Test.YtblahbmhbfcggaaGreatDoorVTellM
import Derived.Test.YtblahbmhbfcggaaGreatDoorVBetween
import Derived.Test.YtblahbmhbfcggaaGreatDoorVConcat
import Derived.BigRegion
import Derived.Deep.DeepMust
import Derived.Deep.CutRange
namespace Go.Proofs.YtblahbmhbfcggaaGreatDoor
open Go.ChangeShapes Go.WideShapes Go.ChangeAt Go.RowKit Go.Joins Go.Deep
set_option linter.unusedVariables false

set_option maxRecDepth 100000 in
set_option maxHeartbeats 6400000 in
theorem tell_in (bl k F X : Nat) (L : Spans) (sl : Value) (c : Int) (w : World) (g : GoodL k F X L c) (hl : L.length ≤ 1000) (hA : At w bl (layC k F X sl c) 158) (hs : SrcV w sl L) (Fit : Nat → Prop) (bc : Nat)
    (cF : ∀ (w1 : World) (j : Nat), j < L.length → Below w.heap.size w w1 → Calls Tryz.prog 129 #[valV k false (arcL L j) (arcH L j) F X, .pointer (some ⟨bc, 0, none⟩)] w1 (fun e w2 => ∃ is : Bool, (is = true ↔ Fit j) ∧ e = .returned (.bool is) ∧ Below w1.heap.size w1 w2)) :
    Calls Tryz.prog 132 #[.pointer (some ⟨bl, 0, none⟩), .func (.func 129) #[] #[.pointer (some ⟨bc, 0, none⟩)]] w (TellPost k L F X Fit w) := by
  have ends := fun t ht => g.ends t ht
  have hk := g.pat.hk
  have hkp := hk.pow
  have hk3 := hk.le
  have lF := g.pat.hf
  have lX := g.pat.hb
  have cN := fun w => none_any k w
  obtain ⟨psl, cap, rfl, hs⟩ := hs
  have d4 := At.new w #[.int .i64 0, .bool false, .int .i64 0, .int .i64 0, .int .i64 0, .int .i64 0] 30
  have hb4 : Below w.heap.size w (w.alloc (.cells #[.int .i64 0, .bool false, .int .i64 0, .int .i64 0, .int .i64 0, .int .i64 0] 30)) := (Below.refl _ _).alloc (Nat.le_refl _) _
  have hA4 := At.below' hb4 hA
  have a0 : (w.alloc (.cells #[.int .i64 0, .bool false, .int .i64 0, .int .i64 0, .int .i64 0, .int .i64 0] 30)).cell? ⟨bl, 0, none⟩ = some (.int .i64 k) := hA4.cell 0 rfl
  go_enter Tryz.func132, Tryz.ntmps132
  go_wp2_with fail
  refine (cN _).mono ?_
  rintro e w1 ⟨rfl, hb1⟩
  have d4' := At.below' hb1 d4
  have hbE := hb4.trans (hb1.mono hb4.size)
  have d5 := At.new w1 #[.int .i64 k, .bool true, .int .i64 0, .int .i64 0, .int .i64 0, .int .i64 0] 30
  have d4'' := At.alloc d4' (.cells #[.int .i64 k, .bool true, .int .i64 0, .int .i64 0, .int .i64 0, .int .i64 0] 30)
  have hbF := hbE.alloc hbE.size (.cells #[.int .i64 k, .bool true, .int .i64 0, .int .i64 0, .int .i64 0, .int .i64 0] 30)
  have hA5 := At.below' hbF hA
  have a3 : (w1.alloc (.cells #[.int .i64 k, .bool true, .int .i64 0, .int .i64 0, .int .i64 0, .int .i64 0] 30)).cell? ⟨bl, 3, none⟩ = some (.slice psl L.length cap) := hA5.cell 3 rfl
  have hN4 : w.heap.size < w1.heap.size := d4'.lt
  obtain ⟨n, hn⟩ : ∃ n, n = L.length := ⟨_, rfl⟩
  rw [← hn] at a3 hs hl
  have HN := Lib.hid hn
  clear hn a0 hA4 d4 d4' hb4 hb1 hbE
  go_wp2_with fail
  obtain ⟨B5, hB5⟩ : ∃ B5, B5 = w1.heap.size := ⟨_, rfl⟩
  rw [← hB5] at d5 hN4 ⊢
  obtain ⟨B4, hB4⟩ : ∃ B4, B4 = w.heap.size := ⟨_, rfl⟩
  rw [← hB4] at d4'' hN4 ⊢
  have HB4 := Lib.hid hB4
  generalize w1.alloc (.cells #[.int .i64 k, .bool true, .int .i64 0, .int .i64 0, .int .i64 0, .int .i64 0] 30) = w2 at *
  clear hB5 hB4
  go_loopw [6, 23] (fun vm vi wr => RelTell k L F X B5 Fit w2 vm vi wr) (fun _ vi _ => n - (intOf vi).toNat)
  case atStart => exact ⟨0, -1, true, 0, 0, 0, 0, by omega, rfl, rfl, TellSt.start, d5, Keeps.refl _ _⟩
  case round =>
    obtain ⟨i, m, no, l, h, f, b, hi, rfl, rfl, hst, hd, hkp2⟩ := hrel
    clear a3
    by_cases hlt : i < n
    · have hlt1 : (i : Int) < (n : Int) := by omega
      have hiL : i < L.length := by have := HN.out; omega
      obtain ⟨gs, rfl, hH⟩ := hs.resolve_left (by omega)
      have hbW : Below w.heap.size w wr := hbF.trans (hkp2.below (by have := HB4.out; omega) hbF.size)
      obtain ⟨s0, s1, hgl⟩ := hH.at hbW hiL
      obtain ⟨a, ea⟩ : ∃ a, a = (i + L.length - 1) % L.length := ⟨_, rfl⟩
      have haL : a < L.length := by rw [ea]; exact ahead_lt hiL
      obtain ⟨u0, u1, _⟩ := hH.at hbW haL
      obtain ⟨x, y, hxy⟩ : ∃ x y, L[i] = (x, y) := ⟨_, _, rfl⟩
      obtain ⟨p, q, hpq⟩ : ∃ p q, L[a] = (p, q) := ⟨_, _, rfl⟩
      have eL : arcL L i = x := by unfold arcL; rw [getD_eq hiL, hxy]
      have eH : arcH L i = q := by unfold arcH; rw [← ea, getD_eq haL, hpq]
      have lx := ends _ (List.getElem_mem hiL)
      have lq := ends _ (List.getElem_mem haL)
      rw [hxy] at s0 s1 lx
      rw [hpq] at u0 u1 lq
      simp only at s0 s1 u0 u1 lx lq
      obtain ⟨lx1, lx2, lx3, _⟩ := lx
      obtain ⟨lq1, lq2, _, lq3⟩ := lq
      have cB := between_any k F X q x hk3 lF (by omega) (by omega)
      have cf := fun w1 hb => cF w1 i hiL hb
      rw [eL, eH] at cf
      have EL := Lib.hid eL
      have EH := Lib.hid eH
      have han : a < n := by have := HN.out; omega
      have et : ((i : Int) + (n : Int) - 1) % (n : Int) = (a : Int) := by
        have h1 : n = L.length := HN.out
        rw [ea, ← h1]
        have : ((i + n - 1 : Nat) : Int) = (i : Int) + n - 1 := by omega
        rw [← this]; simp
      have et2 : Int.tmod ((i : Int) + (n : Int) - 1) (n : Int) = (a : Int) := by
        rw [Int.tmod_eq_emod_of_nonneg (by omega)]; exact et
      have hAw := At.below' hbW hA
      have b0 : wr.cell? ⟨bl, 0, none⟩ = some (.int .i64 k) := hAw.cell 0 rfl
      have b1 : wr.cell? ⟨bl, 1, none⟩ = some (.int .i64 F) := hAw.cell 1 rfl
      have b2 : wr.cell? ⟨bl, 2, none⟩ = some (.int .i64 X) := hAw.cell 2 rfl
      have b3 : wr.cell? ⟨bl, 3, none⟩ = some (.slice (some ⟨gs, 0, none⟩) n cap) := by rw [HN.out]; exact hAw.cell 3 rfl
      have b3' := cell_alloc b3 (.cells #[.int .i64 x, .int .i64 y] 166)
      have u0' := cell_alloc u0 (.cells #[.int .i64 x, .int .i64 y] 166)
      have u1' := cell_alloc u1 (.cells #[.int .i64 x, .int .i64 y] 166)
      have b3'' := cell_alloc b3' (.cells #[.int .i64 0, .int .i64 0] 166)
      have u0'' := cell_alloc u0' (.cells #[.int .i64 0, .int .i64 0] 166)
      have u1'' := cell_alloc u1' (.cells #[.int .i64 0, .int .i64 0] 166)
      have hn0 : ¬ (n = 0) := by omega
      have iw1 : IntKind.i64.wrap ((i : Int) + (n : Int)) = (i : Int) + n := by rw [IntKind.wrap_i64]; omega
      have iw2 : IntKind.i64.wrap ((i : Int) + (n : Int) - 1) = (i : Int) + n - 1 := by rw [IntKind.wrap_i64]; omega
      have dS := At.new wr #[.int .i64 x, .int .i64 y] 166
      have hsz := hbW.size
      clear hxy hpq eL eH lx1 lx3 lq1 lq3 ends cN hs hH ea et u0 u1 hAw hlt
      go_upto_region 5 with (fail)
      go_cut [9] from 28 to 47 (fun v9 wx => v9 = .pointer (some ⟨wr.heap.size + 1, 0, none⟩) ∧ wx = ((wr.alloc (.cells #[.int .i64 x, .int .i64 y] 166)).alloc (.cells #[.int .i64 p, .int .i64 q] 166)).drew)
      case first =>
        clear cf cB cF hst hd hkp2 d5 hbF hA5 hA g
        go_region
        go_wp2_with fail
        go_meet
        exact ⟨rfl, rfl⟩
      case rest =>
      obtain ⟨rfl, rfl⟩ := hcut
      clear b3' b3'' u0' u1' u0'' u1'' hn0 iw1 iw2 et2 s0 s1 hgl b3
      obtain ⟨dS2, dA2, hbo⟩ := two_boxes wr #[.int .i64 x, .int .i64 y] #[.int .i64 p, .int .i64 q] 166
      have dS3 := dS2.drew
      have dA3 := dA2.drew
      have hbo3 := hbo.drew
      have hd3 := At.below' hbo3 hd
      have v0 := cell_below b0 hbo3
      have v1 := cell_below b1 hbo3
      have v2 := cell_below b2 hbo3
      have hK3 := hkp2.trans (Keeps.of_below hbo3)
      obtain ⟨Bs, hBs⟩ : ∃ Bs, Bs = wr.heap.size := ⟨_, rfl⟩
      rw [← hBs] at dS3 dA3 ⊢
      clear dS dS2 dA2 hbo hbo3 b0 b1 b2 hd hkp2 hsz hbW hBs
      generalize ((wr.alloc (.cells #[.int .i64 x, .int .i64 y] 166)).alloc (.cells #[.int .i64 p, .int .i64 q] 166)).drew = w5 at *
      have sx : w5.cell? ⟨Bs, 0, none⟩ = some (.int .i64 x) := dS3.cell 0 rfl
      have sq : w5.cell? ⟨Bs + 1, 1, none⟩ = some (.int .i64 q) := dA3.cell 1 rfl
      go_upto_region 6 with (fail)
      go_cut [10] from 48 to 67 (fun v10 wx => v10 = .pointer (some ⟨w5.heap.size, 0, none⟩) ∧ wx = (w5.alloc (.cells #[.int .i64 k, .bool false, .int .i64 x, .int .i64 q, .int .i64 F, .int .i64 X] 30)).drew)
      case first =>
        have v0' := cell_alloc v0 (.cells #[.int .i64 0, .bool false, .int .i64 0, .int .i64 0, .int .i64 0, .int .i64 0] 30)
        have v1' := cell_alloc v1 (.cells #[.int .i64 0, .bool false, .int .i64 0, .int .i64 0, .int .i64 0, .int .i64 0] 30)
        have v2' := cell_alloc v2 (.cells #[.int .i64 0, .bool false, .int .i64 0, .int .i64 0, .int .i64 0, .int .i64 0] 30)
        have sx' := cell_alloc sx (.cells #[.int .i64 0, .bool false, .int .i64 0, .int .i64 0, .int .i64 0, .int .i64 0] 30)
        have sq' := cell_alloc sq (.cells #[.int .i64 0, .bool false, .int .i64 0, .int .i64 0, .int .i64 0, .int .i64 0] 30)
        clear cf cB cF hst hd3 hK3 d5 hbF hA5 hA g dS3 dA3
        go_region
        go_wp2_with fail
        go_meet
        exact ⟨rfl, rfl⟩
      case rest =>
      obtain ⟨rfl, rfl⟩ := hcut
      have dV := (At.new w5 #[.int .i64 k, .bool false, .int .i64 x, .int .i64 q, .int .i64 F, .int .i64 X] 30).drew
      have hbo6 : Below w5.heap.size w5 (w5.alloc (.cells #[.int .i64 k, .bool false, .int .i64 x, .int .i64 q, .int .i64 F, .int .i64 X] 30)).drew := ((Below.refl _ _).alloc (Nat.le_refl _) _).drew
      have dS6 := At.below' hbo6 dS3
      have dA6 := At.below' hbo6 dA3
      have hd6 := At.below' hbo6 hd3
      have y0 := cell_below v0 hbo6
      have y1 := cell_below v1 hbo6
      have y2 := cell_below v2 hbo6
      have hK6 := hK3.trans (Keeps.of_below hbo6)
      obtain ⟨Bv, hBv⟩ : ∃ Bv, Bv = w5.heap.size := ⟨_, rfl⟩
      rw [← hBv] at dV ⊢
      have hBB : B5 < Bv := by rw [hBv]; exact hd3.lt
      clear hbo6 dS3 dA3 hd3 v0 v1 v2 hK3 sx sq hBv
      generalize (w5.alloc (.cells #[.int .i64 k, .bool false, .int .i64 x, .int .i64 q, .int .i64 F, .int .i64 X] 30)).drew = w6 at *
      have hS5 : w6.cell? ⟨bl, 0, none⟩ = some (.int .i64 k) ∧ w6.cell? ⟨bl, 1, none⟩ = some (.int .i64 F) ∧ w6.cell? ⟨bl, 2, none⟩ = some (.int .i64 X) ∧ w6.cell? ⟨Bs, 0, none⟩ = some (.int .i64 x) ∧ w6.cell? ⟨Bs + 1, 1, none⟩ = some (.int .i64 q) := ⟨y0, y1, y2, dS6.cell 0 rfl, dA6.cell 1 rfl⟩
      clear y0 y1 y2 dS6 dA6
      go_upto_region 7 with (fail)
      go_cut [11] from 68 to 76 (fun v11 wx => ∃ gp : Int, 0 ≤ gp ∧ gp ≤ 1152921504606846976 ∧ v11 = .int .i64 gp ∧ Below w6.heap.size w6 wx)
      case first =>
        have hb00 : Below w6.heap.size w6 w6 := Below.refl _ _
        clear cf cF hst hd6 hK6 d5 hbF hA5 hA g dV
        go_region_held3 (fun w' => w'.cell? ⟨bl, 0, none⟩ = some (.int .i64 k) ∧ w'.cell? ⟨bl, 1, none⟩ = some (.int .i64 F) ∧ w'.cell? ⟨bl, 2, none⟩ = some (.int .i64 X) ∧ w'.cell? ⟨Bs, 0, none⟩ = some (.int .i64 x) ∧ w'.cell? ⟨Bs + 1, 1, none⟩ = some (.int .i64 q))
          (first
            | exact hS5
            | exact keep5_below (by assumption) hbm)
          ((go_at_call 162; refine (cB _).mono ?_; rintro e ws ⟨gp, hg0, hg1, rfl, hbm⟩; have hbG := below_step hbm hb00 rfl rfl rfl rfl hb00.size))
        all_goals
          go_wp2_with fail
          go_meet
          exact ⟨gp, hg0, hg1, rfl, hbG⟩
      case rest =>
      obtain ⟨gp, hg0, hg1, rfl, hb7⟩ := hcut
      have hd7 := At.below' hb7 hd6
      have dV7 := At.below' hb7 dV
      have hK7 := hK6.trans (Keeps.of_below hb7)
      clear hd6 dV hK6 hb7 hS5 cB lF lX lx2 lq2
      generalize wc = w7 at *
      have hbW7 : Below w.heap.size w w7 := hbF.trans (hK7.below (by have := HB4.out; omega) hbF.size)
      have e0 : w7.cell? ⟨Bv, 0, none⟩ = some (.int .i64 k) := dV7.cell 0 rfl
      have e1 : w7.cell? ⟨Bv, 1, none⟩ = some (.bool false) := dV7.cell 1 rfl
      have e2 : w7.cell? ⟨Bv, 2, none⟩ = some (.int .i64 x) := dV7.cell 2 rfl
      have e3 : w7.cell? ⟨Bv, 3, none⟩ = some (.int .i64 q) := dV7.cell 3 rfl
      have e4 : w7.cell? ⟨Bv, 4, none⟩ = some (.int .i64 F) := dV7.cell 4 rfl
      have e5 : w7.cell? ⟨Bv, 5, none⟩ = some (.int .i64 X) := dV7.cell 5 rfl
      have HST := Lib.hid hst
      clear hst
      by_cases hgm : m < gp
      · go_wp2_with fail
        refine (cf _ hbW7).mono ?_
        rintro e w8 ⟨is, his, rfl, hb8⟩
        have hd8 := At.below' hb8 hd7
        have dV8 := At.below' hb8 dV7
        have hK8 := hK7.trans (Keeps.of_below hb8)
        clear e0 e1 e2 e3 e4 e5 hd7 dV7 hK7 hb8
        cases is
        · have hnf : ¬ Fit i := fun h => by have := his.2 h; cases this
          have hst2 := HST.out.unfit hnf
          go_wp2_with fail
          go_roundw
          case rel => exact ⟨i + 1, m, no, l, h, f, b, by omega, by go_num, rfl, hst2, hd8, hK8⟩
          case measure => simp [intOf]; omega
        · have hft := his.1 rfl
          have e0 : w8.cell? ⟨Bv, 0, none⟩ = some (.int .i64 k) := dV8.cell 0 rfl
          have e1 : w8.cell? ⟨Bv, 1, none⟩ = some (.bool false) := dV8.cell 1 rfl
          have e2 : w8.cell? ⟨Bv, 2, none⟩ = some (.int .i64 x) := dV8.cell 2 rfl
          have e3 : w8.cell? ⟨Bv, 3, none⟩ = some (.int .i64 q) := dV8.cell 3 rfl
          have e4 : w8.cell? ⟨Bv, 4, none⟩ = some (.int .i64 F) := dV8.cell 4 rfl
          have e5 : w8.cell? ⟨Bv, 5, none⟩ = some (.int .i64 X) := dV8.cell 5 rfl
          have f0 : w8.cell? ⟨B5, 0, none⟩ = some (.int .i64 k) := hd8.cell 0 rfl
          have f1 : w8.cell? ⟨B5, 1, none⟩ = some (.bool no) := hd8.cell 1 rfl
          have f2 : w8.cell? ⟨B5, 2, none⟩ = some (.int .i64 l) := hd8.cell 2 rfl
          have f3 : w8.cell? ⟨B5, 3, none⟩ = some (.int .i64 h) := hd8.cell 3 rfl
          have f4 : w8.cell? ⟨B5, 4, none⟩ = some (.int .i64 f) := hd8.cell 4 rfl
          have f5 : w8.cell? ⟨B5, 5, none⟩ = some (.int .i64 b) := hd8.cell 5 rfl
          have fr : w8.frozen? ⟨B5, 0, none⟩ = false := At.free hd8 0
          have ts0 := At.set hd8 0 (.int .i64 k) (by simp)
          have tc1 : (w8.setCell ⟨B5, 0, none⟩ (.int .i64 k)).cell? ⟨B5, 1, none⟩ = some (.bool no) := ts0.cell 1 rfl
          have tf1 : (w8.setCell ⟨B5, 0, none⟩ (.int .i64 k)).frozen? ⟨B5, 1, none⟩ = false := At.free ts0 1
          have ts1 := At.set ts0 1 (.bool false) (by simp)
          have tc2 : ((w8.setCell ⟨B5, 0, none⟩ (.int .i64 k)).setCell ⟨B5, 1, none⟩ (.bool false)).cell? ⟨B5, 2, none⟩ = some (.int .i64 l) := ts1.cell 2 rfl
          have tf2 : ((w8.setCell ⟨B5, 0, none⟩ (.int .i64 k)).setCell ⟨B5, 1, none⟩ (.bool false)).frozen? ⟨B5, 2, none⟩ = false := At.free ts1 2
          have ts2 := At.set ts1 2 (.int .i64 x) (by simp)
          have tc3 : (((w8.setCell ⟨B5, 0, none⟩ (.int .i64 k)).setCell ⟨B5, 1, none⟩ (.bool false)).setCell ⟨B5, 2, none⟩ (.int .i64 x)).cell? ⟨B5, 3, none⟩ = some (.int .i64 h) := ts2.cell 3 rfl
          have tf3 : (((w8.setCell ⟨B5, 0, none⟩ (.int .i64 k)).setCell ⟨B5, 1, none⟩ (.bool false)).setCell ⟨B5, 2, none⟩ (.int .i64 x)).frozen? ⟨B5, 3, none⟩ = false := At.free ts2 3
          have ts3 := At.set ts2 3 (.int .i64 q) (by simp)
          have tc4 : ((((w8.setCell ⟨B5, 0, none⟩ (.int .i64 k)).setCell ⟨B5, 1, none⟩ (.bool false)).setCell ⟨B5, 2, none⟩ (.int .i64 x)).setCell ⟨B5, 3, none⟩ (.int .i64 q)).cell? ⟨B5, 4, none⟩ = some (.int .i64 f) := ts3.cell 4 rfl
          have tf4 : ((((w8.setCell ⟨B5, 0, none⟩ (.int .i64 k)).setCell ⟨B5, 1, none⟩ (.bool false)).setCell ⟨B5, 2, none⟩ (.int .i64 x)).setCell ⟨B5, 3, none⟩ (.int .i64 q)).frozen? ⟨B5, 4, none⟩ = false := At.free ts3 4
          have ts4 := At.set ts3 4 (.int .i64 F) (by simp)
          have tc5 : (((((w8.setCell ⟨B5, 0, none⟩ (.int .i64 k)).setCell ⟨B5, 1, none⟩ (.bool false)).setCell ⟨B5, 2, none⟩ (.int .i64 x)).setCell ⟨B5, 3, none⟩ (.int .i64 q)).setCell ⟨B5, 4, none⟩ (.int .i64 F)).cell? ⟨B5, 5, none⟩ = some (.int .i64 b) := ts4.cell 5 rfl
          have tf5 : (((((w8.setCell ⟨B5, 0, none⟩ (.int .i64 k)).setCell ⟨B5, 1, none⟩ (.bool false)).setCell ⟨B5, 2, none⟩ (.int .i64 x)).setCell ⟨B5, 3, none⟩ (.int .i64 q)).setCell ⟨B5, 4, none⟩ (.int .i64 F)).frozen? ⟨B5, 5, none⟩ = false := At.free ts4 5
          have ts5 := At.set ts4 5 (.int .i64 X) (by simp)
          have hK9 := ((((((hK8.setCell 0 (.int .i64 k)).setCell 1 (.bool false)).setCell 2 (.int .i64 x)).setCell 3 (.int .i64 q)).setCell 4 (.int .i64 F)).setCell 5 (.int .i64 X))
          clear f1 f2 f3 f4 f5 hd8 dV8 hK8 ts0 ts1 ts2 ts3 ts4 his
          have hst2 : TellSt L F X Fit (i + 1) gp false x q F X := by rw [← EL.out, ← EH.out]; exact TellSt.take hg0 hg1 hft
          go_wp2_with fail
          go_roundw
          case rel => exact ⟨i + 1, gp, false, x, q, F, X, by omega, by go_num, rfl, hst2, ts5, hK9⟩
          case measure => simp [intOf]; omega
      · have hgd : decide (m < gp) = false := by simpa using hgm
        have hst2 := HST.out.skip hg0 hgm
        go_wp2_with fail
        go_roundw
        case rel => exact ⟨i + 1, m, no, l, h, f, b, by omega, by go_num, rfl, hst2, hd7, hK7⟩
        case measure => simp [intOf]; omega
    · have hin : i = L.length := by have := HN.out; omega
      have hlt1 : decide ((i : Int) < (n : Int)) = false := by simp; omega
      rw [hin] at hst
      have htold := hst.told
      have hbW : Below w.heap.size w wr := hbF.trans (hkp2.below (by have := HB4.out; omega) hbF.size)
      have f0 : wr.cell? ⟨B5, 0, none⟩ = some (.int .i64 k) := hd.cell 0 rfl
      have f1 : wr.cell? ⟨B5, 1, none⟩ = some (.bool no) := hd.cell 1 rfl
      have f2 : wr.cell? ⟨B5, 2, none⟩ = some (.int .i64 l) := hd.cell 2 rfl
      have f3 : wr.cell? ⟨B5, 3, none⟩ = some (.int .i64 h) := hd.cell 3 rfl
      have f4 : wr.cell? ⟨B5, 4, none⟩ = some (.int .i64 f) := hd.cell 4 rfl
      have f5 : wr.cell? ⟨B5, 5, none⟩ = some (.int .i64 b) := hd.cell 5 rfl
      have d4r := At.keeps d4'' hkp2 (by omega)
      clear cF cN hst hkp2 hs hA hA5 hd d5 g ends d4'' hin
      go_upto_region 11 with (fail)
      go_cut [] from 88 to 88 (fun wx => At wx B4 #[.int .i64 k, .bool no, .int .i64 l, .int .i64 h, .int .i64 f, .int .i64 b] 30 ∧ Below w.heap.size w wx)
      case first =>
        have r0 : wr.cell? ⟨B4, 0, none⟩ = some (.int .i64 0) := d4r.cell 0 rfl
        have r1 : wr.cell? ⟨B4, 1, none⟩ = some (.bool false) := d4r.cell 1 rfl
        have r2 : wr.cell? ⟨B4, 2, none⟩ = some (.int .i64 0) := d4r.cell 2 rfl
        have r3 : wr.cell? ⟨B4, 3, none⟩ = some (.int .i64 0) := d4r.cell 3 rfl
        have r4 : wr.cell? ⟨B4, 4, none⟩ = some (.int .i64 0) := d4r.cell 4 rfl
        have r5 : wr.cell? ⟨B4, 5, none⟩ = some (.int .i64 0) := d4r.cell 5 rfl
        have fr : wr.frozen? ⟨B4, 0, none⟩ = false := At.free d4r 0
        have ts0 := At.set d4r 0 (.int .i64 k) (by simp)
        have tc1 : (wr.setCell ⟨B4, 0, none⟩ (.int .i64 k)).cell? ⟨B4, 1, none⟩ = some (.bool false) := ts0.cell 1 rfl
        have tf1 : (wr.setCell ⟨B4, 0, none⟩ (.int .i64 k)).frozen? ⟨B4, 1, none⟩ = false := At.free ts0 1
        have ts1 := At.set ts0 1 (.bool no) (by simp)
        have tc2 : ((wr.setCell ⟨B4, 0, none⟩ (.int .i64 k)).setCell ⟨B4, 1, none⟩ (.bool no)).cell? ⟨B4, 2, none⟩ = some (.int .i64 0) := ts1.cell 2 rfl
        have tf2 : ((wr.setCell ⟨B4, 0, none⟩ (.int .i64 k)).setCell ⟨B4, 1, none⟩ (.bool no)).frozen? ⟨B4, 2, none⟩ = false := At.free ts1 2
        have ts2 := At.set ts1 2 (.int .i64 l) (by simp)
        have tc3 : (((wr.setCell ⟨B4, 0, none⟩ (.int .i64 k)).setCell ⟨B4, 1, none⟩ (.bool no)).setCell ⟨B4, 2, none⟩ (.int .i64 l)).cell? ⟨B4, 3, none⟩ = some (.int .i64 0) := ts2.cell 3 rfl
        have tf3 : (((wr.setCell ⟨B4, 0, none⟩ (.int .i64 k)).setCell ⟨B4, 1, none⟩ (.bool no)).setCell ⟨B4, 2, none⟩ (.int .i64 l)).frozen? ⟨B4, 3, none⟩ = false := At.free ts2 3
        have ts3 := At.set ts2 3 (.int .i64 h) (by simp)
        have tc4 : ((((wr.setCell ⟨B4, 0, none⟩ (.int .i64 k)).setCell ⟨B4, 1, none⟩ (.bool no)).setCell ⟨B4, 2, none⟩ (.int .i64 l)).setCell ⟨B4, 3, none⟩ (.int .i64 h)).cell? ⟨B4, 4, none⟩ = some (.int .i64 0) := ts3.cell 4 rfl
        have tf4 : ((((wr.setCell ⟨B4, 0, none⟩ (.int .i64 k)).setCell ⟨B4, 1, none⟩ (.bool no)).setCell ⟨B4, 2, none⟩ (.int .i64 l)).setCell ⟨B4, 3, none⟩ (.int .i64 h)).frozen? ⟨B4, 4, none⟩ = false := At.free ts3 4
        have ts4 := At.set ts3 4 (.int .i64 f) (by simp)
        have tc5 : (((((wr.setCell ⟨B4, 0, none⟩ (.int .i64 k)).setCell ⟨B4, 1, none⟩ (.bool no)).setCell ⟨B4, 2, none⟩ (.int .i64 l)).setCell ⟨B4, 3, none⟩ (.int .i64 h)).setCell ⟨B4, 4, none⟩ (.int .i64 f)).cell? ⟨B4, 5, none⟩ = some (.int .i64 0) := ts4.cell 5 rfl
        have tf5 : (((((wr.setCell ⟨B4, 0, none⟩ (.int .i64 k)).setCell ⟨B4, 1, none⟩ (.bool no)).setCell ⟨B4, 2, none⟩ (.int .i64 l)).setCell ⟨B4, 3, none⟩ (.int .i64 h)).setCell ⟨B4, 4, none⟩ (.int .i64 f)).frozen? ⟨B4, 5, none⟩ = false := At.free ts4 5
        have ts5 := At.set ts4 5 (.int .i64 b) (by simp)
        have b0 := hbW.setCell (p := ⟨B4, 0, none⟩) (Nat.le_of_eq HB4.out.symm) (.int .i64 k)
        have b1 := b0.setCell (p := ⟨B4, 1, none⟩) (Nat.le_of_eq HB4.out.symm) (.bool no)
        have b2 := b1.setCell (p := ⟨B4, 2, none⟩) (Nat.le_of_eq HB4.out.symm) (.int .i64 l)
        have b3 := b2.setCell (p := ⟨B4, 3, none⟩) (Nat.le_of_eq HB4.out.symm) (.int .i64 h)
        have b4 := b3.setCell (p := ⟨B4, 4, none⟩) (Nat.le_of_eq HB4.out.symm) (.int .i64 f)
        have b5 := b4.setCell (p := ⟨B4, 5, none⟩) (Nat.le_of_eq HB4.out.symm) (.int .i64 b)
        clear r1 r2 r3 r4 r5 d4r b0 b1 b2 b3 b4 ts0 ts1 ts2 ts3 ts4
        go_wp2_with fail
        go_meet
        exact ⟨ts5, b5⟩
      case rest =>
      obtain ⟨dE, hbE⟩ := hcut
      have g0 : wc.cell? ⟨B4, 0, none⟩ = some (.int .i64 k) := dE.cell 0 rfl
      have g1 : wc.cell? ⟨B4, 1, none⟩ = some (.bool no) := dE.cell 1 rfl
      have g2 : wc.cell? ⟨B4, 2, none⟩ = some (.int .i64 l) := dE.cell 2 rfl
      have g3 : wc.cell? ⟨B4, 3, none⟩ = some (.int .i64 h) := dE.cell 3 rfl
      have g4 : wc.cell? ⟨B4, 4, none⟩ = some (.int .i64 f) := dE.cell 4 rfl
      have g5 : wc.cell? ⟨B4, 5, none⟩ = some (.int .i64 b) := dE.cell 5 rfl
      clear f0 f1 f2 f3 f4 f5
      go_wp2_with fail
      exact bodyPost_ret (v := valV k no l h f b) (by simp [results, Tryz.results132, go_sem, g0, g1, g2, g3, g4, g5]) rfl ⟨no, l, h, f, b, rfl, htold, hbE⟩
end Go.Proofs.YtblahbmhbfcggaaGreatDoor
