/- The document's own: whether memory may be. -/
import Derived.Test.YtnhbaigagphpmaaKCopyB
import Derived.Test.YtnhbaigagphpmaaKDat
namespace Go.Proofs.Ytnhbaigagphpmaa
open Go.ChangeShapes Go.WideShapes Go.ChangeAt Go.RowKit Go.Joins Go.Deep
set_option linter.unusedVariables false

theorem mayM_no {m : List BK} {j : Nat} (hj : j < m.length) (h : mayK (m.getD j default) = false) : mayM m = false := by
  rw [Bool.eq_false_iff]
  intro hm
  rw [mayM_at hm j hj] at h
  cases h
def RelMm (m : List BK) (len : Nat) (w0 : World) (v : Value) (wr : World) : Prop := ∃ j : Nat, j ≤ len ∧ v = .int .i64 (j : Nat) ∧ Below w0.heap.size w0 wr ∧ ∀ i, i < j → mayK (m.getD i default) = true
set_option maxRecDepth 100000 in
set_option maxHeartbeats 3200000 in
theorem rMem_any (q : Option Addr) (len cap : Nat) (m : List BK) (w : World) (hx : IsMem w q len m) :
    Calls Try.prog 20 #[.slice q len cap] w fun e w' => e = .returned (.bool (mayM m)) ∧ Below w.heap.size w w' := by
  obtain ⟨hl, hlen, hc⟩ := hx
  have cB := fun w => Between_any (len : Int) 1 33 w
  have cN := fun n w => Num_any n 3 w
  have cY := fun q l c ys w h => rBytes_any q l c ys w h
  by_cases hb : 1 ≤ len ∧ len ≤ 33
  · have tb : upTo (len : Int) 1 33 = true := by simp [upTo]; omega
    rw [tb] at cB
    obtain ⟨b, off, rfl, hbb, hcells⟩ := hc (by omega)
    have hc0 := hcells 0 (by omega)
    have hlen0 : (0 : Int) < (len : Int) := by omega
    have hl0 : 0 < len := by omega
    obtain ⟨z0, _⟩ := hc0
    simp only [Nat.zero_mul, Nat.add_zero] at z0
    have hZ : (m.getD 0 default).st = 0 ∨ (m.getD 0 default).st ≠ 0 := by omega
    rcases hZ with hZ | hZ
    · rw [hZ] at z0
      have HLEN := Lib.hid hlen
      have HB := Lib.hid hb
      have HZ := Lib.hid hZ
      have hok := fun h => mayM_of (m := m) (by rw [HLEN.out]; exact HB.out) HZ.out h
      have hno := fun j hj h => mayM_no (m := m) (j := j) hj h
      have HOK := Lib.hid hok
      have HNO := Lib.hid hno
      clear hlen hZ tb hb hok hno hc
      generalize mayM m = r at *
      go_enter Try.func20, Try.ntmps20
      go_wp2_with ((go_at_call 36; (with_reducible refine (cB _).mono ?_); rintro e w' ⟨rfl, rfl⟩))
      go_loopw [3] (fun v wr => RelMm m len w v wr) (fun v _ => len - (intOf v).toNat)
      case atStart => exact ⟨0, by omega, rfl, Below.refl _ _, fun i hi => absurd hi (Nat.not_lt_zero _)⟩
      case round =>
        obtain ⟨j, hj, rfl, hbr, hall⟩ := hrel
        by_cases hlt : j < len
        · have h1 := (hcells j hlt).below hbr
          have HALL := Lib.hid hall
          have hnj := HNO.out j (by rw [HLEN.out]; exact hlt)
          have hj3 : (j : Int) < (len : Int) := by omega
          generalize hX : m.getD j default = x at *
          have HX := Lib.hid hX
          obtain ⟨s, xq, xc, ys⟩ := x
          obtain ⟨c0, c1, hi1, _⟩ := h1
          dsimp only at c0 c1 hi1
          have cYj := cY xq ys.length xc ys wr hi1
          have HNJ := Lib.hid hnj
          have hyl := hi1.1
          have hstep : ∀ (hm : mayK ⟨s, xq, xc, ys⟩ = true) (i : Nat), i < j + 1 → mayK (m.getD i default) = true := fun hm i hi => by
            by_cases e : i = j
            · subst e; rw [HX.out]; exact hm
            · exact HALL.out i (by omega)
          have HST := Lib.hid hstep
          have hyn : ys.length = 0 → maysY ys = true := fun h => by rw [List.length_eq_zero_iff.1 h]; rfl
          have HYN := Lib.hid hyn
          clear hcells hall hnj hX hi1 hstep hyn
          by_cases h03 : 0 ≤ s ∧ s ≤ 3
          · have tn : upTo s 0 3 = true := by simp [upTo]; omega
            have cNs := fun w => cN s w
            rw [tn] at cNs
            clear tn
            by_cases h32 : ys.length ≤ 32
            · have t32 : decide ((32 : Int) < (ys.length : Int)) = false := by simp; omega
              by_cases hs1 : s = 1
              · subst hs1
                have hmk := mayK_1 xq xc ys
                cases hm : maysY ys
                · rw [hm] at cYj hmk
                  have hr : r = false := HNJ.out (by rw [hmk]; simp)
                  have HR := Lib.hid hr
                  clear hm hmk hr h03
                  generalize ys.length = L at *
                  go_wp2_with (first | (go_at_call 42; (with_reducible refine (cNs _).mono ?_); rintro e w' ⟨rfl, rfl⟩) | (go_at_call 13; (with_reducible refine cYj.mono ?_); rintro e w2 ⟨rfl, hb2⟩))
                  go_ret
                  exact ⟨ret_b HR.out.symm, hbr.trans (hb2.mono hbr.size)⟩
                · rw [hm] at cYj hmk
                  have hmk2 : mayK ⟨1, xq, xc, ys⟩ = true := by rw [hmk]; simp [h32]
                  have HMK := Lib.hid hmk2
                  clear hm hmk hmk2 h03
                  generalize hLY : ys.length = L at *
                  clear hLY
                  go_wp2_with (first | (go_at_call 42; (with_reducible refine (cNs _).mono ?_); rintro e w' ⟨rfl, rfl⟩) | (go_at_call 13; (with_reducible refine cYj.mono ?_); rintro e w2 ⟨rfl, hb2⟩))
                  go_roundw
                  case rel => exact ⟨j + 1, by omega, by go_num, hbr.trans (hb2.mono hbr.size), HST.out HMK.out⟩
                  case measure => simp [intOf]; omega
              · have ts1 : (s != 1) = true := by simpa using hs1
                have ts2 : (s == 1) = false := by simpa using hs1
                have hmk : mayK ⟨s, xq, xc, ys⟩ = decide (ys.length = 0) := by
                  have : s = 0 ∨ s = 2 ∨ s = 3 := by omega
                  rcases this with rfl | rfl | rfl <;> rfl
                by_cases h0 : ys.length = 0
                · have hmk2 : mayK ⟨s, xq, xc, ys⟩ = true := by rw [hmk]; simp [h0]
                  have HMK := Lib.hid hmk2
                  have hmY := HYN.out h0
                  rw [hmY, h0] at cYj
                  rw [h0] at c1 t32
                  clear hmk hmk2 hmY h0 hs1 h03 h32 hyl
                  go_wp2_with (first | (go_at_call 42; (with_reducible refine (cNs _).mono ?_); rintro e w' ⟨rfl, rfl⟩) | (go_at_call 13; (with_reducible refine cYj.mono ?_); rintro e w2 ⟨rfl, hb2⟩))
                  go_roundw
                  case rel => exact ⟨j + 1, by omega, by go_num, hbr.trans (hb2.mono hbr.size), HST.out HMK.out⟩
                  case measure => simp [intOf]; omega
                · have hr : r = false := HNJ.out (by rw [hmk]; simp [h0])
                  have HR := Lib.hid hr
                  have t0 : (0 : Int) < (ys.length : Int) := by omega
                  have t00 : 0 < ys.length := by omega
                  clear hmk hr hs1 h0 h03 cYj
                  generalize ys.length = L at *
                  go_wp2_with (first | (go_at_call 42; (with_reducible refine (cNs _).mono ?_); rintro e w' ⟨rfl, rfl⟩))
                  go_ret
                  exact ⟨ret_b HR.out.symm, hbr⟩
            · have t32 : (32 : Int) < (ys.length : Int) := by omega
              have hr : r = false := HNJ.out (by
                cases hq : mayK ⟨s, xq, xc, ys⟩
                · rfl
                · exact absurd (mayK_len hq).1 h32)
              have HR := Lib.hid hr
              clear hr h32 cYj h03
              generalize ys.length = L at *
              go_wp2_with (first | (go_at_call 42; (with_reducible refine (cNs _).mono ?_); rintro e w' ⟨rfl, rfl⟩))
              go_ret
              exact ⟨ret_b HR.out.symm, hbr⟩
          · have tn : upTo s 0 3 = false := by
              rw [Bool.eq_false_iff]; intro h; simp [upTo] at h; exact h03 h
            have cNs := fun w => cN s w
            rw [tn] at cNs
            have hr : r = false := HNJ.out (mayK_no ⟨by omega, by omega, by omega, by omega⟩)
            have HR := Lib.hid hr
            clear tn hr cYj h03
            generalize ys.length = L at *
            go_wp2_with (first | (go_at_call 42; (with_reducible refine (cNs _).mono ?_); rintro e w' ⟨rfl, rfl⟩))
            go_ret
            exact ⟨ret_b HR.out.symm, hbr⟩
        · obtain rfl : j = len := by omega
          have hr : r = true := HOK.out (fun i hi => hall i (by rw [← HLEN.out]; exact hi))
          have HR := Lib.hid hr
          have tj : decide ((j : Int) < (j : Int)) = false := by simp
          clear hall hr hcells
          go_wp2
          go_ret
          exact ⟨ret_b HR.out.symm, hbr⟩
    · have hr : mayM m = false := by
        rw [Bool.eq_false_iff]
        intro hm
        exact hZ (mayM_head hm)
      rw [hr]
      have tz : ((m.getD 0 default).st != 0) = true := by simpa using hZ
      generalize (m.getD 0 default).st = s at *
      clear hr hZ hcells hlen tb
      go_enter Try.func20, Try.ntmps20
      go_wp2_with ((go_at_call 36; (with_reducible refine (cB _).mono ?_); rintro e w' ⟨rfl, rfl⟩))
      go_ret
      exact ⟨rfl, Below.refl _ _⟩
  · have tb : upTo (len : Int) 1 33 = false := by
      rw [Bool.eq_false_iff]; intro h; simp [upTo] at h; omega
    rw [tb] at cB
    have hr : mayM m = false := by
      rw [Bool.eq_false_iff]
      intro hm
      have := mayM_len hm
      rw [hlen] at this
      exact hb this
    rw [hr]
    clear hr tb hb hc hlen
    go_enter Try.func20, Try.ntmps20
    go_wp2_with ((go_at_call 36; (with_reducible refine (cB _).mono ?_); rintro e w' ⟨rfl, rfl⟩))
    go_ret
    exact ⟨rfl, Below.refl _ _⟩
end Go.Proofs.Ytnhbaigagphpmaa
