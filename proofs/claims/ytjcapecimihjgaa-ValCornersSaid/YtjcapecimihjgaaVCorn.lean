/- ValCorners: its walk. -/
import Derived.Test.YtjcapecimihjgaaVLeads
import Derived.Deep.CutRange
namespace Go.Proofs.Ytjcapecimihjgaa
open Go.ChangeShapes Go.WideShapes Go.ChangeAt Go.RowKit Go.Joins Go.Deep
set_option linter.unusedVariables false

theorem corner_ok {lo hi fr bt : Nat} (h1 : lo < 256) (h2 : hi < 256) (h3 : fr < 256) (h4 : bt < 256) (hbf : ∀ i, fr.testBit i = true → bt.testBit i = false) : ValOk 8 false lo hi fr bt :=
  ⟨⟨Or.inl rfl, h3, h4, hbf⟩, h1, h2⟩
theorem corner_mid {t lo hi : Nat} (ht : t < 8) (hlo : lo < 256) (hhi : hi < 256) : ∃ P fr : Nat, wrap64 (2 ^ t) = (P : Nat) ∧ P ≤ 128 ∧ bits .andNot .i64 255 (P : Nat) = (fr : Nat) ∧ ValOk 8 false lo hi fr P ∧ ValOk 8 false lo hi fr 0 := by
  have hP1 : 2 ^ t ≤ 128 := Nat.pow_le_pow_right (by decide) (by omega : t ≤ 7)
  have hbf : ∀ i, (nandn 255 (2 ^ t)).testBit i = true → (2 ^ t).testBit i = false := fun i h => by
    rw [nandn_bit, Bool.and_eq_true] at h
    cases hh : (2 ^ t).testBit i
    · rfl
    · rw [hh] at h; simp at h
  have e1 := one_shl t (by omega)
  obtain ⟨P, hP⟩ : ∃ P : Nat, P = 2 ^ t := ⟨_, rfl⟩
  rw [← hP] at hP1 hbf e1
  refine ⟨P, nandn 255 P, ?_, hP1, bits_andNot (x := 255) (y := P) (by decide), corner_ok hlo hhi (nandn_lt (k := 8) (by decide)) (by omega) hbf, corner_ok hlo hhi (nandn_lt (k := 8) (by decide)) (by omega) (fun i _ => by simp)⟩
  have e2 : wrap64 (2 ^ t) = wrap64 ((2 : Int) ^ t) := rfl
  rw [e2]
  exact e1
theorem vals_short {P : Program} {t e : TypeId} (ht : P.underlying t = some (.slice e)) {H : Type} {enc : TypeId × Value → H} {W : World} {p : Option Addr} {len cap : Nat} {y : DataW H × List MemPlace} {m : Nat} (h : DataW.trod enc P W 0 (fun _ => true) true m t [.slice p len cap] = some y) : len ≤ maxLen := by
  rcases open_slice ht h with ⟨hcs, _⟩ | ⟨ad, len', cap', m, n, D, Pl, hcs, _, hl, hm, _⟩
  · simp at hcs
    obtain ⟨_, rfl, _⟩ := hcs
    exact Nat.zero_le _
  · simp at hcs
    obtain ⟨_, rfl, rfl⟩ := hcs
    omega

def RelK (w2 : World) (v : Value) (wr : World) : Prop := ∃ j : Nat, j ≤ 60 ∧ v = .int .i64 j ∧ Below w2.heap.size w2 wr
set_option maxRecDepth 100000 in
set_option maxHeartbeats 6400000 in
theorem corners_loop (pv : Option Addr) (lv cv : Nat) (pn : Option Addr) (ln cn : Nat) (w : World) (hlv : lv ≤ 281474976710656) :
    Calls Try.prog 6 #[.agg #[.slice pv lv cv, .slice pn ln cn]] w fun e w' => e = .returned (.bool true) ∧ Below w.heap.size w w' := by
  have d2 := At.new w #[.slice pv lv cv, .slice pn ln cn] 25
  have hb2 : Below w.heap.size w (w.alloc (.cells #[.slice pv lv cv, .slice pn ln cn] 25)) := (Below.refl _ _).alloc (Nat.le_refl _) _
  have cW := fun w => wakes_any w
  go_enter Try.func6, Try.ntmps6
  go_wp2_with fail
  generalize w.alloc (.cells #[.slice pv lv cv, .slice pn ln cn] 25) = w2 at *
  go_loopw [3] (fun v wr => RelK w2 v wr) (fun v _ => 60 - (intOf v).toNat)
  case atStart => exact ⟨0, by omega, rfl, Below.refl _ _⟩
  case round =>
    obtain ⟨j, hj, rfl, hbr⟩ := hrel
    have c0r : wr.cell? ⟨w.heap.size, 0, none⟩ = some (.slice pv lv cv) := (d2.below hbr d2.lt).cell 0 rfl
    by_cases hj60 : j < 60
    · have hj1 : (j : Int) < 60 := by omega
      obtain ⟨lo, elo⟩ : ∃ lo : Nat, lo = (j * 37 + lv * 11) % 256 := ⟨_, rfl⟩
      have hlo : lo < 256 := by omega
      have el : ((j : Int) * 37 + (lv : Int) * 11) % 256 = (lo : Int) := by omega
      obtain ⟨hi, ehi⟩ : ∃ hi : Nat, hi = (lo + j) % 256 := ⟨_, rfl⟩
      have hhi : hi < 256 := by omega
      have eh : ((lo : Int) + (j : Int)) % 256 = (hi : Int) := by omega
      obtain ⟨t, et⟩ : ∃ t : Nat, t = j % 8 := ⟨_, rfl⟩
      have ht : t < 8 := by omega
      have e8 : (j : Int) % 8 = (t : Int) := by omega
      have hj3 : j % 3 = 0 ∨ j % 3 = 1 ∨ j % 3 = 2 := by omega
      obtain ⟨P, fr0, ep, hP, ea, okP, ok0⟩ := corner_mid ht hlo hhi
      clear elo ehi et
      have dA := At.new wr #[.int .i64 8, .bool false, .int .i64 lo, .int .i64 hi, .int .i64 255, .int .i64 0] 28
      have hbA : Below w2.heap.size w2 (wr.alloc (.cells #[.int .i64 8, .bool false, .int .i64 lo, .int .i64 hi, .int .i64 255, .int .i64 0] 28)) := hbr.alloc hbr.size _
      go_upto_if 38 with (fail)
      go_cut [] from 39 to 50 (fun wx => ∃ fr bt : Nat, ValOk 8 false lo hi fr bt ∧ At wx wr.heap.size #[.int .i64 8, .bool false, .int .i64 lo, .int .i64 hi, .int .i64 fr, .int .i64 bt] 28 ∧ Below w2.heap.size w2 wx)
      case first =>
        rcases hj3 with h3 | h3 | h3
        · have e3 : (j : Int) % 3 = 0 := by omega
          go_wp2_with fail
          go_meet
          exact ⟨255, 0, corner_ok hlo hhi (by decide) (by decide) (fun i _ => by simp), dA, hbA⟩
        · have e3 : (j : Int) % 3 = 1 := by omega
          go_wp2_with fail
          go_meet
          exact ⟨fr0, P, okP, At.new wr _ _, hbr.alloc hbr.size _⟩
        · have e3 : (j : Int) % 3 = 2 := by omega
          go_wp2_with fail
          go_meet
          exact ⟨fr0, 0, ok0, At.new wr _ _, hbr.alloc hbr.size _⟩
      case rest =>
        obtain ⟨fr, bt, ok, dV, hbB⟩ := hcut
        clear el eh e8 hj3 ep hP ea okP ok0 dA hbA
        have hm : mayB (8 : Nat) false lo hi fr bt = true := ok_may ok (fun h => by cases h)
        obtain ⟨Bv, hBv⟩ : ∃ Bv, Bv = wr.heap.size := ⟨_, rfl⟩
        rw [← hBv] at dV ⊢
        have hBvh := Lib.hid hBv
        clear hBv
        go_wp2_with fail
        generalize wc = wB at *
        obtain ⟨p, hp⟩ : ∃ p, p = mB false lo hi fr bt := ⟨_, rfl⟩
        have HP := Lib.hid hp
        clear hp
        go_loopw [6, 7] (fun va vn wr => RelC p wB va vn wr) (fun _ vn _ => 256 - (intOf vn).toNat)
        case atStart => exact ⟨0, by omega, rfl, rfl, Below.refl _ _⟩
        case round =>
          obtain ⟨n, hn, rfl, rfl, hbq⟩ := hrel
          have hcn := cntB_le p n
          replace dV := dV.below hbq dV.lt
          by_cases hlt : n < 256
          · have hlt1 : (n : Int) < 256 := by omega
            have q0 : wr.cell? ⟨Bv, 0, none⟩ = some (.int .i64 8) := dV.cell 0 rfl
            have q1 : wr.cell? ⟨Bv, 1, none⟩ = some (.bool false) := dV.cell 1 rfl
            have q2 : wr.cell? ⟨Bv, 2, none⟩ = some (.int .i64 lo) := dV.cell 2 rfl
            have q3 : wr.cell? ⟨Bv, 3, none⟩ = some (.int .i64 hi) := dV.cell 3 rfl
            have q4 : wr.cell? ⟨Bv, 4, none⟩ = some (.int .i64 fr) := dV.cell 4 rfl
            have q5 : wr.cell? ⟨Bv, 5, none⟩ = some (.int .i64 bt) := dV.cell 5 rfl
            have cH := fun w => Has_yes 8 false lo hi fr bt n ok hm (by omega) w
            have cN := fun w => next_res 8 false lo hi fr bt n ok hm (by omega) w
            have cR := fun w => rNext_v 8 false lo hi fr bt n ok (by omega) w
            have cQ := fun w => rHas_v 8 false lo hi fr bt n ok (by omega) w
            go_wp2_with ((go_at_call 14; refine (num_any _ _).mono ?_; rintro e w' ⟨rfl, rfl⟩))
            refine (cH _).mono ?_
            rintro e wH ⟨is, his, rfl, hbc⟩
            replace hbq := hbq.trans (hbc.mono hbq.size)
            replace dV := At.below' hbc dV
            clear hbc
            have q0 : wH.cell? ⟨Bv, 0, none⟩ = some (.int .i64 8) := dV.cell 0 rfl
            have q1 : wH.cell? ⟨Bv, 1, none⟩ = some (.bool false) := dV.cell 1 rfl
            have q2 : wH.cell? ⟨Bv, 2, none⟩ = some (.int .i64 lo) := dV.cell 2 rfl
            have q3 : wH.cell? ⟨Bv, 3, none⟩ = some (.int .i64 hi) := dV.cell 3 rfl
            have q4 : wH.cell? ⟨Bv, 4, none⟩ = some (.int .i64 fr) := dV.cell 4 rfl
            have q5 : wH.cell? ⟨Bv, 5, none⟩ = some (.int .i64 bt) := dV.cell 5 rfl
            go_wp2_with ((go_at_call 14; refine (num_any _ _).mono ?_; rintro e w' ⟨rfl, rfl⟩))
            refine (cN _).mono ?_
            rintro e wN ⟨x, ev, hx, rfl, hbc⟩
            replace hbq := hbq.trans (hbc.mono hbq.size)
            replace dV := At.below' hbc dV
            clear hbc
            have q0 : wN.cell? ⟨Bv, 0, none⟩ = some (.int .i64 8) := dV.cell 0 rfl
            have q1 : wN.cell? ⟨Bv, 1, none⟩ = some (.bool false) := dV.cell 1 rfl
            have q2 : wN.cell? ⟨Bv, 2, none⟩ = some (.int .i64 lo) := dV.cell 2 rfl
            have q3 : wN.cell? ⟨Bv, 3, none⟩ = some (.int .i64 hi) := dV.cell 3 rfl
            have q4 : wN.cell? ⟨Bv, 4, none⟩ = some (.int .i64 fr) := dV.cell 4 rfl
            have q5 : wN.cell? ⟨Bv, 5, none⟩ = some (.int .i64 bt) := dV.cell 5 rfl
            go_wp2_with ((go_at_call 14; refine (num_any _ _).mono ?_; rintro e w' ⟨rfl, rfl⟩))
            refine (cR _).mono ?_
            rintro e wR ⟨r, hr, rfl, hbc⟩
            replace hbq := hbq.trans (hbc.mono hbq.size)
            replace dV := At.below' hbc dV
            clear hbc
            have q0 : wR.cell? ⟨Bv, 0, none⟩ = some (.int .i64 8) := dV.cell 0 rfl
            have q1 : wR.cell? ⟨Bv, 1, none⟩ = some (.bool false) := dV.cell 1 rfl
            have q2 : wR.cell? ⟨Bv, 2, none⟩ = some (.int .i64 lo) := dV.cell 2 rfl
            have q3 : wR.cell? ⟨Bv, 3, none⟩ = some (.int .i64 hi) := dV.cell 3 rfl
            have q4 : wR.cell? ⟨Bv, 4, none⟩ = some (.int .i64 fr) := dV.cell 4 rfl
            have q5 : wR.cell? ⟨Bv, 5, none⟩ = some (.int .i64 bt) := dV.cell 5 rfl
            go_wp2_with ((go_at_call 14; refine (num_any _ _).mono ?_; rintro e w' ⟨rfl, rfl⟩))
            refine (cQ _).mono ?_
            rintro e wQ ⟨isq, hisq, rfl, hbc⟩
            replace hbq := hbq.trans (hbc.mono hbq.size)
            replace dV := At.below' hbc dV
            clear hbc
            have q0 : wQ.cell? ⟨Bv, 0, none⟩ = some (.int .i64 8) := dV.cell 0 rfl
            have q1 : wQ.cell? ⟨Bv, 1, none⟩ = some (.bool false) := dV.cell 1 rfl
            have q2 : wQ.cell? ⟨Bv, 2, none⟩ = some (.int .i64 lo) := dV.cell 2 rfl
            have q3 : wQ.cell? ⟨Bv, 3, none⟩ = some (.int .i64 hi) := dV.cell 3 rfl
            have q4 : wQ.cell? ⟨Bv, 4, none⟩ = some (.int .i64 fr) := dV.cell 4 rfl
            have q5 : wQ.cell? ⟨Bv, 5, none⟩ = some (.int .i64 bt) := dV.cell 5 rfl
            obtain rfl : is = isq := Bool.eq_iff_iff.2 (his.trans hisq.symm)
            clear cH cN cR cQ hisq
            have hmb := mB_iff (z := n) ok (by omega)
            rw [← HP.out] at hmb
            obtain rfl : is = p n := Bool.eq_iff_iff.2 (his.trans hmb.symm)
            clear his hmb
            have hc1 := cntB_succ p n
            have hne : (p n != p n) = false := by simp
            cases hpn : p n
            · rw [hpn] at hc1
              have HC := Lib.hid hc1
              clear hc1 hne
              rcases next_same hx hr with ⟨rfl, rfl, rfl⟩ | ⟨mm, rfl, rfl, rfl⟩
              all_goals
                clear hx hr dV
                go_wp2_with ((go_at_call 14; refine (num_any _ _).mono ?_; rintro e w' ⟨rfl, rfl⟩))
                go_roundw
                case rel => exact ⟨n + 1, by omega, by go_num, by rw [HC.out]; simp, hbq⟩
                case measure => simp [intOf]; omega
            · rw [hpn] at hc1
              have HC := Lib.hid hc1
              clear hc1 hne
              rcases next_same hx hr with ⟨rfl, rfl, rfl⟩ | ⟨mm, rfl, rfl, rfl⟩
              all_goals
                clear hx hr dV
                go_wp2_with ((go_at_call 14; refine (num_any _ _).mono ?_; rintro e w' ⟨rfl, rfl⟩))
                go_roundw
                case rel => exact ⟨n + 1, by omega, by go_num, by rw [HC.out]; simp, hbq⟩
                case measure => simp [intOf]; omega
          · obtain rfl : n = 256 := by omega
            have q0 : wr.cell? ⟨Bv, 0, none⟩ = some (.int .i64 8) := dV.cell 0 rfl
            have q1 : wr.cell? ⟨Bv, 1, none⟩ = some (.bool false) := dV.cell 1 rfl
            have q2 : wr.cell? ⟨Bv, 2, none⟩ = some (.int .i64 lo) := dV.cell 2 rfl
            have q3 : wr.cell? ⟨Bv, 3, none⟩ = some (.int .i64 hi) := dV.cell 3 rfl
            have q4 : wr.cell? ⟨Bv, 4, none⟩ = some (.int .i64 fr) := dV.cell 4 rfl
            have q5 : wr.cell? ⟨Bv, 5, none⟩ = some (.int .i64 bt) := dV.cell 5 rfl
            have cE := fun w => Empty_ok 8 false lo hi fr bt ok hm w
            have cS := fun w => single_res 8 false lo hi fr bt ok hm w
            go_wp2_with ((go_at_call 14; refine (num_any _ _).mono ?_; rintro e w' ⟨rfl, rfl⟩))
            refine (cE _).mono ?_
            rintro e wE ⟨ise, hise, rfl, hbc⟩
            replace hbq := hbq.trans (hbc.mono hbq.size)
            replace dV := At.below' hbc dV
            clear hbc
            have q0 : wE.cell? ⟨Bv, 0, none⟩ = some (.int .i64 8) := dV.cell 0 rfl
            have q1 : wE.cell? ⟨Bv, 1, none⟩ = some (.bool false) := dV.cell 1 rfl
            have q2 : wE.cell? ⟨Bv, 2, none⟩ = some (.int .i64 lo) := dV.cell 2 rfl
            have q3 : wE.cell? ⟨Bv, 3, none⟩ = some (.int .i64 hi) := dV.cell 3 rfl
            have q4 : wE.cell? ⟨Bv, 4, none⟩ = some (.int .i64 fr) := dV.cell 4 rfl
            have q5 : wE.cell? ⟨Bv, 5, none⟩ = some (.int .i64 bt) := dV.cell 5 rfl
            go_wp2_with ((go_at_call 14; refine (num_any _ _).mono ?_; rintro e w' ⟨rfl, rfl⟩))
            refine (cS _).mono ?_
            rintro e wS ⟨iss, ns, hss, rfl, hbc⟩
            replace hbq := hbq.trans (hbc.mono hbq.size)
            replace dV := At.below' hbc dV
            clear hbc
            have q0 : wS.cell? ⟨Bv, 0, none⟩ = some (.int .i64 8) := dV.cell 0 rfl
            have q1 : wS.cell? ⟨Bv, 1, none⟩ = some (.bool false) := dV.cell 1 rfl
            have q2 : wS.cell? ⟨Bv, 2, none⟩ = some (.int .i64 lo) := dV.cell 2 rfl
            have q3 : wS.cell? ⟨Bv, 3, none⟩ = some (.int .i64 hi) := dV.cell 3 rfl
            have q4 : wS.cell? ⟨Bv, 4, none⟩ = some (.int .i64 fr) := dV.cell 4 rfl
            have q5 : wS.cell? ⟨Bv, 5, none⟩ = some (.int .i64 bt) := dV.cell 5 rfl
            obtain rfl := cnt_none ok hise
            obtain rfl := cnt_only ok hss
            rw [← HP.out]
            clear hise hss cE cS dV
            have e256 : (2 : Nat) ^ 8 = 256 := by decide
            simp only [e256]
            generalize cntB p 256 = A at *
            by_cases hA0 : A = 0
            · subst hA0
              go_wp2_with ((go_at_call 14; refine (num_any _ _).mono ?_; rintro e w' ⟨rfl, rfl⟩))
              go_roundw
              case rel => exact ⟨j + 1, by omega, by go_num, hbB.trans (hbq.mono hbB.size)⟩
              case measure => simp [intOf]; omega
            · by_cases hA1 : A = 1
              · subst hA1
                go_wp2_with ((go_at_call 14; refine (num_any _ _).mono ?_; rintro e w' ⟨rfl, rfl⟩))
                go_roundw
                case rel => exact ⟨j + 1, by omega, by go_num, hbB.trans (hbq.mono hbB.size)⟩
                case measure => simp [intOf]; omega
              · have u0 : decide (A = 0) = false := by simpa using hA0
                have u1 : decide (A = 1) = false := by simpa using hA1
                have u2 : ((A : Int) == 0) = false := by simp; omega
                have u3 : ((A : Int) == 1) = false := by simp; omega
                rw [u0, u1]
                go_wp2_with ((go_at_call 14; refine (num_any _ _).mono ?_; rintro e w' ⟨rfl, rfl⟩))
                go_roundw
                case rel => exact ⟨j + 1, by omega, by go_num, hbB.trans (hbq.mono hbB.size)⟩
                case measure => simp [intOf]; omega
    · have hbO : Below w.heap.size w wr := hb2.trans (hbr.mono hb2.size)
      go_wp2_with fail
      refine (cW _).mono ?_
      rintro e wZ ⟨rfl, hbZ⟩
      go_wp2_with fail
      go_ret
      exact ⟨rfl, hbO.trans (hbZ.mono hbO.size)⟩
end Go.Proofs.Ytjcapecimihjgaa
