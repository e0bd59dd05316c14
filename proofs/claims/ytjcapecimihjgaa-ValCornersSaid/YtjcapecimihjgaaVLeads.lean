/- ValLeads: its walk. -/
import Derived.Test.YtjcapecimihjgaaVTells
namespace Go.Proofs.Ytjcapecimihjgaa
open Go.ChangeShapes Go.WideShapes Go.ChangeAt Go.RowKit Go.Joins Go.Deep
set_option linter.unusedVariables false

/-- how many below n -/
def cntB (p : Nat → Bool) : Nat → Nat
  | 0 => 0
  | n + 1 => cntB p n + if p n = true then 1 else 0
theorem cntB_succ (p : Nat → Bool) (n : Nat) : cntB p (n + 1) = cntB p n + if p n = true then 1 else 0 := rfl
theorem cntB_le (p : Nat → Bool) (n : Nat) : cntB p n ≤ n := by
  induction n with
  | zero => exact Nat.le_refl _
  | succ n ih =>
    unfold cntB
    split <;> omega
theorem cntB_zero (p : Nat → Bool) (n : Nat) : cntB p n = 0 ↔ ∀ z, z < n → p z = false := by
  induction n with
  | zero => exact ⟨fun _ z h => absurd h (by omega), fun _ => rfl⟩
  | succ n ih =>
    unfold cntB
    cases hp : p n
    · simp only [Bool.false_eq_true, if_false, Nat.add_zero, ih]
      constructor
      · intro h z hz
        rcases Nat.lt_or_ge z n with h1 | h1
        · exact h z h1
        · obtain rfl : z = n := by omega
          exact hp
      · exact fun h z hz => h z (by omega)
    · simp only [if_true]
      constructor
      · intro h; omega
      · intro h
        have := h n (by omega)
        rw [hp] at this; cases this
theorem cntB_one (p : Nat → Bool) (n : Nat) : cntB p n = 1 ↔ ∃ m, m < n ∧ ∀ z, z < n → (p z = true ↔ z = m) := by
  induction n with
  | zero => exact ⟨(fun h => by cases h), fun ⟨m, h, _⟩ => absurd h (by omega)⟩
  | succ n ih =>
    unfold cntB
    cases hp : p n
    · simp only [Bool.false_eq_true, if_false, Nat.add_zero, ih]
      constructor
      · rintro ⟨m, hm, h⟩
        refine ⟨m, by omega, fun z hz => ?_⟩
        rcases Nat.lt_or_ge z n with h1 | h1
        · exact h z h1
        · obtain rfl : z = n := by omega
          rw [hp]
          exact ⟨(fun h => by cases h), fun h => by omega⟩
      · rintro ⟨m, hm, h⟩
        have hne : m ≠ n := fun e => by
          have := (h n (by omega)).2 e.symm
          rw [hp] at this; cases this
        exact ⟨m, by omega, fun z hz => h z (by omega)⟩
    · simp only [if_true]
      constructor
      · intro h
        have h0 := (cntB_zero p n).1 (by omega)
        refine ⟨n, by omega, fun z hz => ?_⟩
        rcases Nat.lt_or_ge z n with h1 | h1
        · rw [h0 z h1]
          exact ⟨(fun h => by cases h), fun h => by omega⟩
        · obtain rfl : z = n := by omega
          simp [hp]
      · rintro ⟨m, hm, h⟩
        have e := (h n (by omega)).1 hp
        have h0 := (cntB_zero p n).2 (fun z hz => by
          cases hz2 : p z
          · rfl
          · have := (h z (by omega)).1 hz2
            omega)
        omega
/-- whether a set has a number -/
def mB (no : Bool) (l h f b z : Nat) : Bool := !no && memB l h f b z
theorem mB_iff {k : Nat} {no : Bool} {l h f b z : Nat} (ok : ValOk k no l h f b) (hz : z < 2 ^ k) : mB no l h f b z = true ↔ MemV k no l h f b z := by
  unfold mB MemV
  cases no
  · simp [memB_iff ok.setOk hz]
  · simp
theorem memV_lt {k : Nat} {no : Bool} {l h f b z : Nat} (h : MemV k no l h f b z) : z < 2 ^ k := h.2.lt
theorem cnt_none {k : Nat} {no : Bool} {l h f b : Nat} (ok : ValOk k no l h f b) {is : Bool} (hi : is = true ↔ ∀ z, ¬ MemV k no l h f b z) : is = decide (cntB (mB no l h f b) (2 ^ k) = 0) := by
  rw [Bool.eq_iff_iff, hi, decide_eq_true_iff, cntB_zero]
  constructor
  · intro hh z hz
    cases e : mB no l h f b z
    · rfl
    · exact absurd ((mB_iff ok hz).1 e) (hh z)
  · intro hh z hM
    have h1 := hh z (memV_lt hM)
    rw [(mB_iff ok (memV_lt hM)).2 hM] at h1
    cases h1
theorem cnt_only {k : Nat} {no : Bool} {l h f b : Nat} (ok : ValOk k no l h f b) {is : Bool} {n : Int} (hs : SRes (MemV k no l h f b) is n) : is = decide (cntB (mB no l h f b) (2 ^ k) = 1) := by
  rw [Bool.eq_iff_iff, decide_eq_true_iff, cntB_one]
  rcases hs with ⟨rfl, m, rfl, h1⟩ | ⟨rfl, rfl, h1⟩
  · have hm := memV_lt ((h1 m).2 rfl)
    exact ⟨fun _ => ⟨m, hm, fun z hz => (mB_iff ok hz).trans (h1 z)⟩, fun _ => rfl⟩
  · refine ⟨(fun h => by cases h), fun ⟨m, hm, h2⟩ => absurd (fun z => ?_) (h1 m)⟩
    constructor
    · intro hM
      exact (h2 z (memV_lt hM)).1 ((mB_iff ok (memV_lt hM)).2 hM)
    · rintro rfl
      exact (mB_iff ok hm).1 ((h2 z hm).2 rfl)

theorem within_32 (w : World) : Calls Try.prog 25 #[.int .i64 3, .int .i64 2] w fun e w' => e = .returned (.int .i64 1) ∧ w = w' := by
  go_enter Try.func25, Try.ntmps25
  go_wp2
  go_ret
  exact ⟨rfl, rfl⟩
theorem texts_0 (w : World) : Calls Try.prog 41 #[.slice none 0 0] w fun e w' => e = .returned (.int .i64 0) ∧ w = w' := by
  go_enter Try.func41, Try.ntmps41
  go_wp2
  go_loop [3, 4] (fun n i => n = .int .i64 0 ∧ i = .int .i64 0) (fun _ i => (intOf i).toNat)
  case atStart => exact ⟨rfl, rfl⟩
  case round =>
    obtain ⟨rfl, rfl⟩ := hrel
    go_wp2
    go_ret
    exact ⟨rfl, rfl⟩
set_option maxHeartbeats 800000 in
theorem heavy1_0 (w : World) : Calls Try.prog 26 #[.agg #[.slice none 0 0, .slice none 0 0, .slice none 0 0]] w fun e w' => e = .returned (.bool false) ∧ Below w.heap.size w w' := by
  go_enter Try.func26, Try.ntmps26
  go_wp2_with (go_at_call 41; refine (texts_0 _).mono ?_; rintro e w' ⟨rfl, rfl⟩)
  go_ret
  exact ⟨rfl, (Below.refl _ _).alloc (Nat.le_refl _) _⟩
theorem next_is {M : Nat → Prop} {n : Nat} {x ev : Int} (h : NRes M n x ev) (hM : M n) : x = n ∧ ev = 0 := by
  rcases h with ⟨m, h1, h2, h3, rfl, rfl⟩ | ⟨h1, _⟩
  · have := h3 n (Nat.le_refl _) hM
    exact ⟨by omega, rfl⟩
  · exact absurd hM (h1 n (Nat.le_refl _))
theorem next_not {M : Nat → Prop} {n : Nat} {x ev : Int} (h : NRes M n x ev) (hM : ¬ M n) : (∃ m : Nat, x = m ∧ ev = 0 ∧ n < m ∧ M m) ∨ (x = 0 ∧ ev = 3) := by
  rcases h with ⟨m, h1, h2, h3, rfl, rfl⟩ | ⟨h1, h2, h3⟩
  · rcases Nat.lt_or_ge n m with h4 | h4
    · exact Or.inl ⟨m, rfl, rfl, h4, h2⟩
    · obtain rfl : n = m := by omega
      exact absurd h2 hM
  · exact Or.inr ⟨h2, h3⟩
theorem bool_ne_self (b : Bool) : (b != b) = false := by simp
/-- what the round holds -/
def RelC (p : Nat → Bool) (wB : World) (va vn : Value) (wr : World) : Prop := ∃ n : Nat, n ≤ 256 ∧ vn = .int .i64 n ∧ va = .int .i64 (cntB p n : Nat) ∧ Below wB.heap.size wB wr


set_option maxRecDepth 100000 in
set_option maxHeartbeats 6400000 in
theorem leads_loop (pv : Option Addr) (lv cv : Nat) (vs : List VI) (pn : Option Addr) (ln cn : Nat) (zs : List Int) (w : World) (hv : IsVals w pv lv vs) (hn : IsInts w pn ln zs) (hcn : pn = none → cn = 0) :
    Calls Try.prog 5 #[.agg #[.slice pv lv cv, .slice pn ln cn]] w fun e w' => e = .returned (.bool true) ∧ Below w.heap.size w w' := by
  have d0 := At.new w #[.slice pv lv cv, .slice pn ln cn] 25
  have hb0 : Below w.heap.size w (w.alloc (.cells #[.slice pv lv cv, .slice pn ln cn] 25)) := (Below.refl _ _).alloc (Nat.le_refl _) _
  have cW := fun w => wakes_any w
  go_enter Try.func5, Try.ntmps5
  go_wp2_with fail
  refine (heavy_any pv lv cv pn ln cn _).mono ?_
  rintro e w2 ⟨hvy, rfl, hle, hb1⟩
  have d2 := At.below' hb1 d0
  have hb2 := hb0.trans (hb1.mono hb0.size)
  clear hb1 d0 hb0
  cases hvy
  · obtain ⟨hlv, hln⟩ := hle rfl
    have c0 : w2.cell? ⟨w.heap.size, 0, none⟩ = some (.slice pv lv cv) := d2.cell 0 rfl
    go_wp2_with fail
    go_loopw [3] (fun v wr => RelT lv w2 v wr) (fun v _ => lv - (intOf v).toNat)
    case atStart => exact ⟨0, by omega, rfl, Below.refl _ _⟩
    case round =>
      obtain ⟨j, hj, rfl, hbr⟩ := hrel
      have c0r : wr.cell? ⟨w.heap.size, 0, none⟩ = some (.slice pv lv cv) := (d2.below hbr d2.lt).cell 0 rfl
      clear c0
      by_cases hjl : j < lv ∧ j < 10
      · obtain ⟨hj1, hj2⟩ := hjl
        obtain ⟨hvl, hvc⟩ := hv
        obtain ⟨bb, off, rfl, hbb, hcells⟩ := hvc (by omega)
        have hjs : j < vs.length := by omega
        have hbx : Below w.heap.size w wr := hb2.trans (hbr.mono hb2.size)
        have hcj := (hcells j hjs).below hbx
        obtain ⟨v, hvj⟩ : ∃ v, v = vs[j] := ⟨_, rfl⟩
        rw [← hvj] at hcj
        obtain ⟨p0, p1, p2, p3, p4, p5⟩ := hcj
        have hj3 : (j : Int) < (lv : Int) := by omega
        have hj4 : (j : Int) < 10 := by omega
        have dV := At.new wr #[.int .i64 v.k, .bool v.no, .int .i64 v.l, .int .i64 v.h, .int .i64 v.f, .int .i64 v.b] 28
        have hbV : Below w2.heap.size w2 (wr.alloc (.cells #[.int .i64 v.k, .bool v.no, .int .i64 v.l, .int .i64 v.h, .int .i64 v.f, .int .i64 v.b] 28)) := hbr.alloc hbr.size _
        clear hvc hcells hvj hjs hbx
        cases hm : mayB v.k v.no v.l v.h v.f v.b
        · have cC := fun w => Check_no v.k v.no v.l v.h v.f v.b hm w
          go_wp2_with fail
          refine (cC _).mono ?_
          rintro e wC ⟨rfl, hbc⟩
          replace hbV := hbV.trans (hbc.mono hbV.size)
          clear hbc dV
          go_wp2_with ((go_at_call 14; refine (num_any _ _).mono ?_; rintro e w' ⟨rfl, rfl⟩))
          go_roundw
          case rel => exact ⟨j + 1, by omega, by go_num, hbV⟩
          case measure => simp [intOf]; omega
        · obtain ⟨vk, vno, vl, vh, vf, vb⟩ := v
          simp only at hm p0 p1 p2 p3 p4 p5 dV hbV
          obtain ⟨K, L, H, F, B, rfl, rfl, rfl, rfl, rfl, ok, hz⟩ := may_nat hm
          clear hz
          have cC := fun w => Check_yes K vno L H F B hm w
          go_wp2_with fail
          refine (cC _).mono ?_
          rintro e wB ⟨rfl, hbc⟩
          replace hbV := hbV.trans (hbc.mono hbV.size)
          replace dV := At.below' hbc dV
          clear hbc cC p0 p1 p2 p3 p4 p5
          obtain ⟨Bv, hBv⟩ : ∃ Bv, Bv = wr.heap.size := ⟨_, rfl⟩
          rw [← hBv] at dV ⊢
          have hbB := hbV
          clear hbV hBv
          have q0 : wB.cell? ⟨Bv, 0, none⟩ = some (.int .i64 K) := dV.cell 0 rfl
          by_cases hK : K = 8
          · subst hK
            go_wp2_with ((go_at_call 14; refine (num_any _ _).mono ?_; rintro e w' ⟨rfl, rfl⟩))
            obtain ⟨p, hp⟩ : ∃ p, p = mB vno L H F B := ⟨_, rfl⟩
            have HP := Lib.hid hp
            clear hp
            go_loopw [5, 6] (fun va vn wr => RelC p wB va vn wr) (fun _ vn _ => 256 - (intOf vn).toNat)
            case atStart => exact ⟨0, by omega, rfl, rfl, Below.refl _ _⟩
            case round =>
              obtain ⟨n, hn, rfl, rfl, hbq⟩ := hrel
              have hcn := cntB_le p n
              replace dV := dV.below hbq dV.lt
              by_cases hlt : n < 256
              · have hlt1 : (n : Int) < 256 := by omega
                have q0 : wr.cell? ⟨Bv, 0, none⟩ = some (.int .i64 8) := dV.cell 0 rfl
                have q1 : wr.cell? ⟨Bv, 1, none⟩ = some (.bool vno) := dV.cell 1 rfl
                have q2 : wr.cell? ⟨Bv, 2, none⟩ = some (.int .i64 L) := dV.cell 2 rfl
                have q3 : wr.cell? ⟨Bv, 3, none⟩ = some (.int .i64 H) := dV.cell 3 rfl
                have q4 : wr.cell? ⟨Bv, 4, none⟩ = some (.int .i64 F) := dV.cell 4 rfl
                have q5 : wr.cell? ⟨Bv, 5, none⟩ = some (.int .i64 B) := dV.cell 5 rfl
                have cH := fun w => Has_yes 8 vno L H F B n ok hm (by omega) w
                have cN := fun w => next_res 8 vno L H F B n ok hm (by omega) w
                go_wp2_with ((go_at_call 14; refine (num_any _ _).mono ?_; rintro e w' ⟨rfl, rfl⟩))
                refine (cH _).mono ?_
                rintro e wH ⟨is, his, rfl, hbc⟩
                replace hbq := hbq.trans (hbc.mono hbq.size)
                replace dV := At.below' hbc dV
                clear hbc
                have q0 : wH.cell? ⟨Bv, 0, none⟩ = some (.int .i64 8) := dV.cell 0 rfl
                have q1 : wH.cell? ⟨Bv, 1, none⟩ = some (.bool vno) := dV.cell 1 rfl
                have q2 : wH.cell? ⟨Bv, 2, none⟩ = some (.int .i64 L) := dV.cell 2 rfl
                have q3 : wH.cell? ⟨Bv, 3, none⟩ = some (.int .i64 H) := dV.cell 3 rfl
                have q4 : wH.cell? ⟨Bv, 4, none⟩ = some (.int .i64 F) := dV.cell 4 rfl
                have q5 : wH.cell? ⟨Bv, 5, none⟩ = some (.int .i64 B) := dV.cell 5 rfl
                go_wp2_with ((go_at_call 14; refine (num_any _ _).mono ?_; rintro e w' ⟨rfl, rfl⟩))
                refine (cN _).mono ?_
                rintro e wN ⟨x, ev, hx, rfl, hbc⟩
                replace hbq := hbq.trans (hbc.mono hbq.size)
                replace dV := At.below' hbc dV
                clear hbc
                have q0 : wN.cell? ⟨Bv, 0, none⟩ = some (.int .i64 8) := dV.cell 0 rfl
                have q1 : wN.cell? ⟨Bv, 1, none⟩ = some (.bool vno) := dV.cell 1 rfl
                have q2 : wN.cell? ⟨Bv, 2, none⟩ = some (.int .i64 L) := dV.cell 2 rfl
                have q3 : wN.cell? ⟨Bv, 3, none⟩ = some (.int .i64 H) := dV.cell 3 rfl
                have q4 : wN.cell? ⟨Bv, 4, none⟩ = some (.int .i64 F) := dV.cell 4 rfl
                have q5 : wN.cell? ⟨Bv, 5, none⟩ = some (.int .i64 B) := dV.cell 5 rfl
                clear cH cN
                have hmb := mB_iff (z := n) ok (by omega)
                rw [← HP.out] at hmb
                cases hpn : p n
                · have hnot : ¬ MemV 8 vno L H F B n := fun h => by rw [hmb.2 h] at hpn; cases hpn
                  obtain rfl : is = false := by
                    cases is
                    · rfl
                    · exact absurd (his.1 rfl) hnot
                  have hc1 : cntB p (n + 1) = cntB p n := by rw [cntB_succ, hpn]; simp
                  rcases next_not hx hnot with ⟨m, rfl, rfl, hnm, hM⟩ | ⟨rfl, rfl⟩
                  · have hm8 := memV_lt hM
                    have t0 : ((m : Int) == (n : Int)) = false := by simp; omega
                    have t1 : decide (m < n) = false := by simp; omega
                    have cG := fun w => Has_yes 8 vno L H F B m ok hm hm8 w
                    clear hx his hmb hpn hnot
                    go_wp2_with ((go_at_call 14; refine (num_any _ _).mono ?_; rintro e w' ⟨rfl, rfl⟩))
                    refine (cG _).mono ?_
                    rintro e wG ⟨is2, his2, rfl, hbc⟩
                    replace hbq := hbq.trans (hbc.mono hbq.size)
                    obtain rfl : is2 = true := his2.2 hM
                    clear hbc his2 hM cG dV
                    go_wp2_with ((go_at_call 14; refine (num_any _ _).mono ?_; rintro e w' ⟨rfl, rfl⟩))
                    go_roundw
                    case rel => exact ⟨n + 1, by omega, by go_num, by rw [hc1], hbq⟩
                    case measure => simp [intOf]; omega
                  · clear his hmb hpn hnot hx
                    go_wp2_with ((go_at_call 14; refine (num_any _ _).mono ?_; rintro e w' ⟨rfl, rfl⟩))
                    go_roundw
                    case rel => exact ⟨n + 1, by omega, by go_num, by rw [hc1], hbq⟩
                    case measure => simp [intOf]; omega
                · have hM : MemV 8 vno L H F B n := hmb.1 hpn
                  obtain rfl : is = true := his.2 hM
                  obtain ⟨rfl, rfl⟩ := next_is hx hM
                  have hc1 : cntB p (n + 1) = cntB p n + 1 := by rw [cntB_succ, hpn]; simp
                  have hm8 : n < 2 ^ 8 := by omega
                  have t1 : decide (n < n) = false := by simp
                  have cG := fun w => Has_yes 8 vno L H F B n ok hm hm8 w
                  clear hx his hmb hpn
                  go_wp2_with ((go_at_call 14; refine (num_any _ _).mono ?_; rintro e w' ⟨rfl, rfl⟩))
                  refine (cG _).mono ?_
                  rintro e wG ⟨is2, his2, rfl, hbc⟩
                  replace hbq := hbq.trans (hbc.mono hbq.size)
                  obtain rfl : is2 = true := his2.2 hM
                  clear hbc his2 hM cG dV
                  go_wp2_with ((go_at_call 14; refine (num_any _ _).mono ?_; rintro e w' ⟨rfl, rfl⟩))
                  go_roundw
                  case rel => exact ⟨n + 1, by omega, by go_num, by rw [hc1]; go_num, hbq⟩
                  case measure => simp [intOf]; omega
              · obtain rfl : n = 256 := by omega
                have q0 : wr.cell? ⟨Bv, 0, none⟩ = some (.int .i64 8) := dV.cell 0 rfl
                have q1 : wr.cell? ⟨Bv, 1, none⟩ = some (.bool vno) := dV.cell 1 rfl
                have q2 : wr.cell? ⟨Bv, 2, none⟩ = some (.int .i64 L) := dV.cell 2 rfl
                have q3 : wr.cell? ⟨Bv, 3, none⟩ = some (.int .i64 H) := dV.cell 3 rfl
                have q4 : wr.cell? ⟨Bv, 4, none⟩ = some (.int .i64 F) := dV.cell 4 rfl
                have q5 : wr.cell? ⟨Bv, 5, none⟩ = some (.int .i64 B) := dV.cell 5 rfl
                have cE := fun w => Empty_ok 8 vno L H F B ok hm w
                have cS := fun w => single_res 8 vno L H F B ok hm w
                go_wp2_with ((go_at_call 14; refine (num_any _ _).mono ?_; rintro e w' ⟨rfl, rfl⟩))
                refine (cE _).mono ?_
                rintro e wE ⟨ise, hise, rfl, hbc⟩
                replace hbq := hbq.trans (hbc.mono hbq.size)
                replace dV := At.below' hbc dV
                clear hbc
                have q0 : wE.cell? ⟨Bv, 0, none⟩ = some (.int .i64 8) := dV.cell 0 rfl
                have q1 : wE.cell? ⟨Bv, 1, none⟩ = some (.bool vno) := dV.cell 1 rfl
                have q2 : wE.cell? ⟨Bv, 2, none⟩ = some (.int .i64 L) := dV.cell 2 rfl
                have q3 : wE.cell? ⟨Bv, 3, none⟩ = some (.int .i64 H) := dV.cell 3 rfl
                have q4 : wE.cell? ⟨Bv, 4, none⟩ = some (.int .i64 F) := dV.cell 4 rfl
                have q5 : wE.cell? ⟨Bv, 5, none⟩ = some (.int .i64 B) := dV.cell 5 rfl
                go_wp2_with ((go_at_call 14; refine (num_any _ _).mono ?_; rintro e w' ⟨rfl, rfl⟩))
                refine (cS _).mono ?_
                rintro e wS ⟨iss, ns, hss, rfl, hbc⟩
                replace hbq := hbq.trans (hbc.mono hbq.size)
                replace dV := At.below' hbc dV
                clear hbc
                have q0 : wS.cell? ⟨Bv, 0, none⟩ = some (.int .i64 8) := dV.cell 0 rfl
                have q1 : wS.cell? ⟨Bv, 1, none⟩ = some (.bool vno) := dV.cell 1 rfl
                have q2 : wS.cell? ⟨Bv, 2, none⟩ = some (.int .i64 L) := dV.cell 2 rfl
                have q3 : wS.cell? ⟨Bv, 3, none⟩ = some (.int .i64 H) := dV.cell 3 rfl
                have q4 : wS.cell? ⟨Bv, 4, none⟩ = some (.int .i64 F) := dV.cell 4 rfl
                have q5 : wS.cell? ⟨Bv, 5, none⟩ = some (.int .i64 B) := dV.cell 5 rfl
                obtain rfl := cnt_none ok hise
                obtain rfl := cnt_only ok hss
                rw [← HP.out]
                clear hise hss cE cS dV
                have e256 : (2 : Nat) ^ 8 = 256 := by decide
                simp only [e256]
                generalize cntB p 256 = A at *
                by_cases hA0 : A = 0
                · subst hA0
                  go_wp2_with ((go_at_call 14; refine (num_any _ _).mono ?_; rintro e w' ⟨rfl, rfl⟩))
                  go_roundw
                  case rel => exact ⟨j + 1, by omega, by go_num, hbB.trans (hbq.mono hbB.size)⟩
                  case measure => simp [intOf]; omega
                · by_cases hA1 : A = 1
                  · subst hA1
                    go_wp2_with ((go_at_call 14; refine (num_any _ _).mono ?_; rintro e w' ⟨rfl, rfl⟩))
                    go_roundw
                    case rel => exact ⟨j + 1, by omega, by go_num, hbB.trans (hbq.mono hbB.size)⟩
                    case measure => simp [intOf]; omega
                  · have u0 : decide (A = 0) = false := by simpa using hA0
                    have u1 : decide (A = 1) = false := by simpa using hA1
                    have u2 : ((A : Int) == 0) = false := by simp; omega
                    have u3 : ((A : Int) == 1) = false := by simp; omega
                    rw [u0, u1]
                    go_wp2_with ((go_at_call 14; refine (num_any _ _).mono ?_; rintro e w' ⟨rfl, rfl⟩))
                    go_roundw
                    case rel => exact ⟨j + 1, by omega, by go_num, hbB.trans (hbq.mono hbB.size)⟩
                    case measure => simp [intOf]; omega
          · have t8 : ((K : Int) != 8) = true := by simp; omega
            clear dV
            go_wp2_with ((go_at_call 14; refine (num_any _ _).mono ?_; rintro e w' ⟨rfl, rfl⟩))
            go_roundw
            case rel => exact ⟨j + 1, by omega, by go_num, hbB⟩
            case measure => simp [intOf]; omega
      · have hbO : Below w.heap.size w wr := hb2.trans (hbr.mono hb2.size)
        have c32 := fun w => within_32 w
        have cHv := fun w => heavy1_0 w
        by_cases hj1 : j < lv
        · have hj3 : (j : Int) < (lv : Int) := by omega
          have hj4 : decide ((j : Int) < 10) = false := by simp; omega
          go_wp2_with ((go_at_call 25; refine (c32 _).mono ?_; rintro e w' ⟨rfl, rfl⟩))
          refine (cHv _).mono ?_
          rintro e wY ⟨rfl, hbY⟩
          go_wp2_with fail
          refine (cW _).mono ?_
          rintro e wZ ⟨rfl, hbZ⟩
          go_wp2_with fail
          go_ret
          exact ⟨rfl, hbO.trans ((hbY.mono hbO.size).trans (hbZ.mono (by have := hbO.size; have := hbY.size; omega)))⟩
        · have hj3 : decide ((j : Int) < (lv : Int)) = false := by simp; omega
          go_wp2_with ((go_at_call 25; refine (c32 _).mono ?_; rintro e w' ⟨rfl, rfl⟩))
          refine (cHv _).mono ?_
          rintro e wY ⟨rfl, hbY⟩
          go_wp2_with fail
          refine (cW _).mono ?_
          rintro e wZ ⟨rfl, hbZ⟩
          go_wp2_with fail
          go_ret
          exact ⟨rfl, hbO.trans ((hbY.mono hbO.size).trans (hbZ.mono (by have := hbO.size; have := hbY.size; omega)))⟩
  · clear hle d2
    go_wp2_with fail
    go_ret
    exact ⟨rfl, hb2⟩
end Go.Proofs.Ytjcapecimihjgaa
