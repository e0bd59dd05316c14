/- ValMakes: its walk. -/
import Derived.Test.YtgedkebinidmkaaVWake
import Derived.Test.YtgedkebinidmkaaVQuiet
import Derived.Deep.CutRange
namespace Go.Proofs.Ytgedkebinidmkaa
open Go.ChangeShapes Go.WideShapes Go.ChangeAt Go.RowKit Go.Joins Go.Deep
set_option linter.unusedVariables false

set_option maxRecDepth 100000 in
set_option maxHeartbeats 800000 in
theorem No_yes (k : Int) (hW : isW k) (w : World) :
    Calls Try.prog 7 #[.int .i64 k] w (MakePost (valV k true 0 0 0 0) 0 w) := by
  have cN := fun w => isNumber_yes 0 k hW ⟨by omega, by rcases hW with rfl | rfl | rfl <;> decide⟩ w
  have c0 := fun w => none_any k w
  have d0 := At.new w #[.int .i64 0, .bool false, .int .i64 0, .int .i64 0, .int .i64 0, .int .i64 0] 28
  have hb0 : Below w.heap.size w (w.alloc (.cells #[.int .i64 0, .bool false, .int .i64 0, .int .i64 0, .int .i64 0, .int .i64 0] 28)) := (Below.refl _ _).alloc (Nat.le_refl _) _
  clear hW
  go_enter Try.func7, Try.ntmps7
  go_wp2_with ((go_at_call 21; (with_reducible refine (cN _).mono ?_); rintro e w' ⟨rfl, rfl⟩))
  refine (c0 _).mono ?_
  rintro e w1 ⟨rfl, hb⟩
  have d1 := At.below' hb d0
  have hbE := hb0.trans (hb.mono hb0.size)
  have t0c : w1.cell? ⟨w.heap.size, 0, none⟩ = some (.int .i64 0) := d1.cell 0 rfl
  have t0f : w1.frozen? ⟨w.heap.size, 0, none⟩ = false := At.free d1 0
  have ts0 := At.set d1 0 (.int .i64 k) (by simp)
  have tc1 : (w1.setCell ⟨w.heap.size, 0, none⟩ (.int .i64 k)).cell? ⟨w.heap.size, 1, none⟩ = some (.bool false) := ts0.cell 1 rfl
  have tf1 : (w1.setCell ⟨w.heap.size, 0, none⟩ (.int .i64 k)).frozen? ⟨w.heap.size, 1, none⟩ = false := At.free ts0 1
  have ts1 := At.set ts0 1 (.bool true) (by simp)
  have tc2 : ((w1.setCell ⟨w.heap.size, 0, none⟩ (.int .i64 k)).setCell ⟨w.heap.size, 1, none⟩ (.bool true)).cell? ⟨w.heap.size, 2, none⟩ = some (.int .i64 0) := ts1.cell 2 rfl
  have tf2 : ((w1.setCell ⟨w.heap.size, 0, none⟩ (.int .i64 k)).setCell ⟨w.heap.size, 1, none⟩ (.bool true)).frozen? ⟨w.heap.size, 2, none⟩ = false := At.free ts1 2
  have ts2 := At.set ts1 2 (.int .i64 0) (by simp)
  have tc3 : (((w1.setCell ⟨w.heap.size, 0, none⟩ (.int .i64 k)).setCell ⟨w.heap.size, 1, none⟩ (.bool true)).setCell ⟨w.heap.size, 2, none⟩ (.int .i64 0)).cell? ⟨w.heap.size, 3, none⟩ = some (.int .i64 0) := ts2.cell 3 rfl
  have tf3 : (((w1.setCell ⟨w.heap.size, 0, none⟩ (.int .i64 k)).setCell ⟨w.heap.size, 1, none⟩ (.bool true)).setCell ⟨w.heap.size, 2, none⟩ (.int .i64 0)).frozen? ⟨w.heap.size, 3, none⟩ = false := At.free ts2 3
  have ts3 := At.set ts2 3 (.int .i64 0) (by simp)
  have tc4 : ((((w1.setCell ⟨w.heap.size, 0, none⟩ (.int .i64 k)).setCell ⟨w.heap.size, 1, none⟩ (.bool true)).setCell ⟨w.heap.size, 2, none⟩ (.int .i64 0)).setCell ⟨w.heap.size, 3, none⟩ (.int .i64 0)).cell? ⟨w.heap.size, 4, none⟩ = some (.int .i64 0) := ts3.cell 4 rfl
  have tf4 : ((((w1.setCell ⟨w.heap.size, 0, none⟩ (.int .i64 k)).setCell ⟨w.heap.size, 1, none⟩ (.bool true)).setCell ⟨w.heap.size, 2, none⟩ (.int .i64 0)).setCell ⟨w.heap.size, 3, none⟩ (.int .i64 0)).frozen? ⟨w.heap.size, 4, none⟩ = false := At.free ts3 4
  have ts4 := At.set ts3 4 (.int .i64 0) (by simp)
  have tc5 : (((((w1.setCell ⟨w.heap.size, 0, none⟩ (.int .i64 k)).setCell ⟨w.heap.size, 1, none⟩ (.bool true)).setCell ⟨w.heap.size, 2, none⟩ (.int .i64 0)).setCell ⟨w.heap.size, 3, none⟩ (.int .i64 0)).setCell ⟨w.heap.size, 4, none⟩ (.int .i64 0)).cell? ⟨w.heap.size, 5, none⟩ = some (.int .i64 0) := ts4.cell 5 rfl
  have tf5 : (((((w1.setCell ⟨w.heap.size, 0, none⟩ (.int .i64 k)).setCell ⟨w.heap.size, 1, none⟩ (.bool true)).setCell ⟨w.heap.size, 2, none⟩ (.int .i64 0)).setCell ⟨w.heap.size, 3, none⟩ (.int .i64 0)).setCell ⟨w.heap.size, 4, none⟩ (.int .i64 0)).frozen? ⟨w.heap.size, 5, none⟩ = false := At.free ts4 5
  have ts5 := At.set ts4 5 (.int .i64 0) (by simp)
  have g0 : ((((((w1.setCell ⟨w.heap.size, 0, none⟩ (.int .i64 k)).setCell ⟨w.heap.size, 1, none⟩ (.bool true)).setCell ⟨w.heap.size, 2, none⟩ (.int .i64 0)).setCell ⟨w.heap.size, 3, none⟩ (.int .i64 0)).setCell ⟨w.heap.size, 4, none⟩ (.int .i64 0)).setCell ⟨w.heap.size, 5, none⟩ (.int .i64 0)).cell? ⟨w.heap.size, 0, none⟩ = some (.int .i64 k) := ts5.cell 0 rfl
  have g1 : ((((((w1.setCell ⟨w.heap.size, 0, none⟩ (.int .i64 k)).setCell ⟨w.heap.size, 1, none⟩ (.bool true)).setCell ⟨w.heap.size, 2, none⟩ (.int .i64 0)).setCell ⟨w.heap.size, 3, none⟩ (.int .i64 0)).setCell ⟨w.heap.size, 4, none⟩ (.int .i64 0)).setCell ⟨w.heap.size, 5, none⟩ (.int .i64 0)).cell? ⟨w.heap.size, 1, none⟩ = some (.bool true) := ts5.cell 1 rfl
  have g2 : ((((((w1.setCell ⟨w.heap.size, 0, none⟩ (.int .i64 k)).setCell ⟨w.heap.size, 1, none⟩ (.bool true)).setCell ⟨w.heap.size, 2, none⟩ (.int .i64 0)).setCell ⟨w.heap.size, 3, none⟩ (.int .i64 0)).setCell ⟨w.heap.size, 4, none⟩ (.int .i64 0)).setCell ⟨w.heap.size, 5, none⟩ (.int .i64 0)).cell? ⟨w.heap.size, 2, none⟩ = some (.int .i64 0) := ts5.cell 2 rfl
  have g3 : ((((((w1.setCell ⟨w.heap.size, 0, none⟩ (.int .i64 k)).setCell ⟨w.heap.size, 1, none⟩ (.bool true)).setCell ⟨w.heap.size, 2, none⟩ (.int .i64 0)).setCell ⟨w.heap.size, 3, none⟩ (.int .i64 0)).setCell ⟨w.heap.size, 4, none⟩ (.int .i64 0)).setCell ⟨w.heap.size, 5, none⟩ (.int .i64 0)).cell? ⟨w.heap.size, 3, none⟩ = some (.int .i64 0) := ts5.cell 3 rfl
  have g4 : ((((((w1.setCell ⟨w.heap.size, 0, none⟩ (.int .i64 k)).setCell ⟨w.heap.size, 1, none⟩ (.bool true)).setCell ⟨w.heap.size, 2, none⟩ (.int .i64 0)).setCell ⟨w.heap.size, 3, none⟩ (.int .i64 0)).setCell ⟨w.heap.size, 4, none⟩ (.int .i64 0)).setCell ⟨w.heap.size, 5, none⟩ (.int .i64 0)).cell? ⟨w.heap.size, 4, none⟩ = some (.int .i64 0) := ts5.cell 4 rfl
  have g5 : ((((((w1.setCell ⟨w.heap.size, 0, none⟩ (.int .i64 k)).setCell ⟨w.heap.size, 1, none⟩ (.bool true)).setCell ⟨w.heap.size, 2, none⟩ (.int .i64 0)).setCell ⟨w.heap.size, 3, none⟩ (.int .i64 0)).setCell ⟨w.heap.size, 4, none⟩ (.int .i64 0)).setCell ⟨w.heap.size, 5, none⟩ (.int .i64 0)).cell? ⟨w.heap.size, 5, none⟩ = some (.int .i64 0) := ts5.cell 5 rfl
  have bb0 := hbE.setCell (p := ⟨w.heap.size, 0, none⟩) (Nat.le_refl _) (.int .i64 k)
  have bb1 := bb0.setCell (p := ⟨w.heap.size, 1, none⟩) (Nat.le_refl _) (.bool true)
  have bb2 := bb1.setCell (p := ⟨w.heap.size, 2, none⟩) (Nat.le_refl _) (.int .i64 0)
  have bb3 := bb2.setCell (p := ⟨w.heap.size, 3, none⟩) (Nat.le_refl _) (.int .i64 0)
  have bb4 := bb3.setCell (p := ⟨w.heap.size, 4, none⟩) (Nat.le_refl _) (.int .i64 0)
  have bb5 := bb4.setCell (p := ⟨w.heap.size, 5, none⟩) (Nat.le_refl _) (.int .i64 0)
  clear ts0 ts1 ts2 ts3 ts4 ts5 bb0 bb1 bb2 bb3 bb4 d1 d0 hb0 hb hbE
  go_wp2_with fail
  exact bodyPost_ret (v := .tuple #[valV k true 0 0 0 0, .int .i64 0]) (by simp [results, Try.results7, go_sem, g0, g1, g2, g3, g4, g5]) rfl ⟨rfl, bb5⟩
theorem hasAll {T n : Nat} {k : Nat} (ok : ValOk k false 0 T T 0) (hT : T + 1 = 2 ^ k) (hn : n < 2 ^ k) : memB 0 T T 0 n = true := by
  rw [memB_iff ok.setOk hn]
  refine ⟨hn, fun i hi => ?_, ?_⟩
  · by_cases h : i < k
    · have e : T = 2 ^ k - 1 := by omega
      rw [e, Nat.testBit_two_pow_sub_one] at hi
      simp [h] at hi
    · simp only [Nat.zero_testBit]
      exact Nat.testBit_lt_two_pow (Nat.lt_of_lt_of_le hn (Nat.pow_le_pow_right (by decide) (by omega)))
  · rw [if_pos (Nat.zero_le _)]
    omega
theorem all_ok {k T : Nat} (hk : isWn k) (hT : T + 1 = 2 ^ k) : ValOk k false 0 T T 0 := ⟨⟨hk, by omega, Nat.two_pow_pos k, fun i _ => by simp⟩, Nat.two_pow_pos k, by omega⟩
theorem none_ok2 {k : Nat} (hk : isWn k) : ValOk k true 0 0 0 0 := ⟨⟨hk, Nat.two_pow_pos k, Nat.two_pow_pos k, fun i h => by simp at h⟩, Nat.two_pow_pos k, Nat.two_pow_pos k⟩
theorem one_ok {k n : Nat} (hk : isWn k) (hn : n < 2 ^ k) : ValOk k false n n 0 n := ⟨⟨hk, Nat.two_pow_pos k, hn, fun i h => by simp at h⟩, hn, hn⟩
theorem all_num {k : Nat} (hk : isWn k) : ∃ T : Nat, T + 1 = 2 ^ k ∧ wrapI (-1) (k : Int) = (T : Int) ∧ ((T : Int) != wrap64 (wrap64 (2 ^ min k 64) - 1)) = false := by
  rcases hk with rfl | rfl | rfl
  · exact ⟨255, rfl, rfl, by simp [wrap64]⟩
  · exact ⟨65535, rfl, rfl, by simp [wrap64]⟩
  · exact ⟨4294967295, rfl, rfl, by simp [wrap64]⟩
theorem mem1 {k n z : Nat} (hn : n < 2 ^ k) : MemV k false n n 0 n z ↔ z = n := by
  constructor
  · rintro ⟨_, _, _, hr⟩
    rw [if_pos (Nat.le_refl _)] at hr
    omega
  · rintro rfl
    exact ⟨rfl, hn, fun _ _ => rfl, by rw [if_pos (Nat.le_refl _)]; exact ⟨Nat.le_refl _, Nat.le_refl _⟩⟩
theorem only_one {k n : Nat} {x : Int} {is : Bool} (hn : n < 2 ^ k) (h : OnlyRes (MemV k false n n 0 n) x is) : x = (n : Int) ∧ is = true := by
  rcases h with ⟨rfl, m, rfl, hm⟩ | ⟨_, hno⟩
  · have := (hm n).1 ((mem1 hn).2 rfl)
    subst this
    exact ⟨rfl, rfl⟩
  · exact absurd (fun z => mem1 hn) (hno n)
theorem below_boxR (w : World) (o : Obj) : Below w.heap.size w (w.alloc o) := (Below.refl _ _).alloc (Nat.le_refl _) _
def RelMk (m : Nat) (w2 : World) (v : Value) (wr : World) : Prop := ∃ j : Nat, j ≤ m ∧ v = .int .i64 j ∧ Below w2.heap.size w2 wr
set_option maxRecDepth 100000 in
set_option maxHeartbeats 6400000 in
theorem makes_loop (pv : Option Addr) (lv cv : Nat) (vs : List VI) (pn : Option Addr) (ln cn : Nat) (zs : List Int) (w : World) (hv : IsVals w pv lv vs) (hn : IsInts w pn ln zs) (hcn : pn = none → cn = 0) :
    Calls Try.prog 3 #[.agg #[.slice pv lv cv, .slice pn ln cn]] w fun e w' => e = .returned (.bool true) ∧ Below w.heap.size w w' := by
  have d0 := At.new w #[.slice pv lv cv, .slice pn ln cn] 25
  have hb0 : Below w.heap.size w (w.alloc (.cells #[.slice pv lv cv, .slice pn ln cn] 25)) := (Below.refl _ _).alloc (Nat.le_refl _) _
  have cW := fun w => wakes_any w
  go_enter Try.func3, Try.ntmps3
  go_wp2_with fail
  refine (heavy_any pv lv cv pn ln cn _).mono ?_
  rintro e w1 ⟨hvy, rfl, hle, hb1⟩
  replace d0 := At.below' hb1 d0
  replace hb0 := hb0.trans (hb1.mono hb0.size)
  clear hb1
  cases hvy
  · obtain ⟨hlv, hln⟩ := hle rfl
    have c1 : w1.cell? ⟨w.heap.size, 1, none⟩ = some (.slice pn ln cn) := d0.cell 1 rfl
    have hyn := ((hn.below hb0).below (below_boxR w1 (.cells #[.int .i64 0, .int .i64 1, .int .i64 200, .int .i64 255, .int .i64 256, .int .i64 65535, .int .i64 4294967295, .int .i64 4294967296, .int .i64 (-1)] 3))).yields hcn
    have hown2 := ownsRow_lit w1 w1.heap.size 3 1 9 #[.int .i64 0, .int .i64 1, .int .i64 200, .int .i64 255, .int .i64 256, .int .i64 65535, .int .i64 4294967295, .int .i64 4294967296, .int .i64 (-1)] (Nat.le_refl _) rfl (by decide)
    obtain ⟨j0, gi, gz0, gz1, gz2⟩ := info_parts Try.infoInt
    have hN1 : w.heap.size < w1.heap.size := d0.lt
    go_wp2_with (first | (at_builtin; refine wpList_append_any rfl _ _ 23 rfl w1.heap.size 3 j0 (.int .i64 0) 1 8 Try.underlying23 gi gz0 gz1 gz2 rfl (by decide) _ 9 _ rfl hown2 (fun h => by cases h) _ _ _ _ rfl hyn ?_ ?_ ?_ ?_))
    · unfold maxLen; omega
    · omega
    · simp
    · intro v2 w2 hown3 hgrow3 hne3
      have hbel : Below w1.heap.size w1 w2 := (((Below.refl _ _).alloc (Nat.le_refl _) _).grown hgrow3 (by simp) (fun k hk => by simp [Value.ownBlock] at hk; omega))
      have hown4 : w2.ownsRow w1.heap.size 3 1 v2 (9 + ln) ((0 :: 1 :: 200 :: 255 :: 256 :: 65535 :: 4294967295 :: 4294967296 :: -1 :: zs).map (Value.int .i64)) := hown3
      obtain ⟨g, cap, rfl, hxl, hx⟩ := ints_ownR hown4 hne3
      have d2 := At.below' hbel d0
      have hb2 := hb0.trans (hbel.mono hb0.size)
      obtain ⟨m, hm9⟩ : ∃ m, m = 9 + ln := ⟨_, rfl⟩
      have hns2 : ∀ q, q < m → ∃ n, w2.cell? ⟨g, q, none⟩ = some (.int .i64 n) := fun q hq => ⟨_, hx q (by rw [hxl]; omega)⟩
      have hm16 : m ≤ 109 := by omega
      have HM := Lib.hid hm9
      rw [← hm9] at *
      clear hown2 hown3 hown4 hgrow3 hne3 hyn hx hxl c1 d0 hb0 hbel hm9 gi gz0 gz1 gz2 d2
      go_wp2_with fail
      go_loopw [4] (fun v wr => RelMk 5 w2 v wr) (fun v _ => 5 - (intOf v).toNat)
      case atStart => exact ⟨0, by omega, rfl, Below.refl _ _⟩
      case round =>
        obtain ⟨k, hk5, rfl, hbr⟩ := hrel
        by_cases hkl : k < 5
        · have hkl1 : (k : Int) < 5 := by omega
          go_upto_region 7 with (fail)
          go_cut [5] from 27 to 30 (fun v5 wx => ∃ W : Nat, v5 = .int .i64 W ∧ (isWn W ∨ W = 7 ∨ W = 64) ∧ Below w2.heap.size w2 wx)
          case first =>
            have hbx := hbr.alloc hbr.size (.cells #[.int .i64 8, .int .i64 16, .int .i64 32, .int .i64 7, .int .i64 64] 3)
            have hk : k = 0 ∨ k = 1 ∨ k = 2 ∨ k = 3 ∨ k = 4 := by omega
            rcases hk with rfl | rfl | rfl | rfl | rfl
            all_goals
              go_wp2_with fail
              go_meet
            · exact ⟨8, rfl, Or.inl (Or.inl rfl), hbx⟩
            · exact ⟨16, rfl, Or.inl (Or.inr (Or.inl rfl)), hbx⟩
            · exact ⟨32, rfl, Or.inl (Or.inr (Or.inr rfl)), hbx⟩
            · exact ⟨7, rfl, Or.inr (Or.inl rfl), hbx⟩
            · exact ⟨64, rfl, Or.inr (Or.inr rfl), hbx⟩
          case rest =>
          obtain ⟨W, rfl, hWW, hbr2⟩ := hcut
          generalize wc = wb at *
          clear hbr
          by_cases hW : isWn W
          · have hW2 := hW
            have hWi : isW (W : Int) := by unfold isW; unfold isWn at hW; omega
            obtain ⟨TT, hT, hTW, hTs⟩ := all_num hW
            have HTS := Lib.hid hTs
            have hTl : TT < 4294967296 := by have := hT; have := hW.pow; omega
            have okA : ValOk W false 0 TT TT 0 := all_ok hW hT
            have okN : ValOk W true 0 0 0 0 := none_ok2 hW
            have hmA : mayB (W : Int) false (0 : Int) (TT : Int) (TT : Int) (0 : Int) = true := ok_may okA (fun h => by cases h)
            have hmN : mayB (W : Int) true (0 : Int) (0 : Int) (0 : Int) (0 : Int) = true := ok_may okN (fun _ => ⟨rfl, rfl, rfl, rfl⟩)
            have cA := fun w => All_yes (W : Int) hWi w
            rw [hTW] at cA
            have cO := fun w => No_yes (W : Int) hWi w
            have cI := fun w => rIsWidth_yes (W : Int) hWi w
            have cVA : ∀ w, Calls Try.prog 10 #[valV W false 0 TT TT 0] w (fun e w' => e = .returned (.bool true) ∧ Below w.heap.size w w') := fun w => by have h := rVal_any (W : Int) false (0 : Int) (TT : Int) (TT : Int) (0 : Int) w; rw [hmA] at h; exact h
            have cVN : ∀ w, Calls Try.prog 10 #[valV W true 0 0 0 0] w (fun e w' => e = .returned (.bool true) ∧ Below w.heap.size w w') := fun w => by have h := rVal_any (W : Int) true (0 : Int) (0 : Int) (0 : Int) (0 : Int) w; rw [hmN] at h; exact h
            have cNx : ∀ w, Calls Try.prog 11 #[valV W true 0 0 0 0, .int .i64 0] w (fun e w' => e = .returned (.int .i64 (-1)) ∧ Below w.heap.size w w') := fun w => rNext_no (W : Int) 0 0 0 0 0 w
            clear hWW hmA hmN hTW hTs
            go_wp2_with fail
            refine (cA _).mono ?_
            rintro e w3 ⟨rfl, hb3⟩
            have dA := At.new w3 #[.int .i64 W, .bool false, .int .i64 0, .int .i64 TT, .int .i64 TT, .int .i64 0] 28
            replace hbr2 := (hbr2.trans (hb3.mono hbr2.size)).alloc (hbr2.trans (hb3.mono hbr2.size)).size (.cells #[.int .i64 W, .bool false, .int .i64 0, .int .i64 TT, .int .i64 TT, .int .i64 0] 28)
            clear hb3 cA
            obtain ⟨BA, hBA⟩ : ∃ BA, BA = w3.heap.size := ⟨_, rfl⟩
            rw [← hBA] at dA
            go_wp2_with fail
            rw [← hBA]
            clear hBA
            generalize w3.alloc (.cells #[.int .i64 W, .bool false, .int .i64 0, .int .i64 TT, .int .i64 TT, .int .i64 0] 28) = w4 at *
            refine (cO _).mono ?_
            rintro e w5 ⟨rfl, hb5⟩
            replace dA := At.below' hb5 dA
            replace dA := At.alloc dA (.cells #[.int .i64 W, .bool true, .int .i64 0, .int .i64 0, .int .i64 0, .int .i64 0] 28)
            have dN := At.new w5 #[.int .i64 W, .bool true, .int .i64 0, .int .i64 0, .int .i64 0, .int .i64 0] 28
            replace hbr2 := (hbr2.trans (hb5.mono hbr2.size)).alloc (hbr2.trans (hb5.mono hbr2.size)).size (.cells #[.int .i64 W, .bool true, .int .i64 0, .int .i64 0, .int .i64 0, .int .i64 0] 28)
            clear hb5 cO
            obtain ⟨BN, hBN⟩ : ∃ BN, BN = w5.heap.size := ⟨_, rfl⟩
            rw [← hBN] at dN
            go_upto_region 15 with ((first | (go_at_call 8; (with_reducible refine (cI _).mono ?_); rintro e w' ⟨rfl, rfl⟩) | (go_at_call 9; refine (num_any _ _).mono ?_; rintro e w' ⟨rfl, rfl⟩)))
            rw [← hBN]
            clear hBN
            generalize w5.alloc (.cells #[.int .i64 W, .bool true, .int .i64 0, .int .i64 0, .int .i64 0, .int .i64 0] 28) = w6 at *
            go_cut [93] from 53 to 93 (fun v93 wx => v93 = .bool false ∧ Below w6.heap.size w6 wx)
            case first =>
              have ha0 := fun p : BelowBy w6 => p.cell (dA.cell 0 rfl : w6.cell? ⟨BA, 0, none⟩ = some (.int .i64 W))
              have ha1 := fun p : BelowBy w6 => p.cell (dA.cell 1 rfl : w6.cell? ⟨BA, 1, none⟩ = some (.bool false))
              have ha2 := fun p : BelowBy w6 => p.cell (dA.cell 2 rfl : w6.cell? ⟨BA, 2, none⟩ = some (.int .i64 0))
              have ha3 := fun p : BelowBy w6 => p.cell (dA.cell 3 rfl : w6.cell? ⟨BA, 3, none⟩ = some (.int .i64 TT))
              have ha4 := fun p : BelowBy w6 => p.cell (dA.cell 4 rfl : w6.cell? ⟨BA, 4, none⟩ = some (.int .i64 TT))
              have ha5 := fun p : BelowBy w6 => p.cell (dA.cell 5 rfl : w6.cell? ⟨BA, 5, none⟩ = some (.int .i64 0))
              have hn0 := fun p : BelowBy w6 => p.cell (dN.cell 0 rfl : w6.cell? ⟨BN, 0, none⟩ = some (.int .i64 W))
              have hn1 := fun p : BelowBy w6 => p.cell (dN.cell 1 rfl : w6.cell? ⟨BN, 1, none⟩ = some (.bool true))
              have hn2 := fun p : BelowBy w6 => p.cell (dN.cell 2 rfl : w6.cell? ⟨BN, 2, none⟩ = some (.int .i64 0))
              have hn3 := fun p : BelowBy w6 => p.cell (dN.cell 3 rfl : w6.cell? ⟨BN, 3, none⟩ = some (.int .i64 0))
              have hn4 := fun p : BelowBy w6 => p.cell (dN.cell 4 rfl : w6.cell? ⟨BN, 4, none⟩ = some (.int .i64 0))
              have hn5 := fun p : BelowBy w6 => p.cell (dN.cell 5 rfl : w6.cell? ⟨BN, 5, none⟩ = some (.int .i64 0))
              clear dA dN hbr2 hns2 hb2 okA okN
              refine wp_region_quiet_below (by kernel_rfl) (by kernel_rfl) ?_
              repeat (go_big_quiet_step (((first | (go_at_call 10; (first | (with_reducible exact Calls.below_of (cVA _)) | (with_reducible exact Calls.below_of (cVN _)))) | (go_at_call 11; with_reducible exact Calls.below_of (cNx _))))))
              refine wpQuiet_nil ?_
              intro wx hw'
              obtain ⟨⟨wx', hbx⟩, hw''⟩ := hw'
              subst hw''
              go_wp2_with fail
              go_meet
              exact ⟨by rw [HTS.out], hbx⟩
            case rest =>
            obtain ⟨rfl, hb6⟩ := hcut
            replace hbr2 := hbr2.trans (hb6.mono hbr2.size)
            replace dA := At.below' hb6 dA
            generalize wc = w7 at *
            clear hb6 dN cVA cVN cNx HTS okN
            go_wp2_with fail
            have hns7 : ∀ q, q < m → ∃ n, w7.cell? ⟨g, q, none⟩ = some (.int .i64 n) := fun q hq => by
              obtain ⟨n, hn'⟩ := hns2 q hq
              exact ⟨n, (hbr2.cell (p := ⟨g, q, none⟩) (World.block_lt_of_cell? w2 _ hn')).trans hn'⟩
            go_loopw [11] (fun v wr => RelMk m w7 v wr) (fun v _ => m - (intOf v).toNat)
            case atStart => exact ⟨0, by omega, rfl, Below.refl _ _⟩
            case round =>
              obtain ⟨q, hq, rfl, hbq⟩ := hrel
              by_cases hqm : q < m ∧ q < 16
              · obtain ⟨hq1, hq2⟩ := hqm
                obtain ⟨n, hcn0⟩ := hns7 q hq1
                have cq := (hbq.cell (p := ⟨g, q, none⟩) (World.block_lt_of_cell? w7 _ hcn0)).trans hcn0
                have hq3 : (q : Int) < (m : Int) := by omega
                have hq4 : (q : Int) < 16 := by omega
                have hq5 : (0 : Int) ≤ (q : Int) := by omega
                clear hcn0 hns2 hns7
                skip
                by_cases hN : isN n (W : Int)
                · obtain ⟨nn, rfl, hnn⟩ := nat_isN hN
                  have ok1 := one_ok hW hnn
                  have hm1 : mayB (W : Nat) false (nn : Nat) (nn : Nat) (0 : Nat) (nn : Nat) = true := ok_may ok1 (fun h => by cases h)
                  have cONE := fun w => One_yes (W : Int) (nn : Int) hWi hN w
                  have cNum := fun w => rNumber_yes (nn : Int) (W : Int) hWi hN w
                  have cOnly := fun w => rOnly_v W false nn nn 0 nn ok1 w
                  have cV1 : ∀ w, Calls Try.prog 10 #[valV W false nn nn 0 nn] w (fun e w' => e = .returned (.bool true) ∧ Below w.heap.size w w') := fun w => by have h := rVal_any (W : Int) false (nn : Int) (nn : Int) (0 : Int) (nn : Int) w; have hm1' : mayB (W : Int) false (nn : Int) (nn : Int) (0 : Int) (nn : Int) = true := hm1; rw [hm1'] at h; exact h
                  have cH : ∀ w, Calls Try.prog 15 #[valV W false 0 TT TT 0, .int .i64 nn] w (fun e w' => e = .returned (.bool true) ∧ Below w.heap.size w w') := fun w => by have h := rHas_any W 0 TT TT 0 nn okA.setOk (by omega) w; rw [hasAll okA hT hnn] at h; exact h
                  go_wp2_with fail
                  refine (cONE _).mono ?_
                  rintro e w8 ⟨rfl, hb8⟩
                  replace hbq := hbq.trans (hb8.mono hbq.size)
                  have dV := At.new w8 #[.int .i64 W, .bool false, .int .i64 nn, .int .i64 nn, .int .i64 0, .int .i64 nn] 28
                  have hbV := hbq.alloc hbq.size (.cells #[.int .i64 W, .bool false, .int .i64 nn, .int .i64 nn, .int .i64 0, .int .i64 nn] 28)
                  have cq8 := cell_below cq hb8
                  have cq9 := cell_alloc cq8 (.cells #[.int .i64 W, .bool false, .int .i64 nn, .int .i64 nn, .int .i64 0, .int .i64 nn] 28)
                  obtain ⟨BV, hBV⟩ : ∃ BV, BV = w8.heap.size := ⟨_, rfl⟩
                  rw [← hBV] at dV
                  clear cq cq8 hb8 hbq cONE
                  skip
                  go_upto_region 27 with ((first | (go_at_call 8; (with_reducible refine (cI _).mono ?_); rintro e w' ⟨rfl, rfl⟩) | (go_at_call 13; (with_reducible refine (cNum _).mono ?_); rintro e w' ⟨rfl, rfl⟩) | (go_at_call 9; refine (num_any _ _).mono ?_; rintro e w' ⟨rfl, rfl⟩)))
                  rw [← hBV]
                  clear hBV
                  generalize w8.alloc (.cells #[.int .i64 W, .bool false, .int .i64 nn, .int .i64 nn, .int .i64 0, .int .i64 nn] 28) = w9 at *
                  have v0 : w9.cell? ⟨BV, 0, none⟩ = some (.int .i64 W) := dV.cell 0 rfl
                  have v1 : w9.cell? ⟨BV, 1, none⟩ = some (.bool false) := dV.cell 1 rfl
                  have v2 : w9.cell? ⟨BV, 2, none⟩ = some (.int .i64 nn) := dV.cell 2 rfl
                  have v3 : w9.cell? ⟨BV, 3, none⟩ = some (.int .i64 nn) := dV.cell 3 rfl
                  have v4 : w9.cell? ⟨BV, 4, none⟩ = some (.int .i64 0) := dV.cell 4 rfl
                  have v5 : w9.cell? ⟨BV, 5, none⟩ = some (.int .i64 nn) := dV.cell 5 rfl
                  go_wp2_with fail
                  refine (cOnly _).mono ?_
                  rintro e wA ⟨x, is, hres, rfl, hbA⟩
                  obtain ⟨rfl, rfl⟩ := only_one hnn hres
                  replace hbV := hbV.trans (hbA.mono hbV.size)
                  replace dV := At.below' hbA dV
                  replace cq9 := cell_below cq9 hbA
                  have dAA := At.below' hbV dA
                  clear v0 v1 v2 v3 v4 v5 hbA cOnly hres
                  go_upto_region 28 with (fail)
                  go_cut [163] from 134 to 163 (fun v163 wx => v163 = .bool false ∧ Below wA.heap.size wA wx)
                  case first =>
                    have hv0 := fun p : BelowBy wA => p.cell (dV.cell 0 rfl : wA.cell? ⟨BV, 0, none⟩ = some (.int .i64 W))
                    have hv1 := fun p : BelowBy wA => p.cell (dV.cell 1 rfl : wA.cell? ⟨BV, 1, none⟩ = some (.bool false))
                    have hv2 := fun p : BelowBy wA => p.cell (dV.cell 2 rfl : wA.cell? ⟨BV, 2, none⟩ = some (.int .i64 nn))
                    have hv3 := fun p : BelowBy wA => p.cell (dV.cell 3 rfl : wA.cell? ⟨BV, 3, none⟩ = some (.int .i64 nn))
                    have hv4 := fun p : BelowBy wA => p.cell (dV.cell 4 rfl : wA.cell? ⟨BV, 4, none⟩ = some (.int .i64 0))
                    have hv5 := fun p : BelowBy wA => p.cell (dV.cell 5 rfl : wA.cell? ⟨BV, 5, none⟩ = some (.int .i64 nn))
                    have ha0 := fun p : BelowBy wA => p.cell (dAA.cell 0 rfl : wA.cell? ⟨BA, 0, none⟩ = some (.int .i64 W))
                    have ha1 := fun p : BelowBy wA => p.cell (dAA.cell 1 rfl : wA.cell? ⟨BA, 1, none⟩ = some (.bool false))
                    have ha2 := fun p : BelowBy wA => p.cell (dAA.cell 2 rfl : wA.cell? ⟨BA, 2, none⟩ = some (.int .i64 0))
                    have ha3 := fun p : BelowBy wA => p.cell (dAA.cell 3 rfl : wA.cell? ⟨BA, 3, none⟩ = some (.int .i64 TT))
                    have ha4 := fun p : BelowBy wA => p.cell (dAA.cell 4 rfl : wA.cell? ⟨BA, 4, none⟩ = some (.int .i64 TT))
                    have ha5 := fun p : BelowBy wA => p.cell (dAA.cell 5 rfl : wA.cell? ⟨BA, 5, none⟩ = some (.int .i64 0))
                    have hcq := fun p : BelowBy wA => p.cell cq9
                    clear dV dAA dA cq9 hbV hb2 okA ok1 hm1
                    refine wp_region_quiet_below (by kernel_rfl) (by kernel_rfl) ?_
                    repeat (go_big_quiet_step (((first | (go_at_call 10; with_reducible exact Calls.below_of (cV1 _)) | (go_at_call 15; with_reducible exact Calls.below_of (cH _))))))
                    refine wpQuiet_nil ?_
                    intro wx hw'
                    obtain ⟨⟨wx', hbx⟩, hw''⟩ := hw'
                    subst hw''
                    go_wp2_with fail
                    go_meet
                    exact ⟨rfl, hbx⟩
                  case rest =>
                  obtain ⟨rfl, hbB⟩ := hcut
                  have hbZ := hbV.trans (hbB.mono hbV.size)
                  clear hbV hbB dV dAA dA cq9
                  go_wp2_with fail
                  go_roundw
                  case rel => exact ⟨q + 1, by omega, by go_num, hbZ⟩
                  case measure => simp [intOf]; omega
                · clear dA
                  have cONE := fun w => One_no (W : Int) n (fun h => hN h.2) w
                  have cNum := fun w => rNumber_no n (W : Int) hWi hN w
                  go_wp2_with fail
                  refine (cONE _).mono ?_
                  rintro e w8 ⟨rfl, hb8⟩
                  replace hbq := hbq.trans (hb8.mono hbq.size)
                  have dV := At.new w8 #[.int .i64 0, .bool false, .int .i64 0, .int .i64 0, .int .i64 0, .int .i64 0] 28
                  have hbV := hbq.alloc hbq.size (.cells #[.int .i64 0, .bool false, .int .i64 0, .int .i64 0, .int .i64 0, .int .i64 0] 28)
                  have cq8 := cell_below cq (hb8)
                  have cq9 := cell_alloc cq8 (.cells #[.int .i64 0, .bool false, .int .i64 0, .int .i64 0, .int .i64 0, .int .i64 0] 28)
                  clear cq cq8 hb8 hbq cONE
                  have z0 : (w8.alloc (.cells #[.int .i64 0, .bool false, .int .i64 0, .int .i64 0, .int .i64 0, .int .i64 0] 28)).cell? ⟨w8.heap.size, 0, none⟩ = some (.int .i64 0) := dV.cell 0 rfl
                  have z1 : (w8.alloc (.cells #[.int .i64 0, .bool false, .int .i64 0, .int .i64 0, .int .i64 0, .int .i64 0] 28)).cell? ⟨w8.heap.size, 1, none⟩ = some (.bool false) := dV.cell 1 rfl
                  have z2 : (w8.alloc (.cells #[.int .i64 0, .bool false, .int .i64 0, .int .i64 0, .int .i64 0, .int .i64 0] 28)).cell? ⟨w8.heap.size, 2, none⟩ = some (.int .i64 0) := dV.cell 2 rfl
                  have z3 : (w8.alloc (.cells #[.int .i64 0, .bool false, .int .i64 0, .int .i64 0, .int .i64 0, .int .i64 0] 28)).cell? ⟨w8.heap.size, 3, none⟩ = some (.int .i64 0) := dV.cell 3 rfl
                  have z4 : (w8.alloc (.cells #[.int .i64 0, .bool false, .int .i64 0, .int .i64 0, .int .i64 0, .int .i64 0] 28)).cell? ⟨w8.heap.size, 4, none⟩ = some (.int .i64 0) := dV.cell 4 rfl
                  have z5 : (w8.alloc (.cells #[.int .i64 0, .bool false, .int .i64 0, .int .i64 0, .int .i64 0, .int .i64 0] 28)).cell? ⟨w8.heap.size, 5, none⟩ = some (.int .i64 0) := dV.cell 5 rfl
                  clear dV
                  go_wp2_with ((first | (go_at_call 8; (with_reducible refine (cI _).mono ?_); rintro e w' ⟨rfl, rfl⟩) | (go_at_call 13; (with_reducible refine (cNum _).mono ?_); rintro e w' ⟨rfl, rfl⟩) | (go_at_call 9; refine (num_any _ _).mono ?_; rintro e w' ⟨rfl, rfl⟩)))
                  go_roundw
                  case rel => exact ⟨q + 1, by omega, by go_num, hbV⟩
                  case measure => simp [intOf]; omega
              · have hbO := hbr2.trans (hbq.mono hbr2.size)
                clear hns2 hns7
                by_cases hq1 : q < m
                · have hq3 : (q : Int) < (m : Int) := by omega
                  have hq4 : decide ((q : Int) < 16) = false := by simp; omega
                  go_wp2_with fail
                  go_roundw
                  case rel => exact ⟨k + 1, by omega, by go_num, hbO⟩
                  case measure => simp [intOf]; omega
                · have hq3 : decide ((q : Int) < (m : Int)) = false := by simp; omega
                  go_wp2_with fail
                  go_roundw
                  case rel => exact ⟨k + 1, by omega, by go_num, hbO⟩
                  case measure => simp [intOf]; omega
          · have hnW : ¬ isW (W : Int) := by
              intro h
              unfold isW at h
              unfold isWn at hW
              omega
            have cA := fun w => All_no (W : Int) hnW w
            have cO := fun w => No_no (W : Int) hnW w
            have cI := fun w => rIsWidth_no (W : Int) hnW w
            have c1 := fun n w => One_no (W : Int) n (fun h => hnW h.1) w
            clear hW hWW
            go_wp2_with fail
            refine (cA _).mono ?_
            rintro e w3 ⟨rfl, hb3⟩
            replace hbr2 := (hbr2.trans (hb3.mono hbr2.size)).alloc (hbr2.trans (hb3.mono hbr2.size)).size (.cells #[.int .i64 0, .bool false, .int .i64 0, .int .i64 0, .int .i64 0, .int .i64 0] 28)
            clear hb3 cA
            go_wp2_with fail
            generalize w3.alloc (.cells #[.int .i64 0, .bool false, .int .i64 0, .int .i64 0, .int .i64 0, .int .i64 0] 28) = w4 at *
            refine (cO _).mono ?_
            rintro e w5 ⟨rfl, hb5⟩
            replace hbr2 := (hbr2.trans (hb5.mono hbr2.size)).alloc (hbr2.trans (hb5.mono hbr2.size)).size (.cells #[.int .i64 0, .bool false, .int .i64 0, .int .i64 0, .int .i64 0, .int .i64 0] 28)
            clear hb5 cO
            go_upto_region 15 with ((first | (go_at_call 8; (with_reducible refine (cI _).mono ?_); rintro e w' ⟨rfl, rfl⟩) | (go_at_call 9; refine (num_any _ _).mono ?_; rintro e w' ⟨rfl, rfl⟩)))
            generalize w5.alloc (.cells #[.int .i64 0, .bool false, .int .i64 0, .int .i64 0, .int .i64 0, .int .i64 0] 28) = w6 at *
            skip
            go_cut [93] from 53 to 93 (fun v93 wx => v93 = .bool false ∧ Below w6.heap.size w6 wx)
            case first =>
              clear hbr2 hns2 hb2 hv hn
              refine wp_region_quiet_below (by kernel_rfl) (by kernel_rfl) ?_
              repeat (go_big_quiet_step (fail))
              refine wpQuiet_nil ?_
              intro wx hw'
              obtain ⟨⟨wx', hbx⟩, hw''⟩ := hw'
              subst hw''
              go_wp2_with fail
              go_meet
              exact ⟨rfl, hbx⟩
            case rest =>
            obtain ⟨rfl, hb6⟩ := hcut
            replace hbr2 := hbr2.trans (hb6.mono hbr2.size)
            generalize wc = w7 at *
            clear hb6
            go_wp2_with fail
            have hns7 : ∀ q, q < m → ∃ n, w7.cell? ⟨g, q, none⟩ = some (.int .i64 n) := fun q hq => by
              obtain ⟨n, hn'⟩ := hns2 q hq
              exact ⟨n, (hbr2.cell (p := ⟨g, q, none⟩) (World.block_lt_of_cell? w2 _ hn')).trans hn'⟩
            go_loopw [11] (fun v wr => RelMk m w7 v wr) (fun v _ => m - (intOf v).toNat)
            case atStart => exact ⟨0, by omega, rfl, Below.refl _ _⟩
            case round =>
              obtain ⟨q, hq, rfl, hbq⟩ := hrel
              by_cases hqm : q < m ∧ q < 16
              · obtain ⟨hq1, hq2⟩ := hqm
                obtain ⟨n, hcn0⟩ := hns7 q hq1
                have cq := (hbq.cell (p := ⟨g, q, none⟩) (World.block_lt_of_cell? w7 _ hcn0)).trans hcn0
                have hq3 : (q : Int) < (m : Int) := by omega
                have hq4 : (q : Int) < 16 := by omega
                have hq5 : (0 : Int) ≤ (q : Int) := by omega
                clear hcn0 hns2 hns7
                have cONE := c1 n
                clear c1
                go_wp2_with fail
                refine (cONE _).mono ?_
                rintro e w8 ⟨rfl, hb8⟩
                replace hbq := hbq.trans (hb8.mono hbq.size)
                have dV := At.new w8 #[.int .i64 0, .bool false, .int .i64 0, .int .i64 0, .int .i64 0, .int .i64 0] 28
                have hbV := hbq.alloc hbq.size (.cells #[.int .i64 0, .bool false, .int .i64 0, .int .i64 0, .int .i64 0, .int .i64 0] 28)
                have cq8 := cell_below cq (hb8)
                have cq9 := cell_alloc cq8 (.cells #[.int .i64 0, .bool false, .int .i64 0, .int .i64 0, .int .i64 0, .int .i64 0] 28)
                clear cq cq8 hb8 hbq cONE
                have z0 : (w8.alloc (.cells #[.int .i64 0, .bool false, .int .i64 0, .int .i64 0, .int .i64 0, .int .i64 0] 28)).cell? ⟨w8.heap.size, 0, none⟩ = some (.int .i64 0) := dV.cell 0 rfl
                have z1 : (w8.alloc (.cells #[.int .i64 0, .bool false, .int .i64 0, .int .i64 0, .int .i64 0, .int .i64 0] 28)).cell? ⟨w8.heap.size, 1, none⟩ = some (.bool false) := dV.cell 1 rfl
                have z2 : (w8.alloc (.cells #[.int .i64 0, .bool false, .int .i64 0, .int .i64 0, .int .i64 0, .int .i64 0] 28)).cell? ⟨w8.heap.size, 2, none⟩ = some (.int .i64 0) := dV.cell 2 rfl
                have z3 : (w8.alloc (.cells #[.int .i64 0, .bool false, .int .i64 0, .int .i64 0, .int .i64 0, .int .i64 0] 28)).cell? ⟨w8.heap.size, 3, none⟩ = some (.int .i64 0) := dV.cell 3 rfl
                have z4 : (w8.alloc (.cells #[.int .i64 0, .bool false, .int .i64 0, .int .i64 0, .int .i64 0, .int .i64 0] 28)).cell? ⟨w8.heap.size, 4, none⟩ = some (.int .i64 0) := dV.cell 4 rfl
                have z5 : (w8.alloc (.cells #[.int .i64 0, .bool false, .int .i64 0, .int .i64 0, .int .i64 0, .int .i64 0] 28)).cell? ⟨w8.heap.size, 5, none⟩ = some (.int .i64 0) := dV.cell 5 rfl
                clear dV
                go_wp2_with ((first | (go_at_call 8; (with_reducible refine (cI _).mono ?_); rintro e w' ⟨rfl, rfl⟩) | (go_at_call 9; refine (num_any _ _).mono ?_; rintro e w' ⟨rfl, rfl⟩)))
                go_roundw
                case rel => exact ⟨q + 1, by omega, by go_num, hbV⟩
                case measure => simp [intOf]; omega
              · have hbO := hbr2.trans (hbq.mono hbr2.size)
                clear hns2 hns7
                by_cases hq1 : q < m
                · have hq3 : (q : Int) < (m : Int) := by omega
                  have hq4 : decide ((q : Int) < 16) = false := by simp; omega
                  go_wp2_with fail
                  go_roundw
                  case rel => exact ⟨k + 1, by omega, by go_num, hbO⟩
                  case measure => simp [intOf]; omega
                · have hq3 : decide ((q : Int) < (m : Int)) = false := by simp; omega
                  go_wp2_with fail
                  go_roundw
                  case rel => exact ⟨k + 1, by omega, by go_num, hbO⟩
                  case measure => simp [intOf]; omega
        · have hkl1 : decide ((k : Int) < 5) = false := by simp; omega
          have hbO : Below w.heap.size w wr := hb2.trans (hbr.mono hb2.size)
          go_wp2_with fail
          refine (cW _).mono ?_
          rintro e wZ ⟨rfl, hbZ⟩
          go_wp2_with fail
          go_ret
          exact ⟨rfl, hbO.trans (hbZ.mono hbO.size)⟩
  · clear hle d0
    go_wp2_with fail
    go_ret
    exact ⟨rfl, hb0⟩
end Go.Proofs.Ytgedkebinidmkaa
