/- The statements of package mem: what is played. -/
import Derived.Test.YtnhbaigagphpmaaKIn
namespace Go.Proofs.Ytnhbaigagphpmaa
open Go.ChangeShapes Go.WideShapes Go.ChangeAt Go.RowKit Go.Joins Go.Deep
set_option linter.unusedVariables false

def WeighP (x : MM) (w : World) (e : Ending) (w' : World) : Prop := ∃ n : Nat, e = .returned (.int .i64 (n : Nat)) ∧ n ≤ 281474976710656 ∧ (n < 1048576 → LeMem n x) ∧ w = w'
def RelWe (x : MM) (v3 v4 : Value) : Prop := ∃ n j : Nat, v3 = .int .i64 (n : Nat) ∧ v4 = .int .i64 (j : Nat) ∧ j ≤ x.m.length ∧ x.m.length ≤ n ∧ n ≤ 281474976710656 ∧ ∀ i, i < j → (x.m.getD i default).ys.length ≤ n
set_option maxHeartbeats 1600000 in
theorem weigh_any (x : MM) (w : World) (h : InMem w x) (hl : LeMem 140737488355328 x) :
    Calls Try.prog 40 #[.slice x.q x.m.length x.c] w (WeighP x w) := by
  obtain ⟨h1, h2, hc⟩ := h
  have hlm := hl.1
  go_enter Try.func40, Try.ntmps40
  go_wp2
  go_loop [3, 4] (fun v3 v4 => RelWe x v3 v4) (fun _ v4 => x.m.length - (intOf v4).toNat)
  case atStart => exact ⟨x.m.length, 0, rfl, rfl, Nat.zero_le _, Nat.le_refl _, by omega, fun i hi => absurd hi (Nat.not_lt_zero _)⟩
  case round =>
    obtain ⟨n, j, rfl, rfl, hj, hn1, hn2, hle⟩ := hrel
    by_cases hlt : j < x.m.length
    · by_cases hn : n < 1048576
      · obtain ⟨b, off, hq, hb, hcells⟩ := hc (by omega)
        obtain ⟨c0, c1, _⟩ := hcells j hlt
        have hyj := hl.2 j hlt
        have HLE := Lib.hid hle
        have hq' := hq
        generalize x.q = q at *
        subst hq'
        generalize hL : (x.m.getD j default).ys.length = L at *
        have HL := Lib.hid hL
        have hj3 : (j : Int) < (x.m.length : Int) := by omega
        have hn3 : (n : Int) < 1048576 := by omega
        generalize hML : x.m.length = ML at *
        have HML := Lib.hid hML
        clear hcells hc hle hL hML hq hl h2
        go_wp2
        go_round
        case rel => exact ⟨n + L, j + 1, by go_num, by go_num, by rw [HML.out]; omega, by rw [HML.out]; omega, by omega, fun i hi => by
          by_cases e : i = j
          · subst e; rw [HL.out]; omega
          · have := HLE.out i (by omega); omega⟩
        case measure => simp [intOf]; omega
      · have tn : decide ((n : Int) < 1048576) = false := by simp; omega
        have hj3 : (j : Int) < (x.m.length : Int) := by omega
        have fin : WeighP x w (.returned (.int .i64 (n : Nat))) w := ⟨n, rfl, hn2, fun h => absurd h hn, rfl⟩
        generalize x.m.length = ML at *
        clear hle hc hl h2
        go_wp2
        go_ret
        exact fin
    · have tj : decide ((j : Int) < (x.m.length : Int)) = false := by simp; omega
      have fin : WeighP x w (.returned (.int .i64 (n : Nat))) w := ⟨n, rfl, hn2, fun _ => ⟨hn1, fun i hi => hle i (by omega)⟩, rfl⟩
      have hlt2 : ¬ j < x.m.length := hlt
      generalize x.m.length = ML at *
      clear hle hc hl h2
      go_wp2
      go_ret
      exact fin
def Heavy9P (ls ln la lm : Nat) (ms : List MM) (w : World) (e : Ending) (w' : World) : Prop :=
  ∃ hv : Bool, e = .returned (.bool hv) ∧ (hv = false → ls + ln + la ≤ 700 ∧ ∀ i, i < lm → LeMem 700 (ms.getD i default)) ∧ Below w.heap.size w w'
def RelHv (ls ln la lm : Nat) (ms : List MM) (w0 : World) (v3 v4 : Value) (wr : World) : Prop := ∃ n j : Nat, v3 = .int .i64 (n : Nat) ∧ v4 = .int .i64 (j : Nat) ∧ j ≤ lm ∧ ls + ln + la ≤ n ∧ n ≤ 2251799813685248 ∧ (n < 1048576 → ∀ i, i < j → LeMem n (ms.getD i default)) ∧ w0 = wr
theorem LeMem.mono {a b : Nat} {x : MM} (h : LeMem a x) (hab : a ≤ b) : LeMem b x := ⟨Nat.le_trans h.1 hab, fun i hi => Nat.le_trans (h.2 i hi) hab⟩
set_option maxRecDepth 100000 in
set_option maxHeartbeats 3200000 in
theorem heavy9_any (pm ps pn pa : Option Addr) (lm cm ls cs ln cn la ca : Nat) (ms : List MM) (h2 : ls ≤ 140737488355328) (h3 : ln ≤ 140737488355328) (h4 : la ≤ 140737488355328) (h5 : lm ≤ 140737488355328) (w : World) (hin : InMems w pm lm ms) (hle : ∀ i, i < lm → LeMem 140737488355328 (ms.getD i default)) :
    Calls Try.prog 18 #[.agg #[.slice pm lm cm, .slice ps ls cs, .slice pn ln cn, .slice pa la ca]] w (Heavy9P ls ln la lm ms w) := by
  have hb := below_box1 w (.cells #[.slice pm lm cm, .slice ps ls cs, .slice pn ln cn, .slice pa la ca] 51)
  have hin2 := hin.below hb
  have dK := At.new w #[.slice pm lm cm, .slice ps ls cs, .slice pn ln cn, .slice pa la ca] 51
  have cW := fun x w h hl => weigh_any x w h hl
  have HIN := Lib.hid hin2
  have HLE := Lib.hid hle
  clear hin hle hin2
  go_enter Try.func18, Try.ntmps18
  go_wp2
  generalize w.alloc (.cells #[.slice pm lm cm, .slice ps ls cs, .slice pn ln cn, .slice pa la ca] 51) = w1 at *
  have k0 : w1.cell? ⟨w.heap.size, 0, none⟩ = some (.slice pm lm cm) := dK.cell 0 rfl
  go_loopw [3, 4] (fun v3 v4 wr => RelHv ls ln la lm ms w1 v3 v4 wr) (fun _ v4 _ => lm - (intOf v4).toNat)
  case atStart => exact ⟨ls + ln + la, 0, by go_num, rfl, Nat.zero_le _, Nat.le_refl _, by omega, fun _ i hi => absurd hi (Nat.not_lt_zero _), rfl⟩
  case round =>
    obtain ⟨n, j, rfl, rfl, hj, hn1, hn2, hh, rfl⟩ := hrel
    by_cases hlt : j < lm
    · by_cases hn : n < 1048576
      · obtain ⟨b, off, rfl, hb2, hcells⟩ := HIN.out.2 (by omega)
        obtain ⟨c0, hxm⟩ := hcells j hlt
        have hlx := HLE.out j hlt
        have HH := Lib.hid (hh hn)
        generalize hX : ms.getD j default = x at *
        have HX := Lib.hid hX
        have cX := cW x w1 hxm hlx
        have hj3 : (j : Int) < (lm : Int) := by omega
        have hn3 : (n : Int) < 1048576 := by omega
        have HXM := Lib.hid hxm
        have HLX := Lib.hid hlx
        clear hcells hh hX hxm hlx cW
        generalize hQ : x.m.length = ML at *
        generalize hQ2 : x.q = xq at *
        generalize hQ3 : x.c = xc at *
        clear hQ hQ2 hQ3
        go_wp2_with fail
        refine cX.mono ?_
        rintro e w2 ⟨n2, rfl, hn4, hn5, rfl⟩
        have HN5 := Lib.hid hn5
        clear hn5 cX
        go_wp2
        go_roundw
        case rel => exact ⟨n + n2, j + 1, by go_num, by go_num, by omega, by omega, by omega, (fun hs i hi => by
          by_cases e : i = j
          · subst e; rw [HX.out]; exact (HN5.out (by omega)).mono (by omega)
          · exact (HH.out i (by omega)).mono (by omega)), rfl⟩
        case measure => simp [intOf]; omega
      · have tn : decide ((n : Int) < 1048576) = false := by simp; omega
        have t7 : (700 : Int) < (n : Int) := by omega
        have hj3 : (j : Int) < (lm : Int) := by omega
        have fin : Heavy9P ls ln la lm ms w (.returned (.bool true)) w1 := ⟨true, rfl, (fun h => by cases h), hb⟩
        clear hh cW
        go_wp2
        go_ret
        exact fin
    · obtain rfl : j = lm := by omega
      have fin : ∀ hv, (hv = false → n ≤ 700) → Heavy9P ls ln la j ms w (.returned (.bool hv)) w1 := fun hv h7 => ⟨hv, rfl, fun h0 => ⟨by have := h7 h0; omega, fun i hi => (hh (by have := h7 h0; omega) i hi).mono (h7 h0)⟩, hb⟩
      clear hh cW
      by_cases h7 : n ≤ 700
      · have t7 : decide ((700 : Int) < (n : Int)) = false := by simp; omega
        have fin2 := fin false (fun _ => h7)
        clear fin
        go_wp2
        go_ret
        exact fin2
      · have t7 : (700 : Int) < (n : Int) := by omega
        have fin2 := fin true (fun h => by cases h)
        clear fin
        go_wp2
        go_ret
        exact fin2
end Go.Proofs.Ytnhbaigagphpmaa
