/- LexKeywords: the statement's walk. -/
import Derived.Test.YtkpiaenpjnajiaaGreatDoorLToks
import Derived.Deep.Cut
import Derived.Deep.CutRange
namespace Go.Proofs.YtkpiaenpjnajiaaGreatDoor
open Go.ChangeShapes Go.WideShapes Go.ChangeAt Go.RowKit Go.Joins Go.Deep
set_option linter.unusedVariables false

def kwTexts : List ByteArray := [⟨#[118, 97, 114]⟩, ⟨#[115, 116, 114, 117, 99, 116]⟩, ⟨#[117, 110, 105, 111, 110]⟩, ⟨#[105, 102]⟩, ⟨#[101, 108, 115, 101]⟩, ⟨#[119, 104, 105, 108, 101]⟩, ⟨#[114, 101, 97, 100]⟩, ⟨#[110, 101, 119]⟩, ⟨#[102, 114, 101, 101]⟩, ⟨#[115, 116, 111, 112]⟩, ⟨#[117, 56]⟩, ⟨#[105, 56]⟩, ⟨#[117, 49, 54]⟩, ⟨#[105, 49, 54]⟩, ⟨#[117, 51, 50]⟩, ⟨#[105, 51, 50]⟩, ⟨#[112, 116, 114]⟩, ⟨#[117, 57]⟩, ⟨#[105, 102, 115]⟩, ⟨#[]⟩, ⟨#[86, 97, 114]⟩, ⟨#[61]⟩, ⟨#[61, 61]⟩, ⟨#[61, 61, 61]⟩, ⟨#[60]⟩, ⟨#[60, 60]⟩, ⟨#[60, 60, 60]⟩, ⟨#[62, 62]⟩, ⟨#[62]⟩, ⟨#[62, 62, 62]⟩, ⟨#[48]⟩, ⟨#[48, 48]⟩, ⟨#[57, 57, 57, 57, 57, 57, 57, 57, 57, 57]⟩, ⟨#[49, 48, 48, 48, 48, 48, 48, 48, 48, 48, 48]⟩, ⟨#[97, 98, 99, 100, 101, 102, 103, 104]⟩, ⟨#[97, 98, 99, 100, 101, 102, 103, 104, 105]⟩, ⟨#[97, 49]⟩, ⟨#[49, 97]⟩, ⟨#[35]⟩, ⟨#[35, 32, 120]⟩, ⟨#[120, 32, 35]⟩, ⟨#[13]⟩, ⟨#[11]⟩]
def kwCells : Array Value := #[.string ⟨#[118, 97, 114]⟩, .string ⟨#[115, 116, 114, 117, 99, 116]⟩, .string ⟨#[117, 110, 105, 111, 110]⟩, .string ⟨#[105, 102]⟩, .string ⟨#[101, 108, 115, 101]⟩, .string ⟨#[119, 104, 105, 108, 101]⟩, .string ⟨#[114, 101, 97, 100]⟩, .string ⟨#[110, 101, 119]⟩, .string ⟨#[102, 114, 101, 101]⟩, .string ⟨#[115, 116, 111, 112]⟩, .string ⟨#[117, 56]⟩, .string ⟨#[105, 56]⟩, .string ⟨#[117, 49, 54]⟩, .string ⟨#[105, 49, 54]⟩, .string ⟨#[117, 51, 50]⟩, .string ⟨#[105, 51, 50]⟩, .string ⟨#[112, 116, 114]⟩, .string ⟨#[117, 57]⟩, .string ⟨#[105, 102, 115]⟩, .string ⟨#[]⟩, .string ⟨#[86, 97, 114]⟩, .string ⟨#[61]⟩, .string ⟨#[61, 61]⟩, .string ⟨#[61, 61, 61]⟩, .string ⟨#[60]⟩, .string ⟨#[60, 60]⟩, .string ⟨#[60, 60, 60]⟩, .string ⟨#[62, 62]⟩, .string ⟨#[62]⟩, .string ⟨#[62, 62, 62]⟩, .string ⟨#[48]⟩, .string ⟨#[48, 48]⟩, .string ⟨#[57, 57, 57, 57, 57, 57, 57, 57, 57, 57]⟩, .string ⟨#[49, 48, 48, 48, 48, 48, 48, 48, 48, 48, 48]⟩, .string ⟨#[97, 98, 99, 100, 101, 102, 103, 104]⟩, .string ⟨#[97, 98, 99, 100, 101, 102, 103, 104, 105]⟩, .string ⟨#[97, 49]⟩, .string ⟨#[49, 97]⟩, .string ⟨#[35]⟩, .string ⟨#[35, 32, 120]⟩, .string ⟨#[120, 32, 35]⟩, .string ⟨#[13]⟩, .string ⟨#[11]⟩]
theorem kw_cell (i : Nat) (h : i < 43) : kwCells[i]? = some (.string (kwTexts.getD i ⟨#[]⟩)) := by
  match i, h with
  | 0, _ => rfl
  | 1, _ => rfl
  | 2, _ => rfl
  | 3, _ => rfl
  | 4, _ => rfl
  | 5, _ => rfl
  | 6, _ => rfl
  | 7, _ => rfl
  | 8, _ => rfl
  | 9, _ => rfl
  | 10, _ => rfl
  | 11, _ => rfl
  | 12, _ => rfl
  | 13, _ => rfl
  | 14, _ => rfl
  | 15, _ => rfl
  | 16, _ => rfl
  | 17, _ => rfl
  | 18, _ => rfl
  | 19, _ => rfl
  | 20, _ => rfl
  | 21, _ => rfl
  | 22, _ => rfl
  | 23, _ => rfl
  | 24, _ => rfl
  | 25, _ => rfl
  | 26, _ => rfl
  | 27, _ => rfl
  | 28, _ => rfl
  | 29, _ => rfl
  | 30, _ => rfl
  | 31, _ => rfl
  | 32, _ => rfl
  | 33, _ => rfl
  | 34, _ => rfl
  | 35, _ => rfl
  | 36, _ => rfl
  | 37, _ => rfl
  | 38, _ => rfl
  | 39, _ => rfl
  | 40, _ => rfl
  | 41, _ => rfl
  | 42, _ => rfl
  | m + 43, h => exact absurd h (by omega)
theorem kw_size (i : Nat) (h : i < 43) : (kwTexts.getD i ⟨#[]⟩).size ≤ 100 := by
  match i, h with
  | 0, _ => decide
  | 1, _ => decide
  | 2, _ => decide
  | 3, _ => decide
  | 4, _ => decide
  | 5, _ => decide
  | 6, _ => decide
  | 7, _ => decide
  | 8, _ => decide
  | 9, _ => decide
  | 10, _ => decide
  | 11, _ => decide
  | 12, _ => decide
  | 13, _ => decide
  | 14, _ => decide
  | 15, _ => decide
  | 16, _ => decide
  | 17, _ => decide
  | 18, _ => decide
  | 19, _ => decide
  | 20, _ => decide
  | 21, _ => decide
  | 22, _ => decide
  | 23, _ => decide
  | 24, _ => decide
  | 25, _ => decide
  | 26, _ => decide
  | 27, _ => decide
  | 28, _ => decide
  | 29, _ => decide
  | 30, _ => decide
  | 31, _ => decide
  | 32, _ => decide
  | 33, _ => decide
  | 34, _ => decide
  | 35, _ => decide
  | 36, _ => decide
  | 37, _ => decide
  | 38, _ => decide
  | 39, _ => decide
  | 40, _ => decide
  | 41, _ => decide
  | 42, _ => decide
  | m + 43, h => exact absurd h (by omega)
set_option maxRecDepth 100000 in
set_option maxHeartbeats 3200000 in
theorem lexkw_any (pS pN : Option Addr) (lS cS lN cN : Nat) (w : World) :
    Calls Tryz.prog 5 #[.agg #[.slice pS lS cS, .slice pN lN cN]] w fun e w' => e = .returned (.bool true) ∧ Below w.heap.size w w' := by
  have cWk := wakes_any
  have hA0 := At.new (w.alloc (.cells #[.slice pS lS cS, .slice pN lN cN] 25)) kwCells 9
  have hX0 : At ((w.alloc (.cells #[.slice pS lS cS, .slice pN lN cN] 25)).alloc (.cells kwCells 9)) w.heap.size #[.slice pS lS cS, .slice pN lN cN] 25 := (At.new w #[.slice pS lS cS, .slice pN lN cN] 25).alloc _
  have hb0 : Below w.heap.size w ((w.alloc (.cells #[.slice pS lS cS, .slice pN lN cN] 25)).alloc (.cells kwCells 9)) := ((Below.refl _ _).alloc (Nat.le_refl _) _).alloc (by simp) _
  rw [show (w.alloc (.cells #[.slice pS lS cS, .slice pN lN cN] 25)).heap.size = w.heap.size + 1 by simp] at hA0
  unfold kwCells at hA0 hX0 hb0
  have HA0 := Lib.hid hA0
  have HX0 := Lib.hid hX0
  have HB0 := Lib.hid hb0
  clear hA0 hX0 hb0
  go_enter Tryz.func5, Tryz.ntmps5
  go_wp2_with fail
  generalize (w.alloc (.cells #[.slice pS lS cS, .slice pN lN cN] 25)).alloc (.cells #[.string ⟨#[118, 97, 114]⟩, .string ⟨#[115, 116, 114, 117, 99, 116]⟩, .string ⟨#[117, 110, 105, 111, 110]⟩, .string ⟨#[105, 102]⟩, .string ⟨#[101, 108, 115, 101]⟩, .string ⟨#[119, 104, 105, 108, 101]⟩, .string ⟨#[114, 101, 97, 100]⟩, .string ⟨#[110, 101, 119]⟩, .string ⟨#[102, 114, 101, 101]⟩, .string ⟨#[115, 116, 111, 112]⟩, .string ⟨#[117, 56]⟩, .string ⟨#[105, 56]⟩, .string ⟨#[117, 49, 54]⟩, .string ⟨#[105, 49, 54]⟩, .string ⟨#[117, 51, 50]⟩, .string ⟨#[105, 51, 50]⟩, .string ⟨#[112, 116, 114]⟩, .string ⟨#[117, 57]⟩, .string ⟨#[105, 102, 115]⟩, .string ⟨#[]⟩, .string ⟨#[86, 97, 114]⟩, .string ⟨#[61]⟩, .string ⟨#[61, 61]⟩, .string ⟨#[61, 61, 61]⟩, .string ⟨#[60]⟩, .string ⟨#[60, 60]⟩, .string ⟨#[60, 60, 60]⟩, .string ⟨#[62, 62]⟩, .string ⟨#[62]⟩, .string ⟨#[62, 62, 62]⟩, .string ⟨#[48]⟩, .string ⟨#[48, 48]⟩, .string ⟨#[57, 57, 57, 57, 57, 57, 57, 57, 57, 57]⟩, .string ⟨#[49, 48, 48, 48, 48, 48, 48, 48, 48, 48, 48]⟩, .string ⟨#[97, 98, 99, 100, 101, 102, 103, 104]⟩, .string ⟨#[97, 98, 99, 100, 101, 102, 103, 104, 105]⟩, .string ⟨#[97, 49]⟩, .string ⟨#[49, 97]⟩, .string ⟨#[35]⟩, .string ⟨#[35, 32, 120]⟩, .string ⟨#[120, 32, 35]⟩, .string ⟨#[13]⟩, .string ⟨#[11]⟩] 9) = w1 at *
  go_loopw [4] (fun v wr => ∃ i : Nat, i ≤ 43 ∧ v = .int .i64 (i : Nat) ∧ At wr w.heap.size #[.slice pS lS cS, .slice pN lN cN] 25 ∧ At wr (w.heap.size + 1) kwCells 9 ∧ Below w.heap.size w wr) (fun v _ => 43 - (intOf v).toNat)
  case atStart => exact ⟨0, by omega, rfl, HX0.out, HA0.out, HB0.out⟩
  case round =>
    clear HA0 HX0 HB0
    obtain ⟨i, hi, rfl, hX, hA, hb⟩ := hrel
    by_cases hlt : i < 43
    · have u1 : decide ((i : Int) < 43) = true := by simp; omega
      have ci := hA.cell i (kw_cell i hlt)
      have hsz := kw_size i hlt
      generalize kwTexts.getD i ⟨#[]⟩ = x at *
      have cW := fun w => words_any x (by unfold maxLen; omega) w
      have cR := fun w => rWords_any x (by omega) w
      have cN := fun w => number_any x (by omega) w
      have cRN := fun w => rNumber_any x (by omega) w
      have cK := fun w => keyword_any x w
      have cRK := fun w => rKeyword_any x w
      have hTl := tellW_len x.data.toList
      have cM := fun n w => num_any n w
      unfold WordsPost at cW
      unfold RWordsPost at cR
      unfold NumPost at cN
      unfold RNumPost at cRN
      generalize tellW x.data.toList = tw at *
      generalize numV x.data.toList = nv at *
      generalize kwB x.data.toList = kb at *
      obtain ⟨nb, hnb⟩ : ∃ nb, nb = numB x.data.toList := ⟨_, rfl⟩
      rw [← hnb] at cN cRN
      obtain ⟨en, hen⟩ : ∃ en : Int, en = if nb then 0 else 1 := ⟨_, rfl⟩
      rw [← hen] at cN
      have HEN := Lib.hid hen
      clear hnb cWk hen
      obtain ⟨T, at0, er⟩ := tw
      dsimp only at cW cR hTl
      go_wp2_with fail
      refine (cW _).mono ?_
      rintro e w2 ⟨fd, rfl, hR2, hb2⟩
      have c2 := cell_below ci hb2
      have k2 := hR2.toks (by omega)
      go_wp2_with fail
      refine (cR _).mono ?_
      rintro e w3 ⟨fd2, rfl, hR3, hb3⟩
      have c3 := cell_below c2 hb3
      have k3 := k2.below hb3
      have l3 := hR3.toks (by omega)
      go_wp2_with fail
      refine (cN _).mono ?_
      rintro e w4 ⟨rfl, hb4⟩
      have c4 := cell_below c3 hb4
      have k4 := k3.below hb4
      have l4 := l3.below hb4
      go_wp2_with fail
      refine (cRN _).mono ?_
      rintro e w5 ⟨rfl, hb5⟩
      have c5 := cell_below c4 hb5
      have k5 := k4.below hb5
      have l5 := l4.below hb5
      have bT : Below wr.heap.size wr w5 := (hb2.trans (hb3.mono hb2.size)).trans ((hb4.trans (hb5.mono hb4.size)).mono (Nat.le_trans hb2.size hb3.size))
      have hX5 := At.below' bT hX
      have hA5 := At.below' bT hA
      have b5 := hb.trans (bT.mono hb.size)
      clear cW cR cN cRN c2 c3 c4 k2 k3 k4 l3 l4 hR2 hR3 hb2 hb3 hb4 hb5 hX hA hb ci bT
      have cE := fun p : BelowBy w5 => eqToks_same fd fd2 T p.world (k5.below p.below) (l5.below p.below)
      have cC := fun p : BelowBy w5 => p.cell c5
      have cx := c5
      go_upto_region 9 with (fail)
      go_cut [95] from 56 to 95 (fun v95 wx => v95 = .bool false ∧ Below w5.heap.size w5 wx)
      case first =>
        clear hX5 hA5 b5 k5 l5
        cases nb
        all_goals
          obtain rfl := HEN.out
          clear HEN
          refine wp_region_quiet_below (by kernel_rfl) (by kernel_rfl) ?_
          repeat (go_big_quiet_step ((first | (go_at_call 11; (with_reducible exact Calls.below_same (cM _ _))) | (go_at_call 12; (with_reducible exact Calls.below_of (cE _))) | (go_at_call 13; (with_reducible exact Calls.below_same (cK _))) | (go_at_call 14; (with_reducible exact Calls.below_of (cRK _))))))
          refine wpQuiet_nil ?_
          intro wx hw'
          obtain ⟨⟨wx', hbx⟩, hw''⟩ := hw'
          subst hw''
          go_wp2_with fail
          go_meet
          exact ⟨by simp, hbx⟩
      case rest =>
      obtain ⟨rfl, hb6⟩ := hcut
      have hX6 := At.below' hb6 hX5
      have hA6 := At.below' hb6 hA5
      have b6 := b5.trans (hb6.mono b5.size)
      clear hX5 hA5 b5 k5 l5 hb6 cE cC cx c5 cM cK cRK
      go_wp2_with fail
      go_roundw
      case rel => exact ⟨i + 1, by omega, by go_num, hX6, hA6, b6⟩
      case measure => simp [intOf]; omega
    · obtain rfl : i = 43 := by omega
      have x1 : wr.cell? ⟨w.heap.size, 1, none⟩ = some (.slice pN lN cN) := hX.cell 1 rfl
      clear hX hA
      go_wp2_with fail
      refine (cWk _).mono ?_
      rintro e w2 ⟨rfl, hb2⟩
      have b2 := hb.trans (hb2.mono hb.size)
      go_wp2_with fail
      go_ret
      exact ⟨rfl, b2⟩
end Go.Proofs.YtkpiaenpjnajiaaGreatDoor
