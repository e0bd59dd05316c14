/- Numbers: the program's and the document's. -/
import Derived.Test.YtkpiaenpjnajiaaGreatDoorLLong
import Derived.Test.YtkpiaenpjnajiaaGreatDoorLROneB
namespace Go.Proofs.YtkpiaenpjnajiaaGreatDoor
open Go.ChangeShapes Go.WideShapes Go.ChangeAt Go.RowKit Go.Joins Go.Deep
set_option linter.unusedVariables false

theorem rWord_any (s : ByteArray) (hs : s.size ≤ 1000000000) (w : World) : Calls Tryz.prog 18 #[.string s] w fun e w' => e = .returned (.bool (wordB s.data.toList)) ∧ Below w.heap.size w w' := by
  by_cases h0 : s.size = 0
  · obtain rfl : s = ⟨#[]⟩ := ByteArray.ext (Array.eq_empty_of_size_eq_zero h0)
    go_enter Tryz.func18, Tryz.ntmps18
    go_wp2
    go_ret
    exact ⟨rfl, Below.refl _ _⟩
  · have hne0 : s.data.toList.isEmpty = false := by
      cases h : s.data.toList with
      | nil => have := len_text s; rw [h] at this; simp at this; omega
      | cons a r => rfl
    have hw : wordB s.data.toList = (longN s.data.toList == s.size) := by unfold wordB; rw [hne0, len_text]; rfl
    have hpos : 0 < s.size := by omega
    have cO := fun w => rOne_any s 0 hs hpos w
    have hb := longN_le s.data.toList
    rw [len_text] at hb
    unfold OnePost at cO
    simp only [List.drop_zero] at cO
    have HW := Lib.hid hw
    clear hw hne0
    generalize longN s.data.toList = lg at *
    have u1 : decide ((0 : Int) < (s.size : Int)) = true := by simp; omega
    by_cases he : lg = s.size
    · subst he
      go_enter Tryz.func18, Tryz.ntmps18
      go_wp2_with fail
      refine (cO _).mono ?_
      rintro e w' ⟨rfl, hbw⟩
      go_wp2
      go_ret
      exact ⟨by rw [HW.out]; simp, hbw⟩
    · have h1 : ((lg : Int) == (s.size : Int)) = false := by rw [beq_eq_false_iff_ne]; omega
      have h2 : (lg == s.size) = false := by rw [beq_eq_false_iff_ne]; omega
      have h3 : decide (lg = s.size) = false := by simpa using he
      have HH := Lib.hid he
      clear he
      go_enter Tryz.func18, Tryz.ntmps18
      go_wp2_with fail
      refine (cO _).mono ?_
      rintro e w' ⟨rfl, hbw⟩
      go_wp2
      go_ret
      exact ⟨by rw [HW.out]; simp [HH.out], hbw⟩
def numV (l : List UInt8) : Nat := if numB l then valN l else 0
theorem numB_word {l : List UInt8} (h : wordB l = false) : numB l = false := by unfold numB; rw [h]; rfl
theorem head_text {s : ByteArray} (h : 0 < s.size) : s.data.toList.headD 0 = s[0] := by
  have := drop_cons h
  rw [List.drop_zero] at this
  rw [this]; rfl
theorem numB_at {s : ByteArray} (h : 0 < s.size) (hw : wordB s.data.toList = true) : numB s.data.toList = digB s[0] := by unfold numB; rw [hw, head_text h]; rfl
theorem word_pos {s : ByteArray} (hw : wordB s.data.toList = true) : 0 < s.size := by
  rcases Nat.eq_zero_or_pos s.size with h | h
  · obtain rfl : s = ⟨#[]⟩ := ByteArray.ext (Array.eq_empty_of_size_eq_zero h)
    simp [wordB] at hw
  · exact h
def NumPost (b : Bool) (v : Nat) (w : World) (e : Ending) (w' : World) : Prop := e = .returned (.tuple #[.int .i64 (v : Nat), .int .i64 (if b then 0 else 1)]) ∧ Below w.heap.size w w'
theorem number_any (s : ByteArray) (hs : s.size ≤ 1000000000) (w : World) : Calls Tryz.prog 9 #[.string s] w (NumPost (numB s.data.toList) (numV s.data.toList) w) := by
  have cW := fun w => isWord_any s w (by unfold maxLen; omega)
  cases hw : wordB s.data.toList
  · have e1 := numB_word hw
    have fin : NumPost (numB s.data.toList) (numV s.data.toList) w (.returned (.tuple #[.int .i64 0, .int .i64 1])) w := ⟨by unfold numV; rw [e1]; rfl, Below.refl _ _⟩
    have FIN := Lib.hid fin
    rw [hw] at cW
    clear fin e1 hw
    go_enter Tryz.func9, Tryz.ntmps9
    go_wp2_with fail
    refine (cW _).mono ?_
    rintro e w' ⟨rfl, rfl⟩
    go_wp2_with fail
    go_ret2
    exact FIN.out
  · have hp := word_pos hw
    have e1 := numB_at hp hw
    have cD := fun w => isDigit_any s[0] w
    rw [hw] at cW
    cases hd : digB s[0]
    · rw [hd] at e1 cD
      have fin : NumPost (numB s.data.toList) (numV s.data.toList) w (.returned (.tuple #[.int .i64 0, .int .i64 1])) w := ⟨by unfold numV; rw [e1]; rfl, Below.refl _ _⟩
      have FIN := Lib.hid fin
      clear fin e1 hw hd
      go_enter Tryz.func9, Tryz.ntmps9
      go_wp2_with fail
      refine (cW _).mono ?_
      rintro e w' ⟨rfl, rfl⟩
      go_wp2_with fail
      refine (cD _).mono ?_
      rintro e w' ⟨rfl, rfl⟩
      go_wp2_with fail
      go_ret2
      exact FIN.out
    · rw [hd] at e1 cD
      have ha := atoi_val e1
      have hdg := numB_digits e1
      rw [len_text] at hdg
      have cA := fun w => strconv_Atoi s _ (by omega) ha w
      have fin : ∀ w', Below w.heap.size w w' → NumPost (numB s.data.toList) (numV s.data.toList) w (.returned (.tuple #[.int .i64 (valN s.data.toList : Nat), .int .i64 0])) w' := fun w' hb => ⟨by unfold numV; rw [e1]; rfl, hb⟩
      have FIN := Lib.hid fin
      clear fin e1 hw hd ha hdg
      generalize valN s.data.toList = vl at *
      go_enter Tryz.func9, Tryz.ntmps9
      go_wp2_with fail
      refine (cW _).mono ?_
      rintro e w' ⟨rfl, rfl⟩
      go_wp2_with fail
      refine (cD _).mono ?_
      rintro e w' ⟨rfl, rfl⟩
      go_wp2_with fail
      refine (cA _).mono ?_
      rintro e w' ⟨rfl, t, rfl⟩
      have hb := Joins.below_bytesWorld w.heap.size w 5 t (Nat.le_refl _)
      generalize Lib.bytesWorld w 5 t = w2 at *
      go_wp2_with fail
      go_ret2
      exact FIN.out _ hb
def RNumPost (b : Bool) (v : Nat) (w : World) (e : Ending) (w' : World) : Prop := e = .returned (.tuple #[.int .i64 (v : Nat), .bool b]) ∧ Below w.heap.size w w'
theorem valN_take {s : ByteArray} {i : Nat} (h : i < s.size) : valN (s.data.toList.take (i + 1)) = 10 * valN (s.data.toList.take i) + (s[i].toNat - 48) := by
  have hl : i < s.data.toList.length := by rw [len_text]; exact h
  rw [List.take_succ_eq_append_getElem hl, valN_snoc]
  rfl
set_option maxHeartbeats 800000 in
theorem rNumber_any (s : ByteArray) (hs : s.size ≤ 1000000000) (w : World) : Calls Tryz.prog 10 #[.string s] w (RNumPost (numB s.data.toList) (numV s.data.toList) w) := by
  have cW := fun w => rWord_any s hs w
  cases hw : wordB s.data.toList
  · have e1 := numB_word hw
    have fin : ∀ w', Below w.heap.size w w' → RNumPost (numB s.data.toList) (numV s.data.toList) w (.returned (.tuple #[.int .i64 0, .bool false])) w' := fun w' hb => ⟨by unfold numV; rw [e1]; rfl, hb⟩
    have FIN := Lib.hid fin
    rw [hw] at cW
    clear fin e1 hw
    go_enter Tryz.func10, Tryz.ntmps10
    go_wp2_with fail
    refine (cW _).mono ?_
    rintro e w' ⟨rfl, hb⟩
    go_wp2_with fail
    go_ret2
    exact FIN.out _ hb
  · have hp := word_pos hw
    have e1 := numB_at hp hw
    have cD := fun w => rDigit_any s[0] w
    rw [hw] at cW
    cases hd : digB s[0]
    · rw [hd] at e1 cD
      have fin : ∀ w', Below w.heap.size w w' → RNumPost (numB s.data.toList) (numV s.data.toList) w (.returned (.tuple #[.int .i64 0, .bool false])) w' := fun w' hb => ⟨by unfold numV; rw [e1]; rfl, hb⟩
      have FIN := Lib.hid fin
      clear fin e1 hw hd
      go_enter Tryz.func10, Tryz.ntmps10
      go_wp2_with fail
      refine (cW _).mono ?_
      rintro e w' ⟨rfl, hb⟩
      go_wp2_with fail
      refine (cD _).mono ?_
      rintro e w2 ⟨rfl, rfl⟩
      go_wp2_with fail
      go_ret2
      exact FIN.out _ hb
    · rw [hd] at e1 cD
      obtain ⟨hl10, _, hdg⟩ := numB_digits e1
      rw [len_text] at hl10
      have hvb : ∀ i, i ≤ s.size → valN (s.data.toList.take i) < 100000000000 := fun i hi => valN_bound (fun c hc => hdg c (List.mem_of_mem_take hc)) (by rw [List.length_take, len_text]; omega)
      have hdi : ∀ i (h : i < s.size), digB s[i] = true := fun i h => hdg _ (by rw [← len_text] at h; exact List.getElem_mem h)
      have fin : ∀ w', Below w.heap.size w w' → RNumPost (numB s.data.toList) (numV s.data.toList) w (.returned (.tuple #[.int .i64 (valN s.data.toList : Nat), .bool true])) w' := fun w' hb => ⟨by unfold numV; rw [e1]; rfl, hb⟩
      have FIN := Lib.hid fin
      have HVB := Lib.hid hvb
      have HDI := Lib.hid hdi
      clear fin e1 hw hd hdg hvb hdi
      go_enter Tryz.func10, Tryz.ntmps10
      go_wp2_with fail
      refine (cW _).mono ?_
      rintro e w' ⟨rfl, hb⟩
      go_wp2_with fail
      refine (cD _).mono ?_
      rintro e w2 ⟨rfl, rfl⟩
      go_wp2_with fail
      go_loop [4, 5] (fun n v => ∃ i : Nat, i ≤ s.size ∧ v = .int .i64 (i : Nat) ∧ n = .int .i64 (valN (s.data.toList.take i) : Nat)) (fun _ v => s.size - (intOf v).toNat)
      case atStart => exact ⟨0, Nat.zero_le _, rfl, rfl⟩
      case round =>
        obtain ⟨i, hi, rfl, rfl⟩ := hrel
        clear cW cD
        have hv := HVB.out i hi
        by_cases hlt : i < s.size
        · have hn := valN_take hlt
          have hdd := HDI.out i hlt
          simp only [digB, Bool.and_eq_true, decide_eq_true_eq] at hdd
          obtain ⟨d1, d2⟩ := hdd
          have HN := Lib.hid hn
          clear hn
          generalize valN (s.data.toList.take i) = vv at *
          go_wp2_with fail
          go_round
          case rel => exact ⟨i + 1, by omega, by go_num, by rw [HN.out]; go_num⟩
          case measure => simp [intOf]; omega
        · obtain rfl : i = s.size := by omega
          have e : s.data.toList.take s.size = s.data.toList := List.take_of_length_le (by rw [len_text]; exact Nat.le_refl _)
          rw [e] at hv ⊢
          have HE := Lib.hid e
          clear e
          generalize valN s.data.toList = vv at *
          go_wp2_with fail
          go_ret2
          exact FIN.out _ hb
end Go.Proofs.YtkpiaenpjnajiaaGreatDoor
