/- Package lex, the statements' own reading: bytes asked, one by one. -/
import Derived.Test.YtkhklndmbfbnoaaGreatDoorLText
import Derived.Test.YtkhklndmbfbnoaaGreatDoorMem
namespace Go.Proofs.YtkhklndmbfbnoaaGreatDoor
open Go.ChangeShapes Go.WideShapes Go.ChangeAt Go.RowKit Go.Joins Go.Deep
set_option linter.unusedVariables false

theorem rLetter_any (c : UInt8) (w : World) : Calls Tryz.prog 48 #[.int .u8 (c.toNat : Int)] w fun e w' => e = .returned (.bool (letB c)) ∧ w = w' := by
  have hb : (c.toNat : Int) < 256 := by have := c.toNat_lt; omega
  by_cases h1 : 97 ≤ (c.toNat : Int)
  · by_cases h2 : (c.toNat : Int) ≤ 122
    · have e1 : letB c = true := by unfold letB; simp only [h1, h2, decide_true, Bool.and_self]
      have H := Lib.hid e1
      clear e1
      go_enter Tryz.func48, Tryz.ntmps48
      go_wp2
      go_ret
      exact ⟨by rw [H.out]; rfl, rfl⟩
    · have e1 : letB c = false := by unfold letB; simp only [h1, h2, decide_true, decide_false, Bool.and_false]
      have H := Lib.hid e1
      have h3 : decide ((c.toNat : Int) ≤ 122) = false := by simpa using h2
      clear e1
      go_enter Tryz.func48, Tryz.ntmps48
      go_wp2
      go_ret
      exact ⟨by rw [H.out]; rfl, rfl⟩
  · have e1 : letB c = false := by unfold letB; simp only [h1, decide_false, Bool.false_and]
    have H := Lib.hid e1
    have h3 : decide (97 ≤ (c.toNat : Int)) = false := by simpa using h1
    clear e1
    go_enter Tryz.func48, Tryz.ntmps48
    go_wp2
    go_ret
    exact ⟨by rw [H.out]; rfl, rfl⟩
theorem rDigit_any (c : UInt8) (w : World) : Calls Tryz.prog 49 #[.int .u8 (c.toNat : Int)] w fun e w' => e = .returned (.bool (digB c)) ∧ w = w' := by
  have hb : (c.toNat : Int) < 256 := by have := c.toNat_lt; omega
  by_cases h1 : 48 ≤ (c.toNat : Int)
  · by_cases h2 : (c.toNat : Int) ≤ 57
    · have e1 : digB c = true := by unfold digB; simp only [h1, h2, decide_true, Bool.and_self]
      have H := Lib.hid e1
      clear e1
      go_enter Tryz.func49, Tryz.ntmps49
      go_wp2
      go_ret
      exact ⟨by rw [H.out]; rfl, rfl⟩
    · have e1 : digB c = false := by unfold digB; simp only [h1, h2, decide_true, decide_false, Bool.and_false]
      have H := Lib.hid e1
      have h3 : decide ((c.toNat : Int) ≤ 57) = false := by simpa using h2
      clear e1
      go_enter Tryz.func49, Tryz.ntmps49
      go_wp2
      go_ret
      exact ⟨by rw [H.out]; rfl, rfl⟩
  · have e1 : digB c = false := by unfold digB; simp only [h1, decide_false, Bool.false_and]
    have H := Lib.hid e1
    have h3 : decide (48 ≤ (c.toNat : Int)) = false := by simpa using h1
    clear e1
    go_enter Tryz.func49, Tryz.ntmps49
    go_wp2
    go_ret
    exact ⟨by rw [H.out]; rfl, rfl⟩
theorem isLetter_any (c : UInt8) (w : World) : Calls Tryz.prog 132 #[.int .u8 (c.toNat : Int)] w fun e w' => e = .returned (.bool (letB c)) ∧ w = w' := by
  have hb : (c.toNat : Int) < 256 := by have := c.toNat_lt; omega
  by_cases h1 : 97 ≤ (c.toNat : Int)
  · by_cases h2 : (c.toNat : Int) ≤ 122
    · have e1 : letB c = true := by unfold letB; simp only [h1, h2, decide_true, Bool.and_self]
      have H := Lib.hid e1
      clear e1
      go_enter Tryz.func132, Tryz.ntmps132
      go_wp2
      go_ret
      exact ⟨by rw [H.out]; rfl, rfl⟩
    · have e1 : letB c = false := by unfold letB; simp only [h1, h2, decide_true, decide_false, Bool.and_false]
      have H := Lib.hid e1
      have h3 : decide ((c.toNat : Int) ≤ 122) = false := by simpa using h2
      clear e1
      go_enter Tryz.func132, Tryz.ntmps132
      go_wp2
      go_ret
      exact ⟨by rw [H.out]; rfl, rfl⟩
  · have e1 : letB c = false := by unfold letB; simp only [h1, decide_false, Bool.false_and]
    have H := Lib.hid e1
    have h3 : decide (97 ≤ (c.toNat : Int)) = false := by simpa using h1
    clear e1
    go_enter Tryz.func132, Tryz.ntmps132
    go_wp2
    go_ret
    exact ⟨by rw [H.out]; rfl, rfl⟩
theorem isDigit_any (c : UInt8) (w : World) : Calls Tryz.prog 136 #[.int .u8 (c.toNat : Int)] w fun e w' => e = .returned (.bool (digB c)) ∧ w = w' := by
  have hb : (c.toNat : Int) < 256 := by have := c.toNat_lt; omega
  by_cases h1 : 48 ≤ (c.toNat : Int)
  · by_cases h2 : (c.toNat : Int) ≤ 57
    · have e1 : digB c = true := by unfold digB; simp only [h1, h2, decide_true, Bool.and_self]
      have H := Lib.hid e1
      clear e1
      go_enter Tryz.func136, Tryz.ntmps136
      go_wp2
      go_ret
      exact ⟨by rw [H.out]; rfl, rfl⟩
    · have e1 : digB c = false := by unfold digB; simp only [h1, h2, decide_true, decide_false, Bool.and_false]
      have H := Lib.hid e1
      have h3 : decide ((c.toNat : Int) ≤ 57) = false := by simpa using h2
      clear e1
      go_enter Tryz.func136, Tryz.ntmps136
      go_wp2
      go_ret
      exact ⟨by rw [H.out]; rfl, rfl⟩
  · have e1 : digB c = false := by unfold digB; simp only [h1, decide_false, Bool.false_and]
    have H := Lib.hid e1
    have h3 : decide (48 ≤ (c.toNat : Int)) = false := by simpa using h1
    clear e1
    go_enter Tryz.func136, Tryz.ntmps136
    go_wp2
    go_ret
    exact ⟨by rw [H.out]; rfl, rfl⟩
theorem isLineEnd_any (c : UInt8) (w : World) : Calls Tryz.prog 130 #[.int .u8 (c.toNat : Int)] w fun e w' => e = .returned (.bool (endB c)) ∧ w = w' := by
  cases h1 : (c.toNat : Int) == 10
  · cases h2 : (c.toNat : Int) == 13
    · have e1 : endB c = false := by unfold endB; rw [h1, h2]; rfl
      have H := Lib.hid e1
      clear e1
      go_enter Tryz.func130, Tryz.ntmps130
      go_wp2
      go_ret
      exact ⟨by rw [H.out]; rfl, rfl⟩
    · have e1 : endB c = true := by unfold endB; rw [h1, h2]; rfl
      have H := Lib.hid e1
      clear e1
      go_enter Tryz.func130, Tryz.ntmps130
      go_wp2
      go_ret
      exact ⟨by rw [H.out]; rfl, rfl⟩
  · have e1 : endB c = true := by unfold endB; rw [h1]; rfl
    have H := Lib.hid e1
    clear e1
    go_enter Tryz.func130, Tryz.ntmps130
    go_wp2
    go_ret
    exact ⟨by rw [H.out]; rfl, rfl⟩
theorem isBlank_any (c : UInt8) (w : World) : Calls Tryz.prog 131 #[.int .u8 (c.toNat : Int)] w fun e w' => e = .returned (.bool (blaB c)) ∧ w = w' := by
  cases h1 : (c.toNat : Int) == 32
  · cases h2 : (c.toNat : Int) == 9
    · have e1 : blaB c = false := by unfold blaB; rw [h1, h2]; rfl
      have H := Lib.hid e1
      clear e1
      go_enter Tryz.func131, Tryz.ntmps131
      go_wp2
      go_ret
      exact ⟨by rw [H.out]; rfl, rfl⟩
    · have e1 : blaB c = true := by unfold blaB; rw [h1, h2]; rfl
      have H := Lib.hid e1
      clear e1
      go_enter Tryz.func131, Tryz.ntmps131
      go_wp2
      go_ret
      exact ⟨by rw [H.out]; rfl, rfl⟩
  · have e1 : blaB c = true := by unfold blaB; rw [h1]; rfl
    have H := Lib.hid e1
    clear e1
    go_enter Tryz.func131, Tryz.ntmps131
    go_wp2
    go_ret
    exact ⟨by rw [H.out]; rfl, rfl⟩
theorem isInName_any (c : UInt8) (w : World) : Calls Tryz.prog 135 #[.int .u8 (c.toNat : Int)] w fun e w' => e = .returned (.bool (namB c)) ∧ w = w' := by
  have cL := isLetter_any c
  have cD := isDigit_any c
  cases h1 : letB c
  · have e1 : namB c = digB c := by unfold namB; rw [h1]; rfl
    have H := Lib.hid e1
    rw [h1] at cL
    clear e1 h1
    go_enter Tryz.func135, Tryz.ntmps135
    go_wp2_with fail
    refine (cL _).mono ?_
    rintro e w' ⟨rfl, rfl⟩
    go_wp2_with fail
    refine (cD _).mono ?_
    rintro e w' ⟨rfl, rfl⟩
    go_wp2
    go_ret
    exact ⟨by rw [H.out]; rfl, rfl⟩
  · have e1 : namB c = true := by unfold namB; rw [h1]; rfl
    have H := Lib.hid e1
    rw [h1] at cL
    clear e1 h1
    go_enter Tryz.func135, Tryz.ntmps135
    go_wp2_with fail
    refine (cL _).mono ?_
    rintro e w' ⟨rfl, rfl⟩
    go_wp2
    go_ret
    exact ⟨by rw [H.out]; rfl, rfl⟩
theorem unlessAbove_any (m n : Nat) (hm : m ≤ 1000) (hn : n ≤ 9223372036854775807) (w : World) : Calls Tryz.prog 133 #[.int .i64 (m : Int), .int .i64 (n : Int)] w fun e w' => e = .returned (.int .i64 (cap m n : Nat)) ∧ w = w' := by
  by_cases h : m < n
  · have e1 : cap m n = 0 := by unfold cap; rw [if_pos h]
    have H := Lib.hid e1
    have h3 : decide ((m : Int) < (n : Int)) = true := by simpa using h
    have h4 : decide (m < n) = true := by simpa using h
    clear e1
    go_enter Tryz.func133, Tryz.ntmps133
    go_wp2
    go_ret
    exact ⟨by rw [H.out]; rfl, rfl⟩
  · have e1 : cap m n = n := by unfold cap; rw [if_neg h]
    have H := Lib.hid e1
    have h3 : decide ((m : Int) < (n : Int)) = false := by simpa using h
    have h4 : decide (m < n) = false := by simpa using h
    clear e1
    go_enter Tryz.func133, Tryz.ntmps133
    go_wp2
    go_ret
    exact ⟨by rw [H.out]; rfl, rfl⟩
/-- a byte of a text, as the walk writes it -/
theorem getD_text (s : ByteArray) (k : Nat) (h : k < s.size) : s[k] = s.data.toList.getD k 0 := by
  have : k < s.data.toList.length := by simpa using h
  rw [List.getD_eq_getElem?_getD, List.getElem?_eq_getElem this]
  rfl
theorem len_text (s : ByteArray) : s.data.toList.length = s.size := by simp
theorem take_len (s : ByteArray) (k : Nat) : s.size - k = (s.data.toList.drop k).length := by simp
set_option maxHeartbeats 800000 in
theorem runName_any (s : ByteArray) (w : World) (hs : s.size ≤ maxLen) : Calls Tryz.prog 134 #[.string s, .func (.func 135) #[] #[]] w fun e w' => e = .returned (.int .i64 (runN namB s.data.toList : Nat)) ∧ w = w' := by
  unfold maxLen at hs
  have cP := isInName_any
  have HP := Lib.hid (len_text s)
  go_enter Tryz.func134, Tryz.ntmps134
  go_wp2
  go_loop [8] (fun v => ∃ k : Nat, k ≤ s.size ∧ v = .int .i64 k ∧ runN namB s.data.toList = k + runN namB (s.data.toList.drop k)) (fun v => s.size - (intOf v).toNat)
  case atStart => exact ⟨0, Nat.zero_le _, rfl, by simp⟩
  case round =>
    obtain ⟨k, hk, rfl, hr⟩ := hrel
    by_cases hlt : k < s.size
    · have hst := runN_step (p := namB) (l := s.data.toList) (k := k) (by rw [HP.out]; exact hlt)
      rw [← getD_text s k hlt] at hst
      cases hc : namB s[k]
      · rw [hc] at hst
        have HR := Lib.hid hr
        have HS := Lib.hid hst
        have cQ := cP s[k]
        rw [hc] at cQ
        clear hr hst hc cP
        go_wp2_with fail
        refine (cQ _).mono ?_
        rintro e w' ⟨rfl, rfl⟩
        go_wp2
        go_ret
        exact ⟨by rw [HR.out, HS.out]; rfl, rfl⟩
      · rw [hc] at hst
        have HR := Lib.hid hr
        have HS := Lib.hid hst
        have cQ := cP s[k]
        rw [hc] at cQ
        clear hr hst hc cP
        go_wp2_with fail
        refine (cQ _).mono ?_
        rintro e w' ⟨rfl, rfl⟩
        go_wp2
        go_round
        case rel => exact ⟨k + 1, by omega, by go_num, by rw [HR.out, HS.out]; simp; omega⟩
        case measure => simp [intOf]; omega
    · obtain rfl : k = s.size := by omega
      have hst := runN_end (p := namB) (l := s.data.toList) (k := s.size) (by rw [HP.out]; exact Nat.le_refl _)
      rw [hst] at hr
      have HR := Lib.hid hr
      clear hr hst cP
      go_wp2
      go_ret
      exact ⟨by rw [HR.out]; rfl, rfl⟩
set_option maxHeartbeats 800000 in
theorem runDigit_any (s : ByteArray) (w : World) (hs : s.size ≤ maxLen) : Calls Tryz.prog 134 #[.string s, .func (.func 136) #[] #[]] w fun e w' => e = .returned (.int .i64 (runN digB s.data.toList : Nat)) ∧ w = w' := by
  unfold maxLen at hs
  have cP := isDigit_any
  have HP := Lib.hid (len_text s)
  go_enter Tryz.func134, Tryz.ntmps134
  go_wp2
  go_loop [8] (fun v => ∃ k : Nat, k ≤ s.size ∧ v = .int .i64 k ∧ runN digB s.data.toList = k + runN digB (s.data.toList.drop k)) (fun v => s.size - (intOf v).toNat)
  case atStart => exact ⟨0, Nat.zero_le _, rfl, by simp⟩
  case round =>
    obtain ⟨k, hk, rfl, hr⟩ := hrel
    by_cases hlt : k < s.size
    · have hst := runN_step (p := digB) (l := s.data.toList) (k := k) (by rw [HP.out]; exact hlt)
      rw [← getD_text s k hlt] at hst
      cases hc : digB s[k]
      · rw [hc] at hst
        have HR := Lib.hid hr
        have HS := Lib.hid hst
        have cQ := cP s[k]
        rw [hc] at cQ
        clear hr hst hc cP
        go_wp2_with fail
        refine (cQ _).mono ?_
        rintro e w' ⟨rfl, rfl⟩
        go_wp2
        go_ret
        exact ⟨by rw [HR.out, HS.out]; rfl, rfl⟩
      · rw [hc] at hst
        have HR := Lib.hid hr
        have HS := Lib.hid hst
        have cQ := cP s[k]
        rw [hc] at cQ
        clear hr hst hc cP
        go_wp2_with fail
        refine (cQ _).mono ?_
        rintro e w' ⟨rfl, rfl⟩
        go_wp2
        go_round
        case rel => exact ⟨k + 1, by omega, by go_num, by rw [HR.out, HS.out]; simp; omega⟩
        case measure => simp [intOf]; omega
    · obtain rfl : k = s.size := by omega
      have hst := runN_end (p := digB) (l := s.data.toList) (k := s.size) (by rw [HP.out]; exact Nat.le_refl _)
      rw [hst] at hr
      have HR := Lib.hid hr
      clear hr hst cP
      go_wp2
      go_ret
      exact ⟨by rw [HR.out]; rfl, rfl⟩
set_option maxHeartbeats 1600000 in
theorem gap_any (s : ByteArray) (w : World) (hs : s.size ≤ maxLen) : Calls Tryz.prog 104 #[.string s] w fun e w' => e = .returned (.int .i64 (gapN false s.data.toList : Nat)) ∧ w = w' := by
  unfold maxLen at hs
  have cE := isLineEnd_any
  have cB := isBlank_any
  have HP := Lib.hid (len_text s)
  go_enter Tryz.func104, Tryz.ntmps104
  go_wp2
  go_loop [3, 7] (fun b v => ∃ (k : Nat) (p : Bool), k ≤ s.size ∧ b = .bool p ∧ v = .int .i64 k ∧ gapN false s.data.toList = k + gapN p (s.data.toList.drop k)) (fun _ v => s.size - (intOf v).toNat)
  case atStart => exact ⟨0, false, Nat.zero_le _, rfl, rfl, by simp⟩
  case round =>
    obtain ⟨k, p, hk, rfl, rfl, hr⟩ := hrel
    by_cases hlt : k < s.size
    · have hst := gapN_step (p := p) (l := s.data.toList) (k := k) (by rw [HP.out]; exact hlt)
      rw [← getD_text s k hlt] at hst
      have cE1 := cE s[k]
      have cB1 := cB s[k]
      obtain ⟨hh, hhd⟩ : ∃ hh, hasB s[k] = hh := ⟨_, rfl⟩
      have hhd2 : ((s[k].toNat : Int) == 35) = hh := hhd
      unfold stopB nextP at hst
      rw [hhd] at hst
      clear cE cB hhd
      have HR := Lib.hid hr
      have HS := Lib.hid hst
      clear hr hst
      generalize endB s[k] = be at *
      generalize blaB s[k] = bb at *
      cases be
      · cases hh
        · cases p
          · cases bb
            · go_wp2_with fail
              refine (cE1 _).mono ?_
              rintro e w' ⟨rfl, rfl⟩
              go_wp2_with fail
              refine (cB1 _).mono ?_
              rintro e w' ⟨rfl, rfl⟩
              go_wp2
              go_ret
              exact ⟨by rw [HR.out, HS.out]; rfl, rfl⟩
            · go_wp2_with fail
              refine (cE1 _).mono ?_
              rintro e w' ⟨rfl, rfl⟩
              go_wp2_with fail
              refine (cB1 _).mono ?_
              rintro e w' ⟨rfl, rfl⟩
              go_wp2
              go_round
              case rel => exact ⟨k + 1, false, by omega, rfl, by go_num, by rw [HR.out, HS.out]; simp; omega⟩
              case measure => simp [intOf]; omega
          · go_wp2_with fail
            refine (cE1 _).mono ?_
            rintro e w' ⟨rfl, rfl⟩
            go_wp2
            go_round
            case rel => exact ⟨k + 1, true, by omega, rfl, by go_num, by rw [HR.out, HS.out]; simp; omega⟩
            case measure => simp [intOf]; omega
        · go_wp2_with fail
          refine (cE1 _).mono ?_
          rintro e w' ⟨rfl, rfl⟩
          go_wp2
          go_round
          case rel => exact ⟨k + 1, true, by omega, rfl, by go_num, by rw [HR.out, HS.out]; simp; omega⟩
          case measure => simp [intOf]; omega
      · go_wp2_with fail
        refine (cE1 _).mono ?_
        rintro e w' ⟨rfl, rfl⟩
        go_wp2
        go_round
        case rel => exact ⟨k + 1, false, by omega, rfl, by go_num, by rw [HR.out, HS.out]; simp; omega⟩
        case measure => simp [intOf]; omega
    · obtain rfl : k = s.size := by omega
      have hst := gapN_end (p := p) (l := s.data.toList) (k := s.size) (by rw [HP.out]; exact Nat.le_refl _)
      rw [hst] at hr
      have HR := Lib.hid hr
      clear hr hst cE cB
      go_wp2
      go_ret
      exact ⟨by rw [HR.out]; rfl, rfl⟩
end Go.Proofs.YtkhklndmbfbnoaaGreatDoor
