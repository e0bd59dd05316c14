/- The document's own: how long the word at a place is. -/
import Derived.Test.YtkpiaenpjnajiaaGreatDoorLSmall
namespace Go.Proofs.YtkpiaenpjnajiaaGreatDoor
open Go.ChangeShapes Go.WideShapes Go.ChangeAt Go.RowKit Go.Joins Go.Deep
set_option linter.unusedVariables false

theorem drop_cons {s : ByteArray} {k : Nat} (h : k < s.size) : s.data.toList.drop k = s[k] :: s.data.toList.drop (k + 1) := by
  have hl : k < s.data.toList.length := by rw [len_text]; exact h
  rw [List.drop_eq_getElem_cons hl]
  rfl
def RelOne (p : UInt8 → Bool) (s : ByteArray) (k : Nat) (v : Value) : Prop := ∃ n : Nat, k + n ≤ s.size ∧ v = .int .i64 (n : Nat) ∧ runN p (s.data.toList.drop k) = n + runN p (s.data.toList.drop (k + n))
theorem runN_next {p : UInt8 → Bool} {s : ByteArray} {k n : Nat} (hlt : k + n < s.size) : runN p (s.data.toList.drop (k + n)) = if p s[k + n] then runN p (s.data.toList.drop (k + (n + 1))) + 1 else 0 := by
  have h := runN_step (p := p) (l := s.data.toList) (k := k + n) (by rw [len_text]; exact hlt)
  rw [← getD_text s (k + n) hlt] at h
  rw [h]; rfl
def OnePost (s : ByteArray) (k : Nat) (w : World) (e : Ending) (w' : World) : Prop := e = .returned (.int .i64 (longN (s.data.toList.drop k) : Nat)) ∧ Below w.heap.size w w'
set_option maxRecDepth 100000 in
set_option maxHeartbeats 3200000 in
theorem rOne_name (s : ByteArray) (k : Nat) (hs : s.size ≤ 1000000000) (hk : k < s.size) (hl1 : letB s[k] = true) (w : World) :
    Calls Tryz.prog 22 #[.string s, .int .i64 (k : Nat)] w (OnePost s k w) := by
  have cL := rLetter_any
  have cD := rDigit_any
  have hL : longN (s.data.toList.drop k) = cap 8 (runN namB (s.data.toList.drop k)) := by
    rw [drop_cons hk]; unfold longN; dsimp only; rw [hl1]; rfl
  have cL0 := cL s[k]
  rw [hl1] at cL0
  have HL := Lib.hid hL
  clear hL hl1
  go_enter Tryz.func22, Tryz.ntmps22
  go_wp2_with fail
  refine (cL0 _).mono ?_
  rintro e w' ⟨rfl, rfl⟩
  go_wp2_with fail
  go_loop [5] (fun v => RelOne namB s k v) (fun v => s.size - (intOf v).toNat)
  case atStart => exact ⟨0, by omega, rfl, by rw [Nat.zero_add, Nat.add_zero]⟩
  case round =>
    obtain ⟨n, hn, rfl, hr⟩ := hrel
    have HR := Lib.hid hr
    clear hr cL0
    by_cases hlt : k + n < s.size
    · have hst := runN_next (p := namB) hlt
      have t1 : decide ((k : Int) + (n : Int) < (s.size : Int)) = true := by simp; omega
      have t2 : decide (k + n < s.size) = true := by simp; omega
      have cL1 := cL s[k + n]
      have cD1 := cD s[k + n]
      obtain ⟨lb, hlb⟩ : ∃ lb, lb = letB s[k + n] := ⟨_, rfl⟩
      obtain ⟨db, hdb⟩ : ∃ db, db = digB s[k + n] := ⟨_, rfl⟩
      have hnb : namB s[k + n] = (lb || db) := by rw [hlb, hdb]; rfl
      rw [hnb] at hst
      rw [← hlb] at cL1
      rw [← hdb] at cD1
      have HS := Lib.hid hst
      clear hst hlb hdb hnb cL cD
      cases lb
      · cases db
        · go_wp2_with fail
          refine (cL1 _).mono ?_
          rintro e w' ⟨rfl, rfl⟩
          go_wp2_with fail
          refine (cD1 _).mono ?_
          rintro e w' ⟨rfl, rfl⟩
          have e2 : runN namB (s.data.toList.drop k) = n := by rw [HR.out, HS.out]; simp
          by_cases h8 : 8 < n
          · have e3 : cap 8 n = 0 := by unfold cap; rw [if_pos h8]
            have fin : OnePost s k w (.returned (.int .i64 0)) w := ⟨by rw [HL.out, e2, e3]; rfl, Below.refl _ _⟩
            have FIN := Lib.hid fin
            have t3 : decide ((8 : Int) < (n : Int)) = true := by simp; omega
            clear fin e2 e3
            go_wp2_with fail
            go_ret
            exact FIN.out
          · have e3 : cap 8 n = n := by unfold cap; rw [if_neg h8]
            have fin : OnePost s k w (.returned (.int .i64 (n : Nat))) w := ⟨by rw [HL.out, e2, e3], Below.refl _ _⟩
            have FIN := Lib.hid fin
            have t3 : decide ((8 : Int) < (n : Int)) = false := by simp; omega
            clear fin e2 e3
            go_wp2_with fail
            go_ret
            exact FIN.out
        · go_wp2_with fail
          refine (cL1 _).mono ?_
          rintro e w' ⟨rfl, rfl⟩
          go_wp2_with fail
          refine (cD1 _).mono ?_
          rintro e w' ⟨rfl, rfl⟩
          go_wp2
          go_round
          case rel => exact ⟨n + 1, by omega, by go_num, by rw [HR.out, HS.out]; simp; omega⟩
          case measure => simp [intOf]; omega
      · go_wp2_with fail
        refine (cL1 _).mono ?_
        rintro e w' ⟨rfl, rfl⟩
        go_wp2
        go_round
        case rel => exact ⟨n + 1, by omega, by go_num, by rw [HR.out, HS.out]; simp; omega⟩
        case measure => simp [intOf]; omega
    · have hen : k + n = s.size := by omega
      have hst := runN_end (p := namB) (l := s.data.toList) (k := k + n) (by rw [len_text]; omega)
      have t1 : decide ((k : Int) + (n : Int) < (s.size : Int)) = false := by simp; omega
      have t2 : decide (k + n < s.size) = false := by simp; omega
      have e2 : runN namB (s.data.toList.drop k) = n := by rw [HR.out, hst]; rfl
      clear hst cL cD
      have hn2 : n ≤ s.size := by omega
      have HE := Lib.hid hen
      clear hen hlt
      by_cases h8 : 8 < n
      · have e3 : cap 8 n = 0 := by unfold cap; rw [if_pos h8]
        have fin : OnePost s k w (.returned (.int .i64 0)) w := ⟨by rw [HL.out, e2, e3]; rfl, Below.refl _ _⟩
        have FIN := Lib.hid fin
        have t3 : decide ((8 : Int) < (n : Int)) = true := by simp; omega
        clear fin e2 e3
        go_wp2_with fail
        go_ret
        exact FIN.out
      · have e3 : cap 8 n = n := by unfold cap; rw [if_neg h8]
        have fin : OnePost s k w (.returned (.int .i64 (n : Nat))) w := ⟨by rw [HL.out, e2, e3], Below.refl _ _⟩
        have FIN := Lib.hid fin
        have t3 : decide ((8 : Int) < (n : Int)) = false := by simp; omega
        clear fin e2 e3
        go_wp2_with fail
        go_ret
        exact FIN.out
set_option maxRecDepth 100000 in
set_option maxHeartbeats 3200000 in
theorem rOne_digit (s : ByteArray) (k : Nat) (hs : s.size ≤ 1000000000) (hk : k < s.size) (hl1 : letB s[k] = false) (hd1 : digB s[k] = true) (w : World) :
    Calls Tryz.prog 22 #[.string s, .int .i64 (k : Nat)] w (OnePost s k w) := by
  have cL := rLetter_any
  have cD := rDigit_any
  have hL : longN (s.data.toList.drop k) = if (s[k].toNat : Int) == 48 then cap 1 (runN digB (s.data.toList.drop k)) else cap 10 (runN digB (s.data.toList.drop k)) := by
    rw [drop_cons hk]; unfold longN; dsimp only; rw [hl1, hd1]; rfl
  have cL0 := cL s[k]
  have cD0 := cD s[k]
  rw [hl1] at cL0
  rw [hd1] at cD0
  have HL := Lib.hid hL
  clear hL hl1 hd1
  go_enter Tryz.func22, Tryz.ntmps22
  go_wp2_with fail
  refine (cL0 _).mono ?_
  rintro e w' ⟨rfl, rfl⟩
  go_wp2_with fail
  refine (cD0 _).mono ?_
  rintro e w' ⟨rfl, rfl⟩
  go_wp2_with fail
  go_loop [5] (fun v => RelOne digB s k v) (fun v => s.size - (intOf v).toNat)
  case atStart => exact ⟨0, by omega, rfl, by rw [Nat.zero_add, Nat.add_zero]⟩
  case round =>
    obtain ⟨n, hn, rfl, hr⟩ := hrel
    have HR := Lib.hid hr
    clear hr cL0 cD0
    by_cases hlt : k + n < s.size
    · have hst := runN_next (p := digB) hlt
      have t1 : decide ((k : Int) + (n : Int) < (s.size : Int)) = true := by simp; omega
      have t2 : decide (k + n < s.size) = true := by simp; omega
      have cD1 := cD s[k + n]
      obtain ⟨db, hdb⟩ : ∃ db, db = digB s[k + n] := ⟨_, rfl⟩
      rw [← hdb] at hst
      rw [← hdb] at cD1
      have HS := Lib.hid hst
      clear hst hdb cL cD
      cases db
      · go_wp2_with fail
        refine (cD1 _).mono ?_
        rintro e w' ⟨rfl, rfl⟩
        have e2 : runN digB (s.data.toList.drop k) = n := by rw [HR.out, HS.out]; simp
        have hn2 : n ≤ s.size := by omega
        cases hz : (s[k].toNat : Int) == 48
        · have hq : longN (s.data.toList.drop k) = cap 10 n := by rw [HL.out, hz, e2]; rfl
          by_cases h10 : 10 < n
          · have e3 : cap 10 n = 0 := by unfold cap; rw [if_pos h10]
            have fin : OnePost s k w (.returned (.int .i64 0)) w := ⟨by rw [hq, e3]; rfl, Below.refl _ _⟩
            have FIN := Lib.hid fin
            have t3 : decide ((10 : Int) < (n : Int)) = true := by simp; omega
            clear fin e2 e3 hq
            go_wp2_with fail
            go_ret
            exact FIN.out
          · have e3 : cap 10 n = n := by unfold cap; rw [if_neg h10]
            have fin : OnePost s k w (.returned (.int .i64 (n : Nat))) w := ⟨by rw [hq, e3], Below.refl _ _⟩
            have FIN := Lib.hid fin
            have t3 : decide ((10 : Int) < (n : Int)) = false := by simp; omega
            clear fin e2 e3 hq
            by_cases h1 : 1 < n
            · have t4 : decide ((1 : Int) < (n : Int)) = true := by simp; omega
              go_wp2_with fail
              go_ret
              exact FIN.out
            · have t4 : decide ((1 : Int) < (n : Int)) = false := by simp; omega
              go_wp2_with fail
              go_ret
              exact FIN.out
        · have hq : longN (s.data.toList.drop k) = cap 1 n := by rw [HL.out, hz, e2]; rfl
          by_cases h1 : 1 < n
          · have e3 : cap 1 n = 0 := by unfold cap; rw [if_pos h1]
            have fin : OnePost s k w (.returned (.int .i64 0)) w := ⟨by rw [hq, e3]; rfl, Below.refl _ _⟩
            have FIN := Lib.hid fin
            have t4 : decide ((1 : Int) < (n : Int)) = true := by simp; omega
            clear fin e2 e3 hq
            by_cases h10 : 10 < n
            · have t3 : decide ((10 : Int) < (n : Int)) = true := by simp; omega
              go_wp2_with fail
              go_ret
              exact FIN.out
            · have t3 : decide ((10 : Int) < (n : Int)) = false := by simp; omega
              go_wp2_with fail
              go_ret
              exact FIN.out
          · have e3 : cap 1 n = n := by unfold cap; rw [if_neg h1]
            have fin : OnePost s k w (.returned (.int .i64 (n : Nat))) w := ⟨by rw [hq, e3], Below.refl _ _⟩
            have FIN := Lib.hid fin
            have t4 : decide ((1 : Int) < (n : Int)) = false := by simp; omega
            have t3 : decide ((10 : Int) < (n : Int)) = false := by simp; omega
            clear fin e2 e3 hq
            go_wp2_with fail
            go_ret
            exact FIN.out
      · go_wp2_with fail
        refine (cD1 _).mono ?_
        rintro e w' ⟨rfl, rfl⟩
        go_wp2
        go_round
        case rel => exact ⟨n + 1, by omega, by go_num, by rw [HR.out, HS.out]; simp; omega⟩
        case measure => simp [intOf]; omega
    · have hen : k + n = s.size := by omega
      have hst := runN_end (p := digB) (l := s.data.toList) (k := k + n) (by rw [len_text]; omega)
      have t1 : decide ((k : Int) + (n : Int) < (s.size : Int)) = false := by simp; omega
      have t2 : decide (k + n < s.size) = false := by simp; omega
      have HE := Lib.hid hen
      have HST := Lib.hid hst
      clear hst cL cD hen hlt
      have e2 : runN digB (s.data.toList.drop k) = n := by rw [HR.out, HST.out]; rfl
      have hn2 : n ≤ s.size := by omega
      cases hz : (s[k].toNat : Int) == 48
      · have hq : longN (s.data.toList.drop k) = cap 10 n := by rw [HL.out, hz, e2]; rfl
        by_cases h10 : 10 < n
        · have e3 : cap 10 n = 0 := by unfold cap; rw [if_pos h10]
          have fin : OnePost s k w (.returned (.int .i64 0)) w := ⟨by rw [hq, e3]; rfl, Below.refl _ _⟩
          have FIN := Lib.hid fin
          have t3 : decide ((10 : Int) < (n : Int)) = true := by simp; omega
          clear fin e2 e3 hq
          go_wp2_with fail
          go_ret
          exact FIN.out
        · have e3 : cap 10 n = n := by unfold cap; rw [if_neg h10]
          have fin : OnePost s k w (.returned (.int .i64 (n : Nat))) w := ⟨by rw [hq, e3], Below.refl _ _⟩
          have FIN := Lib.hid fin
          have t3 : decide ((10 : Int) < (n : Int)) = false := by simp; omega
          clear fin e2 e3 hq
          by_cases h1 : 1 < n
          · have t4 : decide ((1 : Int) < (n : Int)) = true := by simp; omega
            go_wp2_with fail
            go_ret
            exact FIN.out
          · have t4 : decide ((1 : Int) < (n : Int)) = false := by simp; omega
            go_wp2_with fail
            go_ret
            exact FIN.out
      · have hq : longN (s.data.toList.drop k) = cap 1 n := by rw [HL.out, hz, e2]; rfl
        by_cases h1 : 1 < n
        · have e3 : cap 1 n = 0 := by unfold cap; rw [if_pos h1]
          have fin : OnePost s k w (.returned (.int .i64 0)) w := ⟨by rw [hq, e3]; rfl, Below.refl _ _⟩
          have FIN := Lib.hid fin
          have t4 : decide ((1 : Int) < (n : Int)) = true := by simp; omega
          clear fin e2 e3 hq
          by_cases h10 : 10 < n
          · have t3 : decide ((10 : Int) < (n : Int)) = true := by simp; omega
            go_wp2_with fail
            go_ret
            exact FIN.out
          · have t3 : decide ((10 : Int) < (n : Int)) = false := by simp; omega
            go_wp2_with fail
            go_ret
            exact FIN.out
        · have e3 : cap 1 n = n := by unfold cap; rw [if_neg h1]
          have fin : OnePost s k w (.returned (.int .i64 (n : Nat))) w := ⟨by rw [hq, e3], Below.refl _ _⟩
          have FIN := Lib.hid fin
          have t4 : decide ((1 : Int) < (n : Int)) = false := by simp; omega
          have t3 : decide ((10 : Int) < (n : Int)) = false := by simp; omega
          clear fin e2 e3 hq
          go_wp2_with fail
          go_ret
          exact FIN.out
end Go.Proofs.YtkpiaenpjnajiaaGreatDoor
