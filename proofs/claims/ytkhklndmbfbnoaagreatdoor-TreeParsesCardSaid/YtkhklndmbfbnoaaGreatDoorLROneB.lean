/- The document's own: how long the word at a place is. -/
import Derived.Test.YtkhklndmbfbnoaaGreatDoorLSmall
import Derived.Lib.SlBytesConst
namespace Go.Proofs.YtkhklndmbfbnoaaGreatDoor
open Go.ChangeShapes Go.WideShapes Go.ChangeAt Go.RowKit Go.Joins Go.Deep
set_option linter.unusedVariables false

theorem drop_cons {s : ByteArray} {k : Nat} (h : k < s.size) : s.data.toList.drop k = s[k] :: s.data.toList.drop (k + 1) := by
  have hl : k < s.data.toList.length := by rw [len_text]; exact h
  rw [List.drop_eq_getElem_cons hl]
  rfl
def RelOne (p : UInt8 → Bool) (s : ByteArray) (k : Nat) (v : Value) : Prop := ∃ n : Nat, k + n ≤ s.size ∧ v = .int .i64 (n : Nat) ∧ runN p (s.data.toList.drop k) = n + runN p (s.data.toList.drop (k + n))
theorem runN_next {p : UInt8 → Bool} {s : ByteArray} {k n : Nat} (hlt : k + n < s.size) : runN p (s.data.toList.drop (k + n)) = if p s[k + n] then runN p (s.data.toList.drop (k + (n + 1))) + 1 else 0 := by
  have h := runN_step (p := p) (l := s.data.toList) (k := k + n) (by rw [len_text]; exact hlt)
  rw [← getD_text s (k + n) hlt] at h
  rw [h]; rfl
def OnePost (s : ByteArray) (k : Nat) (w : World) (e : Ending) (w' : World) : Prop := e = .returned (.int .i64 (longN (s.data.toList.drop k) : Nat)) ∧ Below w.heap.size w w'
set_option maxRecDepth 100000 in
set_option maxHeartbeats 3200000 in
theorem rOne_name (s : ByteArray) (k : Nat) (hs : s.size ≤ 1000000000) (hk : k < s.size) (hl1 : letB s[k] = true) (w : World) :
    Calls Tryz.prog 26 #[.string s, .int .i64 (k : Nat)] w (OnePost s k w) := by
  have cL := rLetter_any
  have cD := rDigit_any
  have hL : longN (s.data.toList.drop k) = cap 8 (runN namB (s.data.toList.drop k)) := by
    rw [drop_cons hk]; unfold longN; dsimp only; rw [hl1]; rfl
  have cL0 := cL s[k]
  rw [hl1] at cL0
  have HL := Lib.hid hL
  clear hL hl1
  go_enter Tryz.func26, Tryz.ntmps26
  go_wp2_with fail
  refine (cL0 _).mono ?_
  rintro e w' ⟨rfl, rfl⟩
  go_wp2_with fail
  go_loop [5] (fun v => RelOne namB s k v) (fun v => s.size - (intOf v).toNat)
  case atStart => exact ⟨0, by omega, rfl, by rw [Nat.zero_add, Nat.add_zero]⟩
  case round =>
    obtain ⟨n, hn, rfl, hr⟩ := hrel
    have HR := Lib.hid hr
    clear hr cL0
    by_cases hlt : k + n < s.size
    · have hst := runN_next (p := namB) hlt
      have t1 : decide ((k : Int) + (n : Int) < (s.size : Int)) = true := by simp; omega
      have t2 : decide (k + n < s.size) = true := by simp; omega
      have cL1 := cL s[k + n]
      have cD1 := cD s[k + n]
      obtain ⟨lb, hlb⟩ : ∃ lb, lb = letB s[k + n] := ⟨_, rfl⟩
      obtain ⟨db, hdb⟩ : ∃ db, db = digB s[k + n] := ⟨_, rfl⟩
      have hnb : namB s[k + n] = (lb || db) := by rw [hlb, hdb]; rfl
      rw [hnb] at hst
      rw [← hlb] at cL1
      rw [← hdb] at cD1
      have HS := Lib.hid hst
      clear hst hlb hdb hnb cL cD
      cases lb
      · cases db
        · go_wp2_with fail
          refine (cL1 _).mono ?_
          rintro e w' ⟨rfl, rfl⟩
          go_wp2_with fail
          refine (cD1 _).mono ?_
          rintro e w' ⟨rfl, rfl⟩
          have e2 : runN namB (s.data.toList.drop k) = n := by rw [HR.out, HS.out]; simp
          by_cases h8 : 8 < n
          · have e3 : cap 8 n = 0 := by unfold cap; rw [if_pos h8]
            have fin : OnePost s k w (.returned (.int .i64 0)) w := ⟨by rw [HL.out, e2, e3]; rfl, Below.refl _ _⟩
            have FIN := Lib.hid fin
            have t3 : decide ((8 : Int) < (n : Int)) = true := by simp; omega
            clear fin e2 e3
            go_wp2_with fail
            go_ret
            exact FIN.out
          · have e3 : cap 8 n = n := by unfold cap; rw [if_neg h8]
            have fin : OnePost s k w (.returned (.int .i64 (n : Nat))) w := ⟨by rw [HL.out, e2, e3], Below.refl _ _⟩
            have FIN := Lib.hid fin
            have t3 : decide ((8 : Int) < (n : Int)) = false := by simp; omega
            clear fin e2 e3
            go_wp2_with fail
            go_ret
            exact FIN.out
        · go_wp2_with fail
          refine (cL1 _).mono ?_
          rintro e w' ⟨rfl, rfl⟩
          go_wp2_with fail
          refine (cD1 _).mono ?_
          rintro e w' ⟨rfl, rfl⟩
          go_wp2
          go_round
          case rel => exact ⟨n + 1, by omega, by go_num, by rw [HR.out, HS.out]; simp; omega⟩
          case measure => simp [intOf]; omega
      · go_wp2_with fail
        refine (cL1 _).mono ?_
        rintro e w' ⟨rfl, rfl⟩
        go_wp2
        go_round
        case rel => exact ⟨n + 1, by omega, by go_num, by rw [HR.out, HS.out]; simp; omega⟩
        case measure => simp [intOf]; omega
    · have hen : k + n = s.size := by omega
      have hst := runN_end (p := namB) (l := s.data.toList) (k := k + n) (by rw [len_text]; omega)
      have t1 : decide ((k : Int) + (n : Int) < (s.size : Int)) = false := by simp; omega
      have t2 : decide (k + n < s.size) = false := by simp; omega
      have e2 : runN namB (s.data.toList.drop k) = n := by rw [HR.out, hst]; rfl
      clear hst cL cD
      have hn2 : n ≤ s.size := by omega
      have HE := Lib.hid hen
      clear hen hlt
      by_cases h8 : 8 < n
      · have e3 : cap 8 n = 0 := by unfold cap; rw [if_pos h8]
        have fin : OnePost s k w (.returned (.int .i64 0)) w := ⟨by rw [HL.out, e2, e3]; rfl, Below.refl _ _⟩
        have FIN := Lib.hid fin
        have t3 : decide ((8 : Int) < (n : Int)) = true := by simp; omega
        clear fin e2 e3
        go_wp2_with fail
        go_ret
        exact FIN.out
      · have e3 : cap 8 n = n := by unfold cap; rw [if_neg h8]
        have fin : OnePost s k w (.returned (.int .i64 (n : Nat))) w := ⟨by rw [HL.out, e2, e3], Below.refl _ _⟩
        have FIN := Lib.hid fin
        have t3 : decide ((8 : Int) < (n : Int)) = false := by simp; omega
        clear fin e2 e3
        go_wp2_with fail
        go_ret
        exact FIN.out
set_option maxRecDepth 100000 in
set_option maxHeartbeats 3200000 in
theorem rOne_digit (s : ByteArray) (k : Nat) (hs : s.size ≤ 1000000000) (hk : k < s.size) (hl1 : letB s[k] = false) (hd1 : digB s[k] = true) (w : World) :
    Calls Tryz.prog 26 #[.string s, .int .i64 (k : Nat)] w (OnePost s k w) := by
  have cL := rLetter_any
  have cD := rDigit_any
  have hL : longN (s.data.toList.drop k) = if (s[k].toNat : Int) == 48 then cap 1 (runN digB (s.data.toList.drop k)) else cap 10 (runN digB (s.data.toList.drop k)) := by
    rw [drop_cons hk]; unfold longN; dsimp only; rw [hl1, hd1]; rfl
  have cL0 := cL s[k]
  have cD0 := cD s[k]
  rw [hl1] at cL0
  rw [hd1] at cD0
  have HL := Lib.hid hL
  clear hL hl1 hd1
  go_enter Tryz.func26, Tryz.ntmps26
  go_wp2_with fail
  refine (cL0 _).mono ?_
  rintro e w' ⟨rfl, rfl⟩
  go_wp2_with fail
  refine (cD0 _).mono ?_
  rintro e w' ⟨rfl, rfl⟩
  go_wp2_with fail
  go_loop [5] (fun v => RelOne digB s k v) (fun v => s.size - (intOf v).toNat)
  case atStart => exact ⟨0, by omega, rfl, by rw [Nat.zero_add, Nat.add_zero]⟩
  case round =>
    obtain ⟨n, hn, rfl, hr⟩ := hrel
    have HR := Lib.hid hr
    clear hr cL0 cD0
    by_cases hlt : k + n < s.size
    · have hst := runN_next (p := digB) hlt
      have t1 : decide ((k : Int) + (n : Int) < (s.size : Int)) = true := by simp; omega
      have t2 : decide (k + n < s.size) = true := by simp; omega
      have cD1 := cD s[k + n]
      obtain ⟨db, hdb⟩ : ∃ db, db = digB s[k + n] := ⟨_, rfl⟩
      rw [← hdb] at hst
      rw [← hdb] at cD1
      have HS := Lib.hid hst
      clear hst hdb cL cD
      cases db
      · go_wp2_with fail
        refine (cD1 _).mono ?_
        rintro e w' ⟨rfl, rfl⟩
        have e2 : runN digB (s.data.toList.drop k) = n := by rw [HR.out, HS.out]; simp
        have hn2 : n ≤ s.size := by omega
        cases hz : (s[k].toNat : Int) == 48
        · have hq : longN (s.data.toList.drop k) = cap 10 n := by rw [HL.out, hz, e2]; rfl
          by_cases h10 : 10 < n
          · have e3 : cap 10 n = 0 := by unfold cap; rw [if_pos h10]
            have fin : OnePost s k w (.returned (.int .i64 0)) w := ⟨by rw [hq, e3]; rfl, Below.refl _ _⟩
            have FIN := Lib.hid fin
            have t3 : decide ((10 : Int) < (n : Int)) = true := by simp; omega
            clear fin e2 e3 hq
            go_wp2_with fail
            go_ret
            exact FIN.out
          · have e3 : cap 10 n = n := by unfold cap; rw [if_neg h10]
            have fin : OnePost s k w (.returned (.int .i64 (n : Nat))) w := ⟨by rw [hq, e3], Below.refl _ _⟩
            have FIN := Lib.hid fin
            have t3 : decide ((10 : Int) < (n : Int)) = false := by simp; omega
            clear fin e2 e3 hq
            by_cases h1 : 1 < n
            · have t4 : decide ((1 : Int) < (n : Int)) = true := by simp; omega
              go_wp2_with fail
              go_ret
              exact FIN.out
            · have t4 : decide ((1 : Int) < (n : Int)) = false := by simp; omega
              go_wp2_with fail
              go_ret
              exact FIN.out
        · have hq : longN (s.data.toList.drop k) = cap 1 n := by rw [HL.out, hz, e2]; rfl
          by_cases h1 : 1 < n
          · have e3 : cap 1 n = 0 := by unfold cap; rw [if_pos h1]
            have fin : OnePost s k w (.returned (.int .i64 0)) w := ⟨by rw [hq, e3]; rfl, Below.refl _ _⟩
            have FIN := Lib.hid fin
            have t4 : decide ((1 : Int) < (n : Int)) = true := by simp; omega
            clear fin e2 e3 hq
            by_cases h10 : 10 < n
            · have t3 : decide ((10 : Int) < (n : Int)) = true := by simp; omega
              go_wp2_with fail
              go_ret
              exact FIN.out
            · have t3 : decide ((10 : Int) < (n : Int)) = false := by simp; omega
              go_wp2_with fail
              go_ret
              exact FIN.out
          · have e3 : cap 1 n = n := by unfold cap; rw [if_neg h1]
            have fin : OnePost s k w (.returned (.int .i64 (n : Nat))) w := ⟨by rw [hq, e3], Below.refl _ _⟩
            have FIN := Lib.hid fin
            have t4 : decide ((1 : Int) < (n : Int)) = false := by simp; omega
            have t3 : decide ((10 : Int) < (n : Int)) = false := by simp; omega
            clear fin e2 e3 hq
            go_wp2_with fail
            go_ret
            exact FIN.out
      · go_wp2_with fail
        refine (cD1 _).mono ?_
        rintro e w' ⟨rfl, rfl⟩
        go_wp2
        go_round
        case rel => exact ⟨n + 1, by omega, by go_num, by rw [HR.out, HS.out]; simp; omega⟩
        case measure => simp [intOf]; omega
    · have hen : k + n = s.size := by omega
      have hst := runN_end (p := digB) (l := s.data.toList) (k := k + n) (by rw [len_text]; omega)
      have t1 : decide ((k : Int) + (n : Int) < (s.size : Int)) = false := by simp; omega
      have t2 : decide (k + n < s.size) = false := by simp; omega
      have HE := Lib.hid hen
      have HST := Lib.hid hst
      clear hst cL cD hen hlt
      have e2 : runN digB (s.data.toList.drop k) = n := by rw [HR.out, HST.out]; rfl
      have hn2 : n ≤ s.size := by omega
      cases hz : (s[k].toNat : Int) == 48
      · have hq : longN (s.data.toList.drop k) = cap 10 n := by rw [HL.out, hz, e2]; rfl
        by_cases h10 : 10 < n
        · have e3 : cap 10 n = 0 := by unfold cap; rw [if_pos h10]
          have fin : OnePost s k w (.returned (.int .i64 0)) w := ⟨by rw [hq, e3]; rfl, Below.refl _ _⟩
          have FIN := Lib.hid fin
          have t3 : decide ((10 : Int) < (n : Int)) = true := by simp; omega
          clear fin e2 e3 hq
          go_wp2_with fail
          go_ret
          exact FIN.out
        · have e3 : cap 10 n = n := by unfold cap; rw [if_neg h10]
          have fin : OnePost s k w (.returned (.int .i64 (n : Nat))) w := ⟨by rw [hq, e3], Below.refl _ _⟩
          have FIN := Lib.hid fin
          have t3 : decide ((10 : Int) < (n : Int)) = false := by simp; omega
          clear fin e2 e3 hq
          by_cases h1 : 1 < n
          · have t4 : decide ((1 : Int) < (n : Int)) = true := by simp; omega
            go_wp2_with fail
            go_ret
            exact FIN.out
          · have t4 : decide ((1 : Int) < (n : Int)) = false := by simp; omega
            go_wp2_with fail
            go_ret
            exact FIN.out
      · have hq : longN (s.data.toList.drop k) = cap 1 n := by rw [HL.out, hz, e2]; rfl
        by_cases h1 : 1 < n
        · have e3 : cap 1 n = 0 := by unfold cap; rw [if_pos h1]
          have fin : OnePost s k w (.returned (.int .i64 0)) w := ⟨by rw [hq, e3]; rfl, Below.refl _ _⟩
          have FIN := Lib.hid fin
          have t4 : decide ((1 : Int) < (n : Int)) = true := by simp; omega
          clear fin e2 e3 hq
          by_cases h10 : 10 < n
          · have t3 : decide ((10 : Int) < (n : Int)) = true := by simp; omega
            go_wp2_with fail
            go_ret
            exact FIN.out
          · have t3 : decide ((10 : Int) < (n : Int)) = false := by simp; omega
            go_wp2_with fail
            go_ret
            exact FIN.out
        · have e3 : cap 1 n = n := by unfold cap; rw [if_neg h1]
          have fin : OnePost s k w (.returned (.int .i64 (n : Nat))) w := ⟨by rw [hq, e3], Below.refl _ _⟩
          have FIN := Lib.hid fin
          have t4 : decide ((1 : Int) < (n : Int)) = false := by simp; omega
          have t3 : decide ((10 : Int) < (n : Int)) = false := by simp; omega
          clear fin e2 e3 hq
          go_wp2_with fail
          go_ret
          exact FIN.out
end Go.Proofs.YtkhklndmbfbnoaaGreatDoor

/- The document's own: how long the sign at a place is. -/
namespace Go.Proofs.YtkhklndmbfbnoaaGreatDoor
open Go.ChangeShapes Go.WideShapes Go.ChangeAt Go.RowKit Go.Joins Go.Deep
set_option linter.unusedVariables false

theorem pair_ext {s : ByteArray} {k : Nat} (h : k + 1 < s.size) : (s.extract k (k + 2)).toList = [s[k], s[k + 1]] := by
  rw [ByteArray.toList_eq, Lib.extract_data, drop_cons (show k < s.size by omega), drop_cons h, show k + 2 - k = 2 by omega]
  rfl
theorem pair_at {s : ByteArray} {k : Nat} (h : k + 1 < s.size) : pairB (s.data.toList.drop k) = ((s[k] == 61 && s[k + 1] == 61) || (s[k] == 60 && s[k + 1] == 60) || (s[k] == 62 && s[k + 1] == 62)) := by
  rw [drop_cons (show k < s.size by omega), drop_cons h]
  rfl
theorem pair_not {s : ByteArray} {k : Nat} (h0 : k < s.size) (h : ¬ k + 1 < s.size) : pairB (s.data.toList.drop k) = false := by
  rw [drop_cons h0, List.drop_eq_nil_of_le (by rw [len_text]; omega)]
  rfl
theorem long_sign {s : ByteArray} {k : Nat} (h0 : k < s.size) (hl1 : letB s[k] = false) (hd1 : digB s[k] = false) :
    longN (s.data.toList.drop k) = if pairB (s.data.toList.drop k) then 2 else if signs.contains s[k] then 1 else 0 := by
  have h48 : ((s[k].toNat : Int) == 48) = false := by
    rw [beq_eq_false_iff_ne]
    intro h
    simp only [digB, Bool.and_eq_false_iff, decide_eq_false_iff_not] at hd1
    omega
  rw [drop_cons h0]
  unfold longN
  dsimp only
  rw [hl1, hd1, h48]
  rfl
theorem eq_u8 {a b : UInt8} (h : a ≠ b) : ((a.toNat : Int) == (b.toNat : Int)) = false := by
  rw [beq_eq_false_iff_ne]
  intro e
  exact h (UInt8.toNat_inj.1 (by omega))
theorem eq_u8' {a b : UInt8} (h : a = b) : ((a.toNat : Int) == (b.toNat : Int)) = true := by subst h; simp
/-- the loop over the signs -/
def RelSign (s : ByteArray) (k : Nat) (hk : k < s.size) (w0 : World) (v : Value) (wr : World) : Prop := ∃ i : Nat, i ≤ 22 ∧ v = .int .i64 (i : Nat) ∧ (∀ j, j < i → signs.getD j 0 ≠ s[k]) ∧ wr = w0
theorem sign_cell (w : World) (i : Nat) (hi : i < 22) : (w.alloc (.cells #[.int .u8 123, .int .u8 125, .int .u8 40, .int .u8 41, .int .u8 91, .int .u8 93, .int .u8 59, .int .u8 58, .int .u8 44, .int .u8 46, .int .u8 61, .int .u8 43, .int .u8 45, .int .u8 42, .int .u8 47, .int .u8 37, .int .u8 38, .int .u8 124, .int .u8 94, .int .u8 126, .int .u8 33, .int .u8 60] 5 (22, 23))).cell? ⟨w.heap.size, i, none⟩ = some (.int .u8 ((signs.getD i 0).toNat : Int)) := by
  rw [cell_of_row _ w.heap.size i #[.int .u8 123, .int .u8 125, .int .u8 40, .int .u8 41, .int .u8 91, .int .u8 93, .int .u8 59, .int .u8 58, .int .u8 44, .int .u8 46, .int .u8 61, .int .u8 43, .int .u8 45, .int .u8 42, .int .u8 47, .int .u8 37, .int .u8 38, .int .u8 124, .int .u8 94, .int .u8 126, .int .u8 33, .int .u8 60] 5 (22, 23) (by show (w.heap.push _)[w.heap.size]? = _; simp)]
  have : ∀ i, i < 22 → (#[.int .u8 123, .int .u8 125, .int .u8 40, .int .u8 41, .int .u8 91, .int .u8 93, .int .u8 59, .int .u8 58, .int .u8 44, .int .u8 46, .int .u8 61, .int .u8 43, .int .u8 45, .int .u8 42, .int .u8 47, .int .u8 37, .int .u8 38, .int .u8 124, .int .u8 94, .int .u8 126, .int .u8 33, .int .u8 60] : Array Value)[i]? = some (.int .u8 ((signs.getD i 0).toNat : Int)) := by
    intro i hi
    match i, hi with
    | 0, _ => rfl
    | 1, _ => rfl
    | 2, _ => rfl
    | 3, _ => rfl
    | 4, _ => rfl
    | 5, _ => rfl
    | 6, _ => rfl
    | 7, _ => rfl
    | 8, _ => rfl
    | 9, _ => rfl
    | 10, _ => rfl
    | 11, _ => rfl
    | 12, _ => rfl
    | 13, _ => rfl
    | 14, _ => rfl
    | 15, _ => rfl
    | 16, _ => rfl
    | 17, _ => rfl
    | 18, _ => rfl
    | 19, _ => rfl
    | 20, _ => rfl
    | 21, _ => rfl
    | n + 22, h => exact absurd h (by omega)
  exact this i hi
theorem signs_none {c : UInt8} (h : ∀ j, j < 22 → signs.getD j 0 ≠ c) : signs.contains c = false := by
  rw [List.contains_eq_any_beq, List.any_eq_false]
  intro x hx
  rw [List.mem_iff_getElem?] at hx
  obtain ⟨j, hj⟩ := hx
  have hlt : j < 22 := by
    have := (List.getElem?_eq_some_iff.1 hj).1
    simpa [signs] using this
  have := h j hlt
  rw [List.getD_eq_getElem?_getD, hj] at this
  simp at this
  intro e
  rw [beq_iff_eq] at e
  exact this e.symm
theorem signs_some {c : UInt8} {j : Nat} (hj : j < 22) (h : signs.getD j 0 = c) : signs.contains c = true := by
  have hm : c ∈ signs := by
    rw [← h, List.getD_eq_getElem?_getD, List.getElem?_eq_getElem (show j < signs.length from hj)]
    exact List.getElem_mem _
  simpa [List.contains_iff_mem] using hm
set_option maxRecDepth 100000 in
set_option maxHeartbeats 3200000 in
theorem rOne_sign (s : ByteArray) (k : Nat) (hs : s.size ≤ 1000000000) (hk : k < s.size) (hl1 : letB s[k] = false) (hd1 : digB s[k] = false) (w : World) :
    Calls Tryz.prog 26 #[.string s, .int .i64 (k : Nat)] w (OnePost s k w) := by
  have kc := fun (w : World) (C : Array Value) (n c : Nat) => Lib.run_convert_bytes_const (P := Tryz.prog) w 105 5 C n c Tryz.underlying105 Tryz.underlying5
  have cL0 := rLetter_any s[k]
  have cD0 := rDigit_any s[k]
  have hL := long_sign hk hl1 hd1
  rw [hl1] at cL0
  rw [hd1] at cD0
  clear hl1 hd1
  by_cases h2 : k + 1 < s.size
  · have t1 : decide ((k : Int) + 1 < (s.size : Int)) = true := by simp; omega
    have t2 : decide (k + 1 < s.size) = true := by simp; omega
    have t3 : (k : Int) + 2 ≤ (s.size : Int) := by omega
    have hx := pair_ext h2
    have hp := pair_at h2
    cases p1 : (s[k] == 61 && s[k + 1] == 61)
    · cases p2 : (s[k] == 60 && s[k + 1] == 60)
      · cases p3 : (s[k] == 62 && s[k + 1] == 62)
        · rw [p1, p2, p3] at hp
          rw [show pairB (s.data.toList.drop k) = false from hp] at hL
          have x1 : ((s.extract k (k + 2)).toList == [61, 61]) = false := by rw [hx]; simpa using p1
          have x2 : ((s.extract k (k + 2)).toList == [60, 60]) = false := by rw [hx]; simpa using p2
          have x3 : ((s.extract k (k + 2)).toList == [62, 62]) = false := by rw [hx]; simpa using p3
          have HL : Hid (longN (s.data.toList.drop k) = if signs.contains s[k] then 1 else 0) := Lib.hid hL
          clear hL p1 p2 p3 hx hp
          obtain ⟨w1, hw1⟩ : ∃ w1, w1 = w.alloc (.cells #[.int .u8 123, .int .u8 125, .int .u8 40, .int .u8 41, .int .u8 91, .int .u8 93, .int .u8 59, .int .u8 58, .int .u8 44, .int .u8 46, .int .u8 61, .int .u8 43, .int .u8 45, .int .u8 42, .int .u8 47, .int .u8 37, .int .u8 38, .int .u8 124, .int .u8 94, .int .u8 126, .int .u8 33, .int .u8 60] 5 (22, 23)) := ⟨_, rfl⟩
          have hcell : ∀ i, i < 22 → w1.cell? ⟨w.heap.size, i, none⟩ = some (.int .u8 ((signs.getD i 0).toNat : Int)) := fun i hi => by rw [hw1]; exact sign_cell w i hi
          have hbb : Below w.heap.size w w1 := by rw [hw1]; exact (Below.refl _ _).alloc (Nat.le_refl _) _
          have HB := Lib.hid hbb
          have HW1 := Lib.hid hw1
          clear hbb hw1

          go_enter Tryz.func26, Tryz.ntmps26
          go_wp2_with fail
          refine (cL0 _).mono ?_
          rintro e w' ⟨rfl, rfl⟩
          go_wp2_with fail
          refine (cD0 _).mono ?_
          rintro e w' ⟨rfl, rfl⟩
          go_wp2_with fail
          rw [← HW1.out]
          clear x1 x2 x3
          go_loopw [40] (fun v wr => RelSign s k hk w1 v wr) (fun v _ => 22 - (intOf v).toNat)
          case atStart => exact ⟨0, by omega, rfl, fun j h => absurd h (Nat.not_lt_zero j), rfl⟩
          case round =>
            obtain ⟨i, hi, rfl, hno, rfl⟩ := hrel
            have HNO := Lib.hid hno
            clear hno
            by_cases hlt : i < 22
            · have hci := hcell i hlt
              have u1 : decide ((i : Int) < 22) = true := by simp; omega
              by_cases he : signs.getD i 0 = s[k]
              · have e5 := eq_u8' he.symm
                have fin : OnePost s k w (.returned (.int .i64 1)) wr := ⟨by rw [HL.out, signs_some hlt he]; rfl, HB.out⟩
                have FIN := Lib.hid fin
                have HE := Lib.hid he
                clear fin he hcell
                generalize (signs.getD i 0).toNat = sg at *
                go_wp2_with fail
                go_ret
                exact FIN.out
              · have e5 := eq_u8 (Ne.symm he)
                have HE := Lib.hid he
                clear he hcell
                generalize hsg : (signs.getD i 0).toNat = sg at hci e5
                clear hsg
                go_wp2_with fail
                go_roundw
                case rel => exact ⟨i + 1, by omega, by go_num, fun j hj => by rcases Nat.lt_or_ge j i with h | h; exact HNO.out j h; (obtain rfl : j = i := by omega); exact HE.out, rfl⟩
                case measure => simp [intOf]; omega
            · obtain rfl : i = 22 := by omega
              have fin : OnePost s k w (.returned (.int .i64 0)) wr := ⟨by rw [HL.out, signs_none HNO.out]; rfl, HB.out⟩
              have FIN := Lib.hid fin
              clear fin hcell hi hlt
              go_wp2_with fail
              go_ret
              exact FIN.out
        · rw [p1, p2, p3] at hp
          rw [show pairB (s.data.toList.drop k) = true from hp] at hL
          have x1 : ((s.extract k (k + 2)).toList == [61, 61]) = false := by rw [hx]; simpa using p1
          have x2 : ((s.extract k (k + 2)).toList == [60, 60]) = false := by rw [hx]; simpa using p2
          have x3 : ((s.extract k (k + 2)).toList == [62, 62]) = true := by rw [hx]; simpa using p3
          have HL := Lib.hid hL
          clear hL p1 p2 p3 hx hp
          go_enter Tryz.func26, Tryz.ntmps26
          go_wp2_with fail
          refine (cL0 _).mono ?_
          rintro e w' ⟨rfl, rfl⟩
          go_wp2_with fail
          refine (cD0 _).mono ?_
          rintro e w' ⟨rfl, rfl⟩
          go_wp2_with fail
          go_ret
          exact ⟨by rw [HL.out]; rfl, Below.refl _ _⟩
      · rw [p1, p2] at hp
        rw [show pairB (s.data.toList.drop k) = true from by rw [hp]; rfl] at hL
        have x1 : ((s.extract k (k + 2)).toList == [61, 61]) = false := by rw [hx]; simpa using p1
        have x2 : ((s.extract k (k + 2)).toList == [60, 60]) = true := by rw [hx]; simpa using p2
        have HL := Lib.hid hL
        clear hL p1 p2 hx hp
        go_enter Tryz.func26, Tryz.ntmps26
        go_wp2_with fail
        refine (cL0 _).mono ?_
        rintro e w' ⟨rfl, rfl⟩
        go_wp2_with fail
        refine (cD0 _).mono ?_
        rintro e w' ⟨rfl, rfl⟩
        go_wp2_with fail
        go_ret
        exact ⟨by rw [HL.out]; rfl, Below.refl _ _⟩
    · rw [p1] at hp
      rw [show pairB (s.data.toList.drop k) = true from by rw [hp]; simp] at hL
      have x1 : ((s.extract k (k + 2)).toList == [61, 61]) = true := by rw [hx]; simpa using p1
      have HL := Lib.hid hL
      clear hL p1 hx hp
      go_enter Tryz.func26, Tryz.ntmps26
      go_wp2_with fail
      refine (cL0 _).mono ?_
      rintro e w' ⟨rfl, rfl⟩
      go_wp2_with fail
      refine (cD0 _).mono ?_
      rintro e w' ⟨rfl, rfl⟩
      go_wp2_with fail
      go_ret
      exact ⟨by rw [HL.out]; rfl, Below.refl _ _⟩
  · have t1 : decide ((k : Int) + 1 < (s.size : Int)) = false := by simp; omega
    have t2 : decide (k + 1 < s.size) = false := by simp; omega
    rw [pair_not hk h2] at hL
    have HL : Hid (longN (s.data.toList.drop k) = if signs.contains s[k] then 1 else 0) := Lib.hid hL
    clear hL
    obtain ⟨w1, hw1⟩ : ∃ w1, w1 = w.alloc (.cells #[.int .u8 123, .int .u8 125, .int .u8 40, .int .u8 41, .int .u8 91, .int .u8 93, .int .u8 59, .int .u8 58, .int .u8 44, .int .u8 46, .int .u8 61, .int .u8 43, .int .u8 45, .int .u8 42, .int .u8 47, .int .u8 37, .int .u8 38, .int .u8 124, .int .u8 94, .int .u8 126, .int .u8 33, .int .u8 60] 5 (22, 23)) := ⟨_, rfl⟩
    have hcell : ∀ i, i < 22 → w1.cell? ⟨w.heap.size, i, none⟩ = some (.int .u8 ((signs.getD i 0).toNat : Int)) := fun i hi => by rw [hw1]; exact sign_cell w i hi
    have hbb : Below w.heap.size w w1 := by rw [hw1]; exact (Below.refl _ _).alloc (Nat.le_refl _) _
    have HB := Lib.hid hbb
    have HW1 := Lib.hid hw1
    clear hbb hw1
    go_enter Tryz.func26, Tryz.ntmps26
    go_wp2_with fail
    refine (cL0 _).mono ?_
    rintro e w' ⟨rfl, rfl⟩
    go_wp2_with fail
    refine (cD0 _).mono ?_
    rintro e w' ⟨rfl, rfl⟩
    go_wp2_with fail
    rw [← HW1.out]
    go_loopw [40] (fun v wr => RelSign s k hk w1 v wr) (fun v _ => 22 - (intOf v).toNat)
    case atStart => exact ⟨0, by omega, rfl, fun j h => absurd h (Nat.not_lt_zero j), rfl⟩
    case round =>
      obtain ⟨i, hi, rfl, hno, rfl⟩ := hrel
      have HNO := Lib.hid hno
      clear hno
      by_cases hlt : i < 22
      · have hci := hcell i hlt
        have u1 : decide ((i : Int) < 22) = true := by simp; omega
        by_cases he : signs.getD i 0 = s[k]
        · have e5 := eq_u8' he.symm
          have fin : OnePost s k w (.returned (.int .i64 1)) wr := ⟨by rw [HL.out, signs_some hlt he]; rfl, HB.out⟩
          have FIN := Lib.hid fin
          have HE := Lib.hid he
          clear fin he hcell
          generalize (signs.getD i 0).toNat = sg at *
          go_wp2_with fail
          go_ret
          exact FIN.out
        · have e5 := eq_u8 (Ne.symm he)
          have HE := Lib.hid he
          clear he hcell
          generalize hsg : (signs.getD i 0).toNat = sg at hci e5
          clear hsg
          go_wp2_with fail
          go_roundw
          case rel => exact ⟨i + 1, by omega, by go_num, fun j hj => by rcases Nat.lt_or_ge j i with h | h; exact HNO.out j h; (obtain rfl : j = i := by omega); exact HE.out, rfl⟩
          case measure => simp [intOf]; omega
      · obtain rfl : i = 22 := by omega
        have fin : OnePost s k w (.returned (.int .i64 0)) wr := ⟨by rw [HL.out, signs_none HNO.out]; rfl, HB.out⟩
        have FIN := Lib.hid fin
        clear fin hcell hi hlt
        go_wp2_with fail
        go_ret
        exact FIN.out

theorem rOne_any (s : ByteArray) (k : Nat) (hs : s.size ≤ 1000000000) (hk : k < s.size) (w : World) :
    Calls Tryz.prog 26 #[.string s, .int .i64 (k : Nat)] w (OnePost s k w) := by
  cases hl1 : letB s[k]
  · cases hd1 : digB s[k]
    · exact rOne_sign s k hs hk hl1 hd1 w
    · exact rOne_digit s k hs hk hl1 hd1 w
  · exact rOne_name s k hs hk hl1 w
end Go.Proofs.YtkhklndmbfbnoaaGreatDoor
