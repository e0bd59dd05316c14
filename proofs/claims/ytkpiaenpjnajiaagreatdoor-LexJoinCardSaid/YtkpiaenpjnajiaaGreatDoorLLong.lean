/- Package lex: the longest word with which a text begins. -/
import Derived.Test.YtkpiaenpjnajiaaGreatDoorLSmall
import Derived.Test.YtkpiaenpjnajiaaGreatDoorLShelf
namespace Go.Proofs.YtkpiaenpjnajiaaGreatDoor
open Go.ChangeShapes Go.WideShapes Go.ChangeAt Go.RowKit Go.Joins Go.Deep
set_option linter.unusedVariables false

theorem pair_iff (l : List UInt8) : pairB l = (Lib.hasPrefix l [61, 61] || Lib.hasPrefix l [60, 60] || Lib.hasPrefix l [62, 62]) := by
  match l with
  | [] => rfl
  | [a] => simp [pairB, Lib.hasPrefix, List.isPrefixOf]
  | a :: b :: r =>
    simp only [pairB, Lib.hasPrefix, List.isPrefixOf, Bool.and_true]
    congr 1
    · congr 1
      · rw [Bool.beq_comm (a := a), Bool.beq_comm (a := b)]
      · rw [Bool.beq_comm (a := a), Bool.beq_comm (a := b)]
    · rw [Bool.beq_comm (a := a), Bool.beq_comm (a := b)]
theorem has_any (s : ByteArray) (c : UInt8) (w : World) : Calls Tryz.prog 71 #[.string s, .string ⟨#[c, c]⟩] w fun e w' => e = .returned (.bool (Lib.hasPrefix s.data.toList [c, c])) ∧ w = w' :=
  (strings_HasPrefix s ⟨#[c, c]⟩ w).mono fun e w' ⟨h, h'⟩ => ⟨h, h'.symm⟩
theorem isPair_any (s : ByteArray) (w : World) : Calls Tryz.prog 54 #[.string s] w fun e w' => e = .returned (.bool (pairB s.data.toList)) ∧ w = w' := by
  have cH := fun c w => has_any s c w
  have HP := Lib.hid (pair_iff s.data.toList)
  have c1 := cH 61
  have c2 := cH 60
  have c3 := cH 62
  clear cH
  generalize Lib.hasPrefix s.data.toList [61, 61] = b1 at *
  generalize Lib.hasPrefix s.data.toList [60, 60] = b2 at *
  generalize Lib.hasPrefix s.data.toList [62, 62] = b3 at *
  cases b1
  · cases b2
    · go_enter Tryz.func54, Tryz.ntmps54
      go_wp2_with fail
      refine (c1 _).mono ?_
      rintro e w' ⟨rfl, rfl⟩
      go_wp2_with fail
      refine (c2 _).mono ?_
      rintro e w' ⟨rfl, rfl⟩
      go_wp2_with fail
      refine (c3 _).mono ?_
      rintro e w' ⟨rfl, rfl⟩
      go_wp2
      go_ret
      exact ⟨by rw [HP.out]; rfl, rfl⟩
    · go_enter Tryz.func54, Tryz.ntmps54
      go_wp2_with fail
      refine (c1 _).mono ?_
      rintro e w' ⟨rfl, rfl⟩
      go_wp2_with fail
      refine (c2 _).mono ?_
      rintro e w' ⟨rfl, rfl⟩
      go_wp2
      go_ret
      exact ⟨by rw [HP.out]; rfl, rfl⟩
  · go_enter Tryz.func54, Tryz.ntmps54
    go_wp2_with fail
    refine (c1 _).mono ?_
    rintro e w' ⟨rfl, rfl⟩
    go_wp2
    go_ret
    exact ⟨by rw [HP.out]; simp, rfl⟩
def idxS (c : UInt8) : Int := Lib.indexByte signs c
theorem idx_pos : ∀ (l : List UInt8) (c : UInt8), l.contains c = true → 0 ≤ Lib.indexByte l c := by
  intro l c
  induction l with
  | nil => intro h; simp at h
  | cons b l ih =>
    intro h
    unfold Lib.indexByte
    split
    · exact Int.le_refl 0
    · rename_i hb
      have hc : l.contains c = true := by
        simp only [List.contains_cons, Bool.or_eq_true] at h
        rcases h with h | h
        · rw [beq_iff_eq] at h; subst h; simp at hb
        · exact h
      have := ih hc
      split
      · rename_i he
        rw [beq_iff_eq] at he
        omega
      · omega
theorem idx_neg : ∀ (l : List UInt8) (c : UInt8), l.contains c = false → Lib.indexByte l c = -1 := by
  intro l c
  induction l with
  | nil => intro _; rfl
  | cons b l ih =>
    intro h
    simp only [List.contains_cons, Bool.or_eq_false_iff] at h
    unfold Lib.indexByte
    rw [if_neg (by intro hb; rw [beq_iff_eq] at hb; subst hb; simp at h), ih h.2]
    rfl
theorem signs_any (c : UInt8) (w : World) : Calls Tryz.prog 55 #[.string ⟨#[123, 125, 40, 41, 91, 93, 59, 58, 44, 46, 61, 43, 45, 42, 47, 37, 38, 124, 94, 126, 33, 60]⟩, .int .u8 (c.toNat : Int)] w fun e w' => e = .returned (.int .i64 (idxS c)) ∧ w = w' :=
  (strings_IndexByte ⟨#[123, 125, 40, 41, 91, 93, 59, 58, 44, 46, 61, 43, 45, 42, 47, 37, 38, 124, 94, 126, 33, 60]⟩ (c.toNat : Int) w).mono fun e w' ⟨h, h'⟩ => ⟨by rw [h]; simp [idxS, signs], h'.symm⟩
set_option maxHeartbeats 1600000 in
theorem longest_any (s : ByteArray) (w : World) (hs : s.size ≤ maxLen) : Calls Tryz.prog 37 #[.string s] w fun e w' => e = .returned (.int .i64 (longN s.data.toList : Nat)) ∧ w = w' := by
  by_cases h0 : s.size = 0
  · obtain rfl : s = ⟨#[]⟩ := ByteArray.ext (Array.eq_empty_of_size_eq_zero h0)
    go_enter Tryz.func37, Tryz.ntmps37
    go_wp2
    go_ret
    exact ⟨rfl, rfl⟩
  · have hpos : 0 < s.size := by omega
    obtain ⟨r, hr⟩ : ∃ r, s.data.toList = s[0] :: r := by
      have hl : 0 < s.data.toList.length := by rw [len_text]; exact hpos
      refine ⟨s.data.toList.drop 1, ?_⟩
      have := List.drop_eq_getElem_cons hl
      rw [List.drop_zero] at this
      exact this
    have hne : s.toList.isEmpty = false := by rw [ByteArray.toList_eq, hr]; rfl
    have cR := fun w => runName_any s w hs
    have cD := fun w => runDigit_any s w hs
    have cP := fun w => isPair_any s w
    have b1 := runN_le namB s.data.toList
    have b2 := runN_le digB s.data.toList
    rw [len_text] at b1 b2
    unfold maxLen at hs
    have cU8 := fun w => unlessAbove_any 8 (runN namB s.data.toList) (by omega) (by omega) w
    have cU1 := fun w => unlessAbove_any 1 (runN digB s.data.toList) (by omega) (by omega) w
    have cU10 := fun w => unlessAbove_any 10 (runN digB s.data.toList) (by omega) (by omega) w
    have cL := fun w => isLetter_any s[0] w
    have cG := fun w => isDigit_any s[0] w
    have cS := fun w => signs_any s[0] w
    have hx1 := idx_pos signs s[0]
    have hx2 := idx_neg signs s[0]
    have hL : longN s.data.toList = if letB s[0] then cap 8 (runN namB s.data.toList) else if (s[0].toNat : Int) == 48 then cap 1 (runN digB s.data.toList) else if digB s[0] then cap 10 (runN digB s.data.toList) else if pairB s.data.toList then 2 else if signs.contains s[0] then 1 else 0 := by
      rw [hr]; rfl
    change signs.contains s[0] = true → 0 ≤ idxS s[0] at hx1
    change signs.contains s[0] = false → idxS s[0] = -1 at hx2
    clear hr
    generalize runN namB s.data.toList = n1 at *
    generalize runN digB s.data.toList = n2 at *
    generalize hn8 : cap 8 n1 = c8 at *
    generalize hn1 : cap 1 n2 = c1 at *
    generalize hn10 : cap 10 n2 = c10 at *
    clear hn8 hn1 hn10
    generalize letB s[0] = l1 at *
    generalize digB s[0] = d1 at *
    generalize pairB s.data.toList = p1 at *
    generalize signs.contains s[0] = s1 at *
    generalize idxS s[0] = ix at *
    generalize longN s.data.toList = lg at *
    cases h48 : (s[0].toNat : Int) == 48 <;> rw [h48] at hL <;> cases l1
    · cases d1
      · cases p1
        · cases s1
          · have hx := hx2 rfl
            subst hx
            have HL := Lib.hid hL
            clear hL hx1 hx2
            go_enter Tryz.func37, Tryz.ntmps37
            go_wp2_with fail
            refine (cL _).mono ?_
            rintro e w' ⟨rfl, rfl⟩
            go_wp2_with fail
            refine (cG _).mono ?_
            rintro e w' ⟨rfl, rfl⟩
            go_wp2_with fail
            refine (cP _).mono ?_
            rintro e w' ⟨rfl, rfl⟩
            go_wp2_with fail
            refine (cS _).mono ?_
            rintro e w' ⟨rfl, rfl⟩
            go_wp2
            go_ret
            exact ⟨by rw [HL.out]; rfl, rfl⟩
          · have hx := hx1 rfl
            have hy : decide (0 ≤ ix) = true := by simpa using hx
            have HL := Lib.hid hL
            clear hL hx1 hx2
            go_enter Tryz.func37, Tryz.ntmps37
            go_wp2_with fail
            refine (cL _).mono ?_
            rintro e w' ⟨rfl, rfl⟩
            go_wp2_with fail
            refine (cG _).mono ?_
            rintro e w' ⟨rfl, rfl⟩
            go_wp2_with fail
            refine (cP _).mono ?_
            rintro e w' ⟨rfl, rfl⟩
            go_wp2_with fail
            refine (cS _).mono ?_
            rintro e w' ⟨rfl, rfl⟩
            go_wp2
            go_ret
            exact ⟨by rw [HL.out]; rfl, rfl⟩
        · have HL := Lib.hid hL
          clear hL hx1 hx2
          go_enter Tryz.func37, Tryz.ntmps37
          go_wp2_with fail
          refine (cL _).mono ?_
          rintro e w' ⟨rfl, rfl⟩
          go_wp2_with fail
          refine (cG _).mono ?_
          rintro e w' ⟨rfl, rfl⟩
          go_wp2_with fail
          refine (cP _).mono ?_
          rintro e w' ⟨rfl, rfl⟩
          go_wp2
          go_ret
          exact ⟨by rw [HL.out]; rfl, rfl⟩
      · have HL := Lib.hid hL
        clear hL hx1 hx2
        go_enter Tryz.func37, Tryz.ntmps37
        go_wp2_with fail
        refine (cL _).mono ?_
        rintro e w' ⟨rfl, rfl⟩
        go_wp2_with fail
        refine (cG _).mono ?_
        rintro e w' ⟨rfl, rfl⟩
        go_wp2_with fail
        refine (cD _).mono ?_
        rintro e w' ⟨rfl, rfl⟩
        go_wp2_with fail
        refine (cU10 _).mono ?_
        rintro e w' ⟨rfl, rfl⟩
        go_wp2
        go_ret
        exact ⟨by rw [HL.out]; rfl, rfl⟩
    · have HL := Lib.hid hL
      clear hL hx1 hx2
      go_enter Tryz.func37, Tryz.ntmps37
      go_wp2_with fail
      refine (cL _).mono ?_
      rintro e w' ⟨rfl, rfl⟩
      go_wp2_with fail
      refine (cR _).mono ?_
      rintro e w' ⟨rfl, rfl⟩
      go_wp2_with fail
      refine (cU8 _).mono ?_
      rintro e w' ⟨rfl, rfl⟩
      go_wp2
      go_ret
      exact ⟨by rw [HL.out]; rfl, rfl⟩
    · have HL := Lib.hid hL
      clear hL hx1 hx2
      go_enter Tryz.func37, Tryz.ntmps37
      go_wp2_with fail
      refine (cL _).mono ?_
      rintro e w' ⟨rfl, rfl⟩
      go_wp2_with fail
      refine (cD _).mono ?_
      rintro e w' ⟨rfl, rfl⟩
      go_wp2_with fail
      refine (cU1 _).mono ?_
      rintro e w' ⟨rfl, rfl⟩
      go_wp2
      go_ret
      exact ⟨by rw [HL.out]; rfl, rfl⟩
    · have HL := Lib.hid hL
      clear hL hx1 hx2
      go_enter Tryz.func37, Tryz.ntmps37
      go_wp2_with fail
      refine (cL _).mono ?_
      rintro e w' ⟨rfl, rfl⟩
      go_wp2_with fail
      refine (cR _).mono ?_
      rintro e w' ⟨rfl, rfl⟩
      go_wp2_with fail
      refine (cU8 _).mono ?_
      rintro e w' ⟨rfl, rfl⟩
      go_wp2
      go_ret
      exact ⟨by rw [HL.out]; rfl, rfl⟩
theorem isWord_any (s : ByteArray) (w : World) (hs : s.size ≤ maxLen) : Calls Tryz.prog 23 #[.string s] w fun e w' => e = .returned (.bool (wordB s.data.toList)) ∧ w = w' := by
  by_cases h0 : s.size = 0
  · obtain rfl : s = ⟨#[]⟩ := ByteArray.ext (Array.eq_empty_of_size_eq_zero h0)
    go_enter Tryz.func23, Tryz.ntmps23
    go_wp2
    go_ret
    exact ⟨rfl, rfl⟩
  · have hne0 : s.data.toList.isEmpty = false := by
      cases h : s.data.toList with
      | nil => have := len_text s; rw [h] at this; simp at this; omega
      | cons a r => rfl
    have cL := fun w => longest_any s w hs
    have hb := longN_le s.data.toList
    have hw : wordB s.data.toList = (longN s.data.toList == s.size) := by unfold wordB; rw [hne0, len_text]; rfl
    have hne : s.toList.isEmpty = false := by rw [ByteArray.toList_eq]; exact hne0
    clear hne0
    rw [len_text] at hb
    unfold maxLen at hs
    have HW := Lib.hid hw
    clear hw
    generalize longN s.data.toList = lg at *
    by_cases he : lg = s.size
    · subst he
      go_enter Tryz.func23, Tryz.ntmps23
      go_wp2_with fail
      refine (cL _).mono ?_
      rintro e w' ⟨rfl, rfl⟩
      go_wp2
      go_ret
      exact ⟨by rw [HW.out]; simp, rfl⟩
    · have h1 : ((lg : Int) == (s.size : Int)) = false := by rw [beq_eq_false_iff_ne]; omega
      have h2 : (lg == s.size) = false := by rw [beq_eq_false_iff_ne]; omega
      have h3 : decide (lg = s.size) = false := by simpa using he
      have HH := Lib.hid he
      clear he
      go_enter Tryz.func23, Tryz.ntmps23
      go_wp2_with fail
      refine (cL _).mono ?_
      rintro e w' ⟨rfl, rfl⟩
      go_wp2
      go_ret
      exact ⟨by rw [HW.out]; simp [HH.out], rfl⟩
end Go.Proofs.YtkpiaenpjnajiaaGreatDoor
