/- Package lex: the longest word with which a text begins. -/
import Derived.Test.YtkhklndmbfbnoaaGreatDoorLSmall
import Derived.Test.YtkhklndmbfbnoaaGreatDoorLShelf
import Derived.Test.YtkhklndmbfbnoaaGreatDoorVQuiet
import Derived.Deep.AppendLies
import Derived.Deep.RegionLaw
import Derived.Deep.RegionHeld3
namespace Go.Proofs.YtkhklndmbfbnoaaGreatDoor
open Go.ChangeShapes Go.WideShapes Go.ChangeAt Go.RowKit Go.Joins Go.Deep
set_option linter.unusedVariables false

theorem pair_iff (l : List UInt8) : pairB l = (Lib.hasPrefix l [61, 61] || Lib.hasPrefix l [60, 60] || Lib.hasPrefix l [62, 62]) := by
  match l with
  | [] => rfl
  | [a] => simp [pairB, Lib.hasPrefix, List.isPrefixOf]
  | a :: b :: r =>
    simp only [pairB, Lib.hasPrefix, List.isPrefixOf, Bool.and_true]
    congr 1
    · congr 1
      · rw [Bool.beq_comm (a := a), Bool.beq_comm (a := b)]
      · rw [Bool.beq_comm (a := a), Bool.beq_comm (a := b)]
    · rw [Bool.beq_comm (a := a), Bool.beq_comm (a := b)]
theorem has_any (s : ByteArray) (c : UInt8) (w : World) : Calls Tryz.prog 162 #[.string s, .string ⟨#[c, c]⟩] w fun e w' => e = .returned (.bool (Lib.hasPrefix s.data.toList [c, c])) ∧ w = w' :=
  (strings_HasPrefix s ⟨#[c, c]⟩ w).mono fun e w' ⟨h, h'⟩ => ⟨h, h'.symm⟩
theorem isPair_any (s : ByteArray) (w : World) : Calls Tryz.prog 137 #[.string s] w fun e w' => e = .returned (.bool (pairB s.data.toList)) ∧ w = w' := by
  have cH := fun c w => has_any s c w
  have HP := Lib.hid (pair_iff s.data.toList)
  have c1 := cH 61
  have c2 := cH 60
  have c3 := cH 62
  clear cH
  generalize Lib.hasPrefix s.data.toList [61, 61] = b1 at *
  generalize Lib.hasPrefix s.data.toList [60, 60] = b2 at *
  generalize Lib.hasPrefix s.data.toList [62, 62] = b3 at *
  cases b1
  · cases b2
    · go_enter Tryz.func137, Tryz.ntmps137
      go_wp2_with fail
      refine (c1 _).mono ?_
      rintro e w' ⟨rfl, rfl⟩
      go_wp2_with fail
      refine (c2 _).mono ?_
      rintro e w' ⟨rfl, rfl⟩
      go_wp2_with fail
      refine (c3 _).mono ?_
      rintro e w' ⟨rfl, rfl⟩
      go_wp2
      go_ret
      exact ⟨by rw [HP.out]; rfl, rfl⟩
    · go_enter Tryz.func137, Tryz.ntmps137
      go_wp2_with fail
      refine (c1 _).mono ?_
      rintro e w' ⟨rfl, rfl⟩
      go_wp2_with fail
      refine (c2 _).mono ?_
      rintro e w' ⟨rfl, rfl⟩
      go_wp2
      go_ret
      exact ⟨by rw [HP.out]; rfl, rfl⟩
  · go_enter Tryz.func137, Tryz.ntmps137
    go_wp2_with fail
    refine (c1 _).mono ?_
    rintro e w' ⟨rfl, rfl⟩
    go_wp2
    go_ret
    exact ⟨by rw [HP.out]; simp, rfl⟩
def idxS (c : UInt8) : Int := Lib.indexByte signs c
theorem idx_pos : ∀ (l : List UInt8) (c : UInt8), l.contains c = true → 0 ≤ Lib.indexByte l c := by
  intro l c
  induction l with
  | nil => intro h; simp at h
  | cons b l ih =>
    intro h
    unfold Lib.indexByte
    split
    · exact Int.le_refl 0
    · rename_i hb
      have hc : l.contains c = true := by
        simp only [List.contains_cons, Bool.or_eq_true] at h
        rcases h with h | h
        · rw [beq_iff_eq] at h; subst h; simp at hb
        · exact h
      have := ih hc
      split
      · rename_i he
        rw [beq_iff_eq] at he
        omega
      · omega
theorem idx_neg : ∀ (l : List UInt8) (c : UInt8), l.contains c = false → Lib.indexByte l c = -1 := by
  intro l c
  induction l with
  | nil => intro _; rfl
  | cons b l ih =>
    intro h
    simp only [List.contains_cons, Bool.or_eq_false_iff] at h
    unfold Lib.indexByte
    rw [if_neg (by intro hb; rw [beq_iff_eq] at hb; subst hb; simp at h), ih h.2]
    rfl
theorem signs_any (c : UInt8) (w : World) : Calls Tryz.prog 138 #[.string ⟨#[123, 125, 40, 41, 91, 93, 59, 58, 44, 46, 61, 43, 45, 42, 47, 37, 38, 124, 94, 126, 33, 60]⟩, .int .u8 (c.toNat : Int)] w fun e w' => e = .returned (.int .i64 (idxS c)) ∧ w = w' :=
  (strings_IndexByte ⟨#[123, 125, 40, 41, 91, 93, 59, 58, 44, 46, 61, 43, 45, 42, 47, 37, 38, 124, 94, 126, 33, 60]⟩ (c.toNat : Int) w).mono fun e w' ⟨h, h'⟩ => ⟨by rw [h]; simp [idxS, signs], h'.symm⟩
set_option maxHeartbeats 1600000 in
theorem longest_any (s : ByteArray) (w : World) (hs : s.size ≤ maxLen) : Calls Tryz.prog 106 #[.string s] w fun e w' => e = .returned (.int .i64 (longN s.data.toList : Nat)) ∧ w = w' := by
  by_cases h0 : s.size = 0
  · obtain rfl : s = ⟨#[]⟩ := ByteArray.ext (Array.eq_empty_of_size_eq_zero h0)
    go_enter Tryz.func106, Tryz.ntmps106
    go_wp2
    go_ret
    exact ⟨rfl, rfl⟩
  · have hpos : 0 < s.size := by omega
    obtain ⟨r, hr⟩ : ∃ r, s.data.toList = s[0] :: r := by
      have hl : 0 < s.data.toList.length := by rw [len_text]; exact hpos
      refine ⟨s.data.toList.drop 1, ?_⟩
      have := List.drop_eq_getElem_cons hl
      rw [List.drop_zero] at this
      exact this
    have hne : s.toList.isEmpty = false := by rw [ByteArray.toList_eq, hr]; rfl
    have cR := fun w => runName_any s w hs
    have cD := fun w => runDigit_any s w hs
    have cP := fun w => isPair_any s w
    have b1 := runN_le namB s.data.toList
    have b2 := runN_le digB s.data.toList
    rw [len_text] at b1 b2
    unfold maxLen at hs
    have cU8 := fun w => unlessAbove_any 8 (runN namB s.data.toList) (by omega) (by omega) w
    have cU1 := fun w => unlessAbove_any 1 (runN digB s.data.toList) (by omega) (by omega) w
    have cU10 := fun w => unlessAbove_any 10 (runN digB s.data.toList) (by omega) (by omega) w
    have cL := fun w => isLetter_any s[0] w
    have cG := fun w => isDigit_any s[0] w
    have cS := fun w => signs_any s[0] w
    have hx1 := idx_pos signs s[0]
    have hx2 := idx_neg signs s[0]
    have hL : longN s.data.toList = if letB s[0] then cap 8 (runN namB s.data.toList) else if (s[0].toNat : Int) == 48 then cap 1 (runN digB s.data.toList) else if digB s[0] then cap 10 (runN digB s.data.toList) else if pairB s.data.toList then 2 else if signs.contains s[0] then 1 else 0 := by
      rw [hr]; rfl
    change signs.contains s[0] = true → 0 ≤ idxS s[0] at hx1
    change signs.contains s[0] = false → idxS s[0] = -1 at hx2
    clear hr
    generalize runN namB s.data.toList = n1 at *
    generalize runN digB s.data.toList = n2 at *
    generalize hn8 : cap 8 n1 = c8 at *
    generalize hn1 : cap 1 n2 = c1 at *
    generalize hn10 : cap 10 n2 = c10 at *
    clear hn8 hn1 hn10
    generalize letB s[0] = l1 at *
    generalize digB s[0] = d1 at *
    generalize pairB s.data.toList = p1 at *
    generalize signs.contains s[0] = s1 at *
    generalize idxS s[0] = ix at *
    generalize longN s.data.toList = lg at *
    cases h48 : (s[0].toNat : Int) == 48 <;> rw [h48] at hL <;> cases l1
    · cases d1
      · cases p1
        · cases s1
          · have hx := hx2 rfl
            subst hx
            have HL := Lib.hid hL
            clear hL hx1 hx2
            go_enter Tryz.func106, Tryz.ntmps106
            go_wp2_with fail
            refine (cL _).mono ?_
            rintro e w' ⟨rfl, rfl⟩
            go_wp2_with fail
            refine (cG _).mono ?_
            rintro e w' ⟨rfl, rfl⟩
            go_wp2_with fail
            refine (cP _).mono ?_
            rintro e w' ⟨rfl, rfl⟩
            go_wp2_with fail
            refine (cS _).mono ?_
            rintro e w' ⟨rfl, rfl⟩
            go_wp2
            go_ret
            exact ⟨by rw [HL.out]; rfl, rfl⟩
          · have hx := hx1 rfl
            have hy : decide (0 ≤ ix) = true := by simpa using hx
            have HL := Lib.hid hL
            clear hL hx1 hx2
            go_enter Tryz.func106, Tryz.ntmps106
            go_wp2_with fail
            refine (cL _).mono ?_
            rintro e w' ⟨rfl, rfl⟩
            go_wp2_with fail
            refine (cG _).mono ?_
            rintro e w' ⟨rfl, rfl⟩
            go_wp2_with fail
            refine (cP _).mono ?_
            rintro e w' ⟨rfl, rfl⟩
            go_wp2_with fail
            refine (cS _).mono ?_
            rintro e w' ⟨rfl, rfl⟩
            go_wp2
            go_ret
            exact ⟨by rw [HL.out]; rfl, rfl⟩
        · have HL := Lib.hid hL
          clear hL hx1 hx2
          go_enter Tryz.func106, Tryz.ntmps106
          go_wp2_with fail
          refine (cL _).mono ?_
          rintro e w' ⟨rfl, rfl⟩
          go_wp2_with fail
          refine (cG _).mono ?_
          rintro e w' ⟨rfl, rfl⟩
          go_wp2_with fail
          refine (cP _).mono ?_
          rintro e w' ⟨rfl, rfl⟩
          go_wp2
          go_ret
          exact ⟨by rw [HL.out]; rfl, rfl⟩
      · have HL := Lib.hid hL
        clear hL hx1 hx2
        go_enter Tryz.func106, Tryz.ntmps106
        go_wp2_with fail
        refine (cL _).mono ?_
        rintro e w' ⟨rfl, rfl⟩
        go_wp2_with fail
        refine (cG _).mono ?_
        rintro e w' ⟨rfl, rfl⟩
        go_wp2_with fail
        refine (cD _).mono ?_
        rintro e w' ⟨rfl, rfl⟩
        go_wp2_with fail
        refine (cU10 _).mono ?_
        rintro e w' ⟨rfl, rfl⟩
        go_wp2
        go_ret
        exact ⟨by rw [HL.out]; rfl, rfl⟩
    · have HL := Lib.hid hL
      clear hL hx1 hx2
      go_enter Tryz.func106, Tryz.ntmps106
      go_wp2_with fail
      refine (cL _).mono ?_
      rintro e w' ⟨rfl, rfl⟩
      go_wp2_with fail
      refine (cR _).mono ?_
      rintro e w' ⟨rfl, rfl⟩
      go_wp2_with fail
      refine (cU8 _).mono ?_
      rintro e w' ⟨rfl, rfl⟩
      go_wp2
      go_ret
      exact ⟨by rw [HL.out]; rfl, rfl⟩
    · have HL := Lib.hid hL
      clear hL hx1 hx2
      go_enter Tryz.func106, Tryz.ntmps106
      go_wp2_with fail
      refine (cL _).mono ?_
      rintro e w' ⟨rfl, rfl⟩
      go_wp2_with fail
      refine (cD _).mono ?_
      rintro e w' ⟨rfl, rfl⟩
      go_wp2_with fail
      refine (cU1 _).mono ?_
      rintro e w' ⟨rfl, rfl⟩
      go_wp2
      go_ret
      exact ⟨by rw [HL.out]; rfl, rfl⟩
    · have HL := Lib.hid hL
      clear hL hx1 hx2
      go_enter Tryz.func106, Tryz.ntmps106
      go_wp2_with fail
      refine (cL _).mono ?_
      rintro e w' ⟨rfl, rfl⟩
      go_wp2_with fail
      refine (cR _).mono ?_
      rintro e w' ⟨rfl, rfl⟩
      go_wp2_with fail
      refine (cU8 _).mono ?_
      rintro e w' ⟨rfl, rfl⟩
      go_wp2
      go_ret
      exact ⟨by rw [HL.out]; rfl, rfl⟩
theorem isWord_any (s : ByteArray) (w : World) (hs : s.size ≤ maxLen) : Calls Tryz.prog 98 #[.string s] w fun e w' => e = .returned (.bool (wordB s.data.toList)) ∧ w = w' := by
  by_cases h0 : s.size = 0
  · obtain rfl : s = ⟨#[]⟩ := ByteArray.ext (Array.eq_empty_of_size_eq_zero h0)
    go_enter Tryz.func98, Tryz.ntmps98
    go_wp2
    go_ret
    exact ⟨rfl, rfl⟩
  · have hne0 : s.data.toList.isEmpty = false := by
      cases h : s.data.toList with
      | nil => have := len_text s; rw [h] at this; simp at this; omega
      | cons a r => rfl
    have cL := fun w => longest_any s w hs
    have hb := longN_le s.data.toList
    have hw : wordB s.data.toList = (longN s.data.toList == s.size) := by unfold wordB; rw [hne0, len_text]; rfl
    have hne : s.toList.isEmpty = false := by rw [ByteArray.toList_eq]; exact hne0
    clear hne0
    rw [len_text] at hb
    unfold maxLen at hs
    have HW := Lib.hid hw
    clear hw
    generalize longN s.data.toList = lg at *
    by_cases he : lg = s.size
    · subst he
      go_enter Tryz.func98, Tryz.ntmps98
      go_wp2_with fail
      refine (cL _).mono ?_
      rintro e w' ⟨rfl, rfl⟩
      go_wp2
      go_ret
      exact ⟨by rw [HW.out]; simp, rfl⟩
    · have h1 : ((lg : Int) == (s.size : Int)) = false := by rw [beq_eq_false_iff_ne]; omega
      have h2 : (lg == s.size) = false := by rw [beq_eq_false_iff_ne]; omega
      have h3 : decide (lg = s.size) = false := by simpa using he
      have HH := Lib.hid he
      clear he
      go_enter Tryz.func98, Tryz.ntmps98
      go_wp2_with fail
      refine (cL _).mono ?_
      rintro e w' ⟨rfl, rfl⟩
      go_wp2
      go_ret
      exact ⟨by rw [HW.out]; simp [HH.out], rfl⟩
end Go.Proofs.YtkhklndmbfbnoaaGreatDoor

/- Package lex: a text that is cut: what its object holds, its place, what is behind. -/
namespace Go.Proofs.YtkhklndmbfbnoaaGreatDoor
open Go.ChangeShapes Go.WideShapes Go.ChangeAt Go.RowKit Go.Joins Go.Deep
set_option linter.unusedVariables false

def txtC (s : ByteArray) (dn st ps : Int) (fd : Value) : Array Value := #[.string s, .int .u32 dn, .int .i32 st, .int .u32 0, .int .i32 ps, fd]
def TxtAt (w : World) (tb : Nat) (s : ByteArray) (dn st ps : Int) (fd : Value) : Prop := At w tb (txtC s dn st ps fd) 108
theorem TxtAt.at {w : World} {tb : Nat} {s : ByteArray} {dn st ps : Int} {fd : Value} (h : TxtAt w tb s dn st ps fd) : At w tb (txtC s dn st ps fd) 108 := h
theorem At.below' {w w' : World} {b : Nat} {cs : Array Value} {t : TypeId} (hb : Below w.heap.size w w') (h : At w b cs t) : At w' b cs t := h.below hb h.lt
/-- what is left behind a place -/
def tailB (s : ByteArray) (k : Nat) : ByteArray := s.extract k s.size
theorem tail_list (s : ByteArray) (k : Nat) : (tailB s k).data.toList = s.data.toList.drop k := by
  unfold tailB
  rw [Lib.extract_data, List.take_of_length_le]
  rw [List.length_drop, len_text]
  exact Nat.le_refl _
theorem tail_size (s : ByteArray) (k : Nat) : (tailB s k).size = s.size - k := by rw [← len_text, tail_list, List.length_drop, len_text]
set_option maxRecDepth 100000 in
theorem ladd32 (rb off : Nat) (c n : Int) (hc : 0 ≤ c ∧ 0 ≤ n ∧ c + n ≤ 2000) (w : World) (h4 : w.cell? ⟨rb, off, none⟩ = some (.int .i32 c)) (f4 : w.frozen? ⟨rb, off, none⟩ = false) :
    Calls Tryz.prog 42 #[.pointer (some ⟨rb, off, none⟩), .int .i32 n] w fun e w' => e = .returned (.int .i32 (c + n)) ∧ w' = w.setCell ⟨rb, off, none⟩ (.int .i32 (c + n)) := by
  have iw : IntKind.i32.wrap (c + n) = c + n := by simp [IntKind.wrap, IntKind.bits, IntKind.signed]; omega
  have hadd := run_call_add (P := Tryz.prog) Tryz.func73 (by kernel_rfl) (by kernel_rfl) (by kernel_rfl) .i32 (by kernel_rfl) (y := n) (s := c + n) h4 f4 (by simp [go_sem, iw])
  go_enter Tryz.func42, Tryz.ntmps42
  go_wp2
  go_ret
  exact ⟨rfl, rfl⟩
set_option maxRecDepth 100000 in
theorem lload32 (rb off : Nat) (c : Int) (w : World) (h4 : w.cell? ⟨rb, off, none⟩ = some (.int .i32 c)) :
    Calls Tryz.prog 43 #[.pointer (some ⟨rb, off, none⟩)] w fun e w' => e = .returned (.int .i32 c) ∧ w = w' := by
  have hl := run_call_load (P := Tryz.prog) Tryz.func74 (by kernel_rfl) (by kernel_rfl) (by kernel_rfl) .i32 (by kernel_rfl) h4
  go_enter Tryz.func43, Tryz.ntmps43
  go_wp2
  go_ret
  exact ⟨rfl, rfl⟩
theorem lflip {P : Program} {f : Nat} {args : Array Value} {w : World} {E : Ending} (h : Calls P f args w fun e w' => e = E ∧ w = w') : Calls P f args w fun e w' => e = E ∧ w' = w :=
  h.mono fun _ _ ⟨a, b⟩ => ⟨a, b.symm⟩
theorem at_any (tb : Nat) (s : ByteArray) (dn st : Int) (ps : Nat) (fd : Value) (hp : ps ≤ 2000) (w : World) (h : TxtAt w tb s dn st ps fd) :
    Calls Tryz.prog 77 #[.pointer (some ⟨tb, 0, none⟩)] w fun e w' => e = .returned (.int .i64 (ps : Nat)) ∧ w = w' := by
  have cL := lload32 tb 4 ps w (h.at.cell 4 rfl)
  clear h
  go_enter Tryz.func77, Tryz.ntmps77
  go_wp2_with fail
  refine cL.mono ?_
  rintro e w' ⟨rfl, rfl⟩
  go_wp2
  go_ret
  exact ⟨rfl, rfl⟩
theorem rest_any (tb : Nat) (s : ByteArray) (dn st : Int) (ps : Nat) (fd : Value) (hp : ps ≤ 2000) (hs : ps ≤ s.size) (hm : s.size ≤ 2000) (w : World) (h : TxtAt w tb s dn st ps fd) :
    Calls Tryz.prog 105 #[.pointer (some ⟨tb, 0, none⟩)] w fun e w' => e = .returned (.string (tailB s ps)) ∧ Below w.heap.size w w' := by
  have cA := fun n => at_any tb s dn st ps fd hp (w.drewN n) (At.drewN h n)
  have c0 : w.cell? ⟨tb, 0, none⟩ = some (.string s) := h.at.cell 0 rfl
  have h0 : (0 : Int) ≤ (ps : Int) := by omega
  have h1 : (ps : Int) ≤ (s.size : Int) := by omega
  have h2 : ps ≤ s.size := hs
  have H := Lib.hid h
  clear h
  go_enter Tryz.func105, Tryz.ntmps105
  go_wp2
  go_quiet ((go_at_call 77; (with_reducible exact Calls.quiet_of_same (lflip (cA _)))))
  go_wp2
  go_ret
  exact ⟨rfl, ⟨rfl, rfl, rfl, Nat.le_refl _, fun _ _ => rfl⟩⟩
theorem pass_any (tb : Nat) (s : ByteArray) (dn st : Int) (ps n : Nat) (fd : Value) (hp : ps + n ≤ 2000) (w : World) (h : TxtAt w tb s dn st ps fd) :
    Calls Tryz.prog 103 #[.pointer (some ⟨tb, 0, none⟩), .int .i64 (n : Nat)] w fun e w' => e = .returned (.tuple #[]) ∧ TxtAt w' tb s dn st ((ps + n : Nat) : Int) fd ∧ (∀ b, b ≠ tb → w'.heap[b]? = w.heap[b]?) ∧ Below tb w w' := by
  have cA := ladd32 tb 4 (ps : Nat) (n : Nat) (by omega) w (h.at.cell 4 rfl) (At.free h.at 4)
  have e0 : (ps : Int) + (n : Int) = ((ps + n : Nat) : Int) := by omega
  rw [e0] at cA
  have fin : TxtAt (w.setCell ⟨tb, 4, none⟩ (.int .i32 ((ps + n : Nat) : Int))) tb s dn st ((ps + n : Nat) : Int) fd := At.set h.at 4 (.int .i32 ((ps + n : Nat) : Int)) (by simp [txtC])
  have hn : (n : Int) ≤ 2000 := by omega
  have F := Lib.hid fin
  clear fin h e0
  go_enter Tryz.func103, Tryz.ntmps103
  go_wp2_with fail
  refine cA.mono ?_
  rintro e w' ⟨rfl, rfl⟩
  go_wp2
  first | go_end0 | (simp only [Exit.inBlock, Exit.then]; refine bodyPost_ret (results_none rfl _ _ _) rfl ?_) | refine bodyPost_ret (results_none rfl _ _ _) rfl ?_
  exact ⟨rfl, F.out, fun b hb => Below.heap_setCell w ⟨tb, 4, none⟩ _ b hb, (Below.refl tb w).setCell (p := ⟨tb, 4, none⟩) (Nat.le_refl _) _⟩
theorem clone_any (s : ByteArray) (hs : s.size ≤ 281474976710656) (w : World) : Calls Tryz.prog 107 #[.string s] w fun e w' => e = .returned (.string s) ∧ Below w.heap.size w w' := by
  have cC := fun w => stringslite_Clone s w hs
  go_enter Tryz.func107, Tryz.ntmps107
  go_wp2_with fail
  refine (cC _).mono ?_
  rintro e w' ⟨rfl, hb⟩
  go_wp2
  go_ret
  exact ⟨rfl, hb⟩
/-- words in memory -/
def tokC (t : List UInt8 × Nat) : List Value := [.string ⟨t.1.toArray⟩, .int .i64 (t.2 : Nat)]
def RowT (base : Nat) (T : List (List UInt8 × Nat)) (v : Value) (w : World) : Prop := w.ownsRow base 35 2 v T.length (T.flatMap tokC)
theorem info_tok : (Tryz.prog.info? 35).map (fun i => (i.zero, i.size, i.bytes)) = some (some (.agg #[.string ⟨#[]⟩, .int .i64 0]), 2, 24) := by kernel_rfl
/-- the words from a place on, where one begins -/
def scanW (l : List UInt8) (a : Nat) : List (List UInt8 × Nat) × Nat :=
  if longN l = 0 then ([], a) else ((l.take (longN l), a) :: (scanL false (l.drop (longN l)) (a + longN l)).1, (scanL false (l.drop (longN l)) (a + longN l)).2)
theorem scanL_W (p : Bool) (l : List UInt8) (a : Nat) : scanL p l a = scanW (l.drop (gapN p l)) (a + gapN p l) := by
  unfold scanW
  by_cases h : longN (l.drop (gapN p l)) = 0
  · rw [if_pos h, scanL_none h]
  · rw [if_neg h, scanL_some rfl rfl (by omega), List.drop_drop]
def RelCut (tb : Nat) (s : ByteArray) (w0 : World) (v : Value) (wr : World) : Prop :=
  ∃ (ps : Nat) (T : List (List UInt8 × Nat)) (fd : Value), ps ≤ s.size ∧ v = .int .i64 (longN (s.data.toList.drop ps) : Nat) ∧ TxtAt wr tb s 0 1 ps fd ∧ RowT (tb + 1) T fd wr ∧ T.length ≤ ps ∧
    cutW s.data.toList = (T ++ (scanW (s.data.toList.drop ps) ps).1, (scanW (s.data.toList.drop ps) ps).2) ∧ Below tb w0 wr
def CutPost (tb : Nat) (s : ByteArray) (w : World) (e : Ending) (w' : World) : Prop :=
  e = .returned (.tuple #[]) ∧ ∃ fd, TxtAt w' tb s 0 1 ((cutW s.data.toList).2 : Nat) fd ∧ RowT (tb + 1) (cutW s.data.toList).1 fd w' ∧ Below tb w w'
end Go.Proofs.YtkhklndmbfbnoaaGreatDoor
