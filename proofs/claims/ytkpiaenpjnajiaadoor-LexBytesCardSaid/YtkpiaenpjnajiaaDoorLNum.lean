/- Numbers: the program's and the document's. -/
import Derived.Test.YtkpiaenpjnajiaaDoorLLong
import Derived.Test.YtkpiaenpjnajiaaDoorLROneB
namespace Go.Proofs.YtkpiaenpjnajiaaDoor
open Go.ChangeShapes Go.WideShapes Go.ChangeAt Go.RowKit Go.Joins Go.Deep
set_option linter.unusedVariables false

def numV (l : List UInt8) : Nat := if numB l then valN l else 0
theorem numB_word {l : List UInt8} (h : wordB l = false) : numB l = false := by unfold numB; rw [h]; rfl
theorem head_text {s : ByteArray} (h : 0 < s.size) : s.data.toList.headD 0 = s[0] := by
  have := drop_cons h
  rw [List.drop_zero] at this
  rw [this]; rfl
theorem numB_at {s : ByteArray} (h : 0 < s.size) (hw : wordB s.data.toList = true) : numB s.data.toList = digB s[0] := by unfold numB; rw [hw, head_text h]; rfl
theorem word_pos {s : ByteArray} (hw : wordB s.data.toList = true) : 0 < s.size := by
  rcases Nat.eq_zero_or_pos s.size with h | h
  · obtain rfl : s = ⟨#[]⟩ := ByteArray.ext (Array.eq_empty_of_size_eq_zero h)
    simp [wordB] at hw
  · exact h
def NumPost (b : Bool) (v : Nat) (w : World) (e : Ending) (w' : World) : Prop := e = .returned (.tuple #[.int .i64 (v : Nat), .int .i64 (if b then 0 else 1)]) ∧ Below w.heap.size w w'
theorem number_any (s : ByteArray) (hs : s.size ≤ 1000000000) (w : World) : Calls Tryd.prog 12 #[.string s] w (NumPost (numB s.data.toList) (numV s.data.toList) w) := by
  have cW := fun w => isWord_any s w (by unfold maxLen; omega)
  cases hw : wordB s.data.toList
  · have e1 := numB_word hw
    have fin : NumPost (numB s.data.toList) (numV s.data.toList) w (.returned (.tuple #[.int .i64 0, .int .i64 1])) w := ⟨by unfold numV; rw [e1]; rfl, Below.refl _ _⟩
    have FIN := Lib.hid fin
    rw [hw] at cW
    clear fin e1 hw
    go_enter Tryd.func12, Tryd.ntmps12
    go_wp2_with fail
    refine (cW _).mono ?_
    rintro e w' ⟨rfl, rfl⟩
    go_wp2_with fail
    go_ret2
    exact FIN.out
  · have hp := word_pos hw
    have e1 := numB_at hp hw
    have cD := fun w => isDigit_any s[0] w
    rw [hw] at cW
    cases hd : digB s[0]
    · rw [hd] at e1 cD
      have fin : NumPost (numB s.data.toList) (numV s.data.toList) w (.returned (.tuple #[.int .i64 0, .int .i64 1])) w := ⟨by unfold numV; rw [e1]; rfl, Below.refl _ _⟩
      have FIN := Lib.hid fin
      clear fin e1 hw hd
      go_enter Tryd.func12, Tryd.ntmps12
      go_wp2_with fail
      refine (cW _).mono ?_
      rintro e w' ⟨rfl, rfl⟩
      go_wp2_with fail
      refine (cD _).mono ?_
      rintro e w' ⟨rfl, rfl⟩
      go_wp2_with fail
      go_ret2
      exact FIN.out
    · rw [hd] at e1 cD
      have ha := atoi_val e1
      have hdg := numB_digits e1
      rw [len_text] at hdg
      have cA := fun w => strconv_Atoi s _ (by omega) ha w
      have fin : ∀ w', Below w.heap.size w w' → NumPost (numB s.data.toList) (numV s.data.toList) w (.returned (.tuple #[.int .i64 (valN s.data.toList : Nat), .int .i64 0])) w' := fun w' hb => ⟨by unfold numV; rw [e1]; rfl, hb⟩
      have FIN := Lib.hid fin
      clear fin e1 hw hd ha hdg
      generalize valN s.data.toList = vl at *
      go_enter Tryd.func12, Tryd.ntmps12
      go_wp2_with fail
      refine (cW _).mono ?_
      rintro e w' ⟨rfl, rfl⟩
      go_wp2_with fail
      refine (cD _).mono ?_
      rintro e w' ⟨rfl, rfl⟩
      go_wp2_with fail
      refine (cA _).mono ?_
      rintro e w' ⟨rfl, t, rfl⟩
      have hb := Joins.below_bytesWorld w.heap.size w 5 t (Nat.le_refl _)
      generalize Lib.bytesWorld w 5 t = w2 at *
      go_wp2_with fail
      go_ret2
      exact FIN.out _ hb
def RNumPost (b : Bool) (v : Nat) (w : World) (e : Ending) (w' : World) : Prop := e = .returned (.tuple #[.int .i64 (v : Nat), .bool b]) ∧ Below w.heap.size w w'
theorem valN_take {s : ByteArray} {i : Nat} (h : i < s.size) : valN (s.data.toList.take (i + 1)) = 10 * valN (s.data.toList.take i) + (s[i].toNat - 48) := by
  have hl : i < s.data.toList.length := by rw [len_text]; exact h
  rw [List.take_succ_eq_append_getElem hl, valN_snoc]
  rfl
end Go.Proofs.YtkpiaenpjnajiaaDoor
