/- The document's Parse, whole. -/
import Derived.Test.YtkhklndmbfbnoaaGreatDoorQParse
namespace Go.Proofs.YtkhklndmbfbnoaaGreatDoor
open Go.ChangeShapes Go.WideShapes Go.ChangeAt Go.RowKit Go.Joins Go.Deep
set_option linter.unusedVariables false

theorem parseB_bad {W : List (Tx × Nat)} {en : Nat} (n : Nat) : ∀ s, Inv W s → s.bad ≠ none → ∃ v, typeR W en n s = (v, s) := fun s hi h => type_bad n hi h
theorem rparse_any (s : ByteArray) (hm : s.size ≤ 1000000000) (wi : World) : Calls Tryz.prog 12 #[.string s] wi (PPost s.data.toList wi) := by
  by_cases h0 : (tellW s.data.toList).2.2 = 0
  · have hsz := len_text s
    have hgood := fun hb => parse_good (l := s.data.toList) h0 hb
    have hbad := fun a e hb => parse_bad (l := s.data.toList) (a := a) (e := e) h0 hb
    rw [hsz] at hgood hbad
    exact rparse_good s hm rfl h0 rfl (Bx := 820) (by omega) (typeR (tellW s.data.toList).1 s.size 20) (stR (tellW s.data.toList).1 s.size 20) (type_ok 20) (st_ok 20) (parseB_bad 20) (fun fd rb => typeQ_any 20 (by omega)) (fun fd rb => stmtQ_any 20 (by omega)) hgood hbad wi
  · have he := parse_words h0
    have fin : ∀ w', Below wi.heap.size wi w' → PPost s.data.toList wi (.returned (.tuple #[.slice none 0 0, .int .i64 ((tellW s.data.toList).2.1 : Nat), .int .i64 (tellW s.data.toList).2.2])) w' := fun w' hb => ⟨_, [], by rw [he], NRow.nil _ _ _, by rw [he]; rfl, hb⟩
    have FIN := Lib.hid fin
    clear fin he
    have cW := rWords_any s hm wi
    unfold RWordsPost at cW
    generalize (tellW s.data.toList).2.2 = er at *
    generalize (tellW s.data.toList).2.1 = pl at *
    have qe : (er != 0) = true := by rw [bne_iff_ne]; exact h0
    go_enter Tryz.func12, Tryz.ntmps12
    go_wp2_with fail
    refine cW.mono ?_
    rintro e w1 ⟨fd, rfl, _, hb1⟩
    clear cW
    go_wp2_with fail
    exact bodyPost_ret (v := .tuple #[.slice none 0 0, .int .i64 (pl : Nat), .int .i64 er]) (by simp [results, Tryz.results12, go_sem]) rfl (FIN.out _ hb1)
end Go.Proofs.YtkhklndmbfbnoaaGreatDoor
