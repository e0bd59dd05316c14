/- The document's parser: words of a kind taken. -/
import Derived.Test.YtkhklndmbfbnoaaGreatDoorQTake
namespace Go.Proofs.YtkhklndmbfbnoaaGreatDoor
open Go.ChangeShapes Go.WideShapes Go.ChangeAt Go.RowKit Go.Joins Go.Deep
set_option linter.unusedVariables false

universe u
variable {α : Type}
def RKindQ (l : Tx) (w : World) (e : Ending) (w' : World) : Prop := ∃ k : Nat, k ≤ 7 ∧ e = .returned (.int .i64 (k : Nat)) ∧ (knB l = true → 0 < k) ∧ (knB l = false → k = 0) ∧ (knB l = true → (k = 7 ↔ l = ptrN)) ∧ Below w.heap.size w w'
set_option maxHeartbeats 800000 in
theorem rKindQ_any (s : ByteArray) (w : World) : Calls Tryz.prog 86 #[.string s] w (RKindQ s.data.toList w) := by
  have cN := rNames_any
  go_enter Tryz.func86, Tryz.ntmps86
  go_wp2_with fail
  refine (cN _).mono ?_
  rintro e w1 ⟨g, rfl, hA, hb⟩
  have HB := Lib.hid hb
  clear cN hb
  go_wp2_with fail
  go_loop [4] (fun v => ∃ k : Nat, 1 ≤ k ∧ k ≤ 8 ∧ v = .int .i64 (k : Nat) ∧ ∀ j, j + 1 < k → knN.getD j [] ≠ s.data.toList) (fun v => 8 - (intOf v).toNat)
  case atStart => exact ⟨1, Nat.le_refl _, by omega, rfl, fun j h => absurd h (by omega)⟩
  case round =>
    obtain ⟨k, h1, h8, rfl, hno⟩ := hrel
    have HNO := Lib.hid hno
    clear hno
    by_cases hlt : k < 8
    · have hci := hA.2 k hlt
      have u1 : decide ((k : Int) < 8) = true := by simp; omega
      have ek : (([] : List UInt8) :: knN).getD k [] = knN.getD (k - 1) [] := by
        obtain ⟨m, rfl⟩ : ∃ m, k = m + 1 := ⟨k - 1, by omega⟩
        rfl
      rw [ek] at hci
      clear ek hA
      by_cases he : knN.getD (k - 1) [] = s.data.toList
      · have hq := eq_txt he
        have hyes : knB s.data.toList = true := contains_yes (show k - 1 < 7 by omega) he
        have fin : RKindQ s.data.toList w (.returned (.int .i64 (k : Nat))) w1 := ⟨k, by omega, rfl, fun _ => by omega, fun h => by (rw [hyes] at h; cases h), fun _ => kn_ptr h1 (by omega) he, HB.out⟩
        have FIN := Lib.hid fin
        clear fin he hyes
        generalize (⟨(knN.getD (k - 1) []).toArray⟩ : ByteArray) = x at *
        go_wp2_with fail
        go_ret
        exact FIN.out
      · have hq := ne_txt he
        have HE := Lib.hid he
        clear he
        generalize (⟨(knN.getD (k - 1) []).toArray⟩ : ByteArray) = x at hci hq
        go_wp2_with fail
        go_round
        case rel => exact ⟨k + 1, by omega, by omega, by go_num, fun j hj => by rcases Nat.lt_or_ge (j + 1) k with h | h; exact HNO.out j h; (obtain rfl : j = k - 1 := by omega); exact HE.out⟩
        case measure => simp [intOf]; omega
    · obtain rfl : k = 8 := by omega
      have hnb : knB s.data.toList = false := contains_no (fun j hj => HNO.out j (by have : j < 7 := hj; omega))
      have fin : RKindQ s.data.toList w (.returned (.int .i64 (0 : Nat))) w1 := ⟨0, by omega, rfl, fun h => by (rw [hnb] at h; cases h), fun _ => rfl, fun h => by (rw [hnb] at h; cases h), HB.out⟩
      have FIN := Lib.hid fin
      clear fin hnb hA
      go_wp2_with fail
      go_ret
      exact FIN.out
/-- what a step of the document's parser tells that passes a word, whatever it is: the value where nothing is wrong -/
def TQ (c : Ctx) (fd : Value) (W : List (Tx × Nat)) (en rb : Nat) (g : Option Nat) (B : Nat) (mk : α → Value) (r : α × RS) (w : World) (e : Ending) (w' : World) : Prop := ∃ v, e = .returned (mk v) ∧ (r.2.bad = none → v = r.1) ∧ PdAt c fd W en w' rb g (B + 1) r.2 ∧ Onl rb w w'
set_option maxHeartbeats 1600000 in
theorem rtakesNumber_any {c : Ctx} {fd : Value} {W : List (Tx × Nat)} {en rb B : Nat} {g : Option Nat} {s : RS} (hB1 : B + 1 ≤ 1000) (w : World) (h : PdAt c fd W en w rb g B s) : Calls Tryz.prog 62 #[.pointer (some ⟨rb, 0, none⟩)] w (TQ c fd W en rb g B (.int .i64) (needNR W en s) w) := by
  have cS := rsee_any w h
  have cN := fun (l : Tx) (hl : l.length ≤ 100000) w => rNumber_any ⟨l.toArray⟩ (by rw [← len_text]; show l.length ≤ _; omega) w
  unfold SeeP at cS
  unfold RNumPost at cN
  have HH := Lib.hid h
  have hlt0 := h.lt
  by_cases hg : s.bad = none
  · have cF := fun w' hb => rfails_any (c := c) (fd := fd) (en := en) (rb := rb) (g := g) (B := B) (hereR W en s) 4 (by decide) w' (h.grow hb) hg
    have cP := fun w' hb => rplace_any w' (h.grow hb) hg
    unfold NQ at cF
    have HG := Lib.hid hg
    have c6 : w.cell? ⟨rb, 6, none⟩ = some (.int .i64 0) := by have := h.err; rw [hg] at this; exact this
    by_cases hb : numB (wdR W s) = true
    · have e2 : needNR W en s = (((numV (wdR W s) : Nat) : Int), passR s) := by unfold needNR needR; rw [if_pos hb]
      have hlt := wdR_lt (show wdR W s ≠ [] from fun h0 => by rw [h0] at hb; revert hb; decide)
      have hWl : W.length ≤ 1000000 := by obtain ⟨_, _, _, hl, _⟩ := h.toks; exact hl
      have hk1 : s.k ≤ 1000000 := by omega
      have HL := Lib.hid hlt
      rw [e2]
      clear e2 cF cP hlt hWl h hg
      go_enter Tryz.func62, Tryz.ntmps62
      go_wp2_with fail
      refine cS.mono ?_
      rintro e w1 ⟨l, rfl, hl, hlw, hls, hb1⟩
      obtain rfl := hl HG.out
      have cN1 : Calls Tryz.prog 88 #[txV (wdR W s)] w1 (fun e w' => e = .returned (.tuple #[.int .i64 (numV (wdR W s) : Nat), .bool true]) ∧ Below w1.heap.size w1 w') := by have := cN _ hls w1; rw [show numB (⟨(wdR W s).toArray⟩ : ByteArray).data.toList = true from hb] at this; exact this
      clear cN cS hl hlw hls hb
      go_wp2_with fail
      refine cN1.mono ?_
      rintro e w2 ⟨rfl, hb2⟩
      have hb3 := hb1.trans (hb2.mono hb1.size)
      replace c6 := cell_below c6 hb3
      clear cN1 hb1 hb2
      have h1 := HH.out.grow hb3
      have hO1 := HH.out.onl hb3
      obtain ⟨k, nv, hA, hk, hkB⟩ := h1.cells
      obtain rfl := hk HG.out
      have c2 : w2.cell? ⟨rb, 2, none⟩ = some (.int .i64 (s.k : Nat)) := hA.cell 2 rfl
      have f2 := At.free hA 2
      have H1 := Lib.hid (h1.bumpG HG.out HL.out)
      have HO := Lib.hid (hO1.set 2 (.int .i64 ((s.k : Int) + 1)))
      clear hA hk hkB h1 hO1
      generalize s.k = k at *
      generalize (numV (wdR W s) : Int) = nn at *
      go_wp2_with fail
      go_ret
      exact ⟨nn, rfl, fun _ => rfl, H1.out.more (by omega) hB1, HO.out⟩
    · have hbf : numB (wdR W s) = false := Bool.eq_false_iff.mpr hb
      have e2 : needNR W en s = (((numV ([] : Tx) : Nat) : Int), failR W (hereR W en s) 4 s) := by unfold needNR needR; rw [if_neg hb]
      rw [e2]
      clear e2 h hg
      generalize hereR W en s = hr at *
      go_enter Tryz.func62, Tryz.ntmps62
      go_wp2_with fail
      refine cS.mono ?_
      rintro e w1 ⟨l, rfl, hl, hlw, hls, hb1⟩
      obtain rfl := hl HG.out
      have cN1 : Calls Tryz.prog 88 #[txV (wdR W s)] w1 (fun e w' => e = .returned (.tuple #[.int .i64 (numV (wdR W s) : Nat), .bool false]) ∧ Below w1.heap.size w1 w') := by have := cN _ hls w1; rw [show numB (⟨(wdR W s).toArray⟩ : ByteArray).data.toList = false from hbf] at this; exact this
      clear cN cS hl hlw hls hb hbf
      go_wp2_with fail
      refine cN1.mono ?_
      rintro e w2 ⟨rfl, hb2⟩
      have hb3 := hb1.trans (hb2.mono hb1.size)
      replace c6 := cell_below c6 hb3
      clear cN1 hb1 hb2
      go_wp2_with fail
      refine (cP _ hb3).mono ?_
      rintro e w3 ⟨rfl, hb4⟩
      have hb5 := hb3.trans (hb4.mono hb3.size)
      clear cP c6
      go_wp2_with fail
      refine (cF _ hb5).mono ?_
      rintro e w4 ⟨rfl, h4, hO4⟩
      have hO5 := (HH.out.onl hb5).trans hO4
      clear cF
      obtain ⟨k, nv, hA, hk, hkB⟩ := h4.cells
      have hWl : W.length ≤ 1000000 := by obtain ⟨_, _, _, hl, _⟩ := h4.toks; exact hl
      have hkm : k ≤ 1001000 := by have := h4.most; omega
      have c2 : w4.cell? ⟨rb, 2, none⟩ = some (.int .i64 (k : Nat)) := hA.cell 2 rfl
      have f2 := At.free hA 2
      have H1 := Lib.hid (h4.bumpB fail_bad hB1 hA)
      have HO := Lib.hid (hO5.set 2 (.int .i64 ((k : Int) + 1)))
      clear hA hk hkB hWl
      generalize (numV (wdR W s) : Int) = nn at *
      clear h4 hO4 hO5
      go_wp2_with fail
      go_ret
      exact ⟨nn, rfl, fun h => absurd h fail_bad, H1.out, HO.out⟩
  · have e2 : needNR W en s = (((numV ([] : Tx) : Nat) : Int), s) := by unfold needNR; rw [needR_bad _ (by decide) h.inv hg]
    rw [e2]
    have c6 := h.err
    have q := bad_err h.inv hg
    generalize (s.bad.getD (0, 0)).2 = er at *
    clear e2
    go_enter Tryz.func62, Tryz.ntmps62
    go_wp2_with fail
    refine cS.mono ?_
    rintro e w1 ⟨l, rfl, hl, hlw, hls, hb1⟩
    have cN1 := cN l hls w1
    clear cN cS hl hlw hls
    go_wp2_with fail
    refine cN1.mono ?_
    rintro e w2 ⟨rfl, hb2⟩
    have hb3 := hb1.trans (hb2.mono hb1.size)
    replace c6 := cell_below c6 hb3
    have h4 := HH.out.grow hb3
    have hO5 := HH.out.onl hb3
    clear cN1 hb1 hb2 h
    obtain ⟨k, nv, hA, hk, hkB⟩ := h4.cells
    have hWl : W.length ≤ 1000000 := by obtain ⟨_, _, _, hl, _⟩ := h4.toks; exact hl
    have hkm : k ≤ 1001000 := by have := h4.most; omega
    have c2 : w2.cell? ⟨rb, 2, none⟩ = some (.int .i64 (k : Nat)) := hA.cell 2 rfl
    have f2 := At.free hA 2
    have H1 := Lib.hid (h4.bumpB hg hB1 hA)
    have HO := Lib.hid (hO5.set 2 (.int .i64 ((k : Int) + 1)))
    clear hA hk hkB hWl
    generalize ((numV (⟨l.toArray⟩ : ByteArray).data.toList : Nat) : Int) = nn at *
    generalize numB (⟨l.toArray⟩ : ByteArray).data.toList = nb at *
    clear h4 hO5
    go_wp2_with fail
    go_ret
    exact ⟨nn, rfl, fun h => absurd h hg, H1.out, HO.out⟩
end Go.Proofs.YtkhklndmbfbnoaaGreatDoor

/- The document's parser: a name taken. -/
namespace Go.Proofs.YtkhklndmbfbnoaaGreatDoor
open Go.ChangeShapes Go.WideShapes Go.ChangeAt Go.RowKit Go.Joins Go.Deep
set_option linter.unusedVariables false

theorem name_at {y : ByteArray} (h1 : 0 < y.size) : nameB y.data.toList = (letB y[0] && !kwB y.data.toList) := by
  have hh := head_text h1
  have hne : y.data.toList ≠ [] := fun h => by rw [← len_text, h] at h1; simp at h1
  unfold nameB
  rw [hh]
  have : y.data.toList.isEmpty = false := by simpa using hne
  rw [this]; simp
theorem word_size {y : ByteArray} (h : wordB y.data.toList = true) : 0 < y.size := by
  rw [← len_text]
  cases hy : y.data.toList with
  | nil => rw [hy] at h; revert h; decide
  | cons a r => simp
set_option maxHeartbeats 1600000 in
theorem rtakesName_any  {c : Ctx} {fd : Value} {W : List (Tx × Nat)} {en rb B : Nat} {g : Option Nat} {s : RS} (hB1 : B + 1 ≤ 1000) (w : World) (h : PdAt c fd W en w rb g B s) : Calls Tryz.prog 30 #[.pointer (some ⟨rb, 0, none⟩)] w (TQ c fd W en rb g B txV (needR W en nameB s) w) := by
  have cS := rsee_any w h
  unfold SeeP at cS
  have HH := Lib.hid h
  by_cases hg : s.bad = none
  · have cF := fun w' hb => rfails_any (c := c) (fd := fd) (en := en) (rb := rb) (g := g) (B := B) (hereR W en s) 4 (by decide) w' (h.grow hb) hg
    have cP := fun w' hb => rplace_any w' (h.grow hb) hg
    unfold NQ at cF
    have HG := Lib.hid hg
    have c6 : w.cell? ⟨rb, 6, none⟩ = some (.int .i64 0) := by have := h.err; rw [hg] at this; exact this
    have hWl : W.length ≤ 1000000 := by obtain ⟨_, _, _, hl, _⟩ := h.toks; exact hl
    have hno : nameB (wdR W s) = false → needR W en nameB s = ([], failR W (hereR W en s) 4 s) := fun hb => by unfold needR; rw [if_neg (by rw [hb]; decide)]
    have hyes : nameB (wdR W s) = true → needR W en nameB s = (wdR W s, passR s) ∧ s.k < W.length := fun hb => ⟨by unfold needR; rw [if_pos hb], wdR_lt (fun h0 => by rw [h0] at hb; revert hb; decide)⟩
    have hlw : wdR W s = [] ∨ wordB (wdR W s) = true := by
      by_cases hk : s.k < W.length
      · exact Or.inr (h.word _ hk)
      · exact Or.inl (wdR_end (by omega))
    have hls : (wdR W s).length ≤ 100000 := h.short s.k
    obtain ⟨y, hy⟩ : ∃ y : ByteArray, y = ⟨(wdR W s).toArray⟩ := ⟨_, rfl⟩
    have hyl : y.data.toList = wdR W s := by rw [hy]
    have cS1 : Calls Tryz.prog 29 #[.pointer (some ⟨rb, 0, none⟩)] w (fun e w' => e = .returned (.string y) ∧ Below w.heap.size w w') := cS.mono (fun e w' ⟨l, he, hl, _, _, hb⟩ => ⟨by rw [he, hl hg, hy], hb⟩)
    clear h hg cS
    have cW := fun w => rWord_any y (by rw [← len_text, hyl]; omega) w
    have cK := fun w => rKeyword_any y w
    rw [← hyl] at hlw hno hyes
    clear hy hyl hls
    cases hw : wordB y.data.toList
    · have hy0 : y.data.toList = [] := by rcases hlw with h | h; exact h; rw [hw] at h; cases h
      rw [hno (by rw [hy0]; rfl)]
      rw [hw] at cW
      clear hno hyes hy0 hw cK hlw
      go_enter Tryz.func30, Tryz.ntmps30
      go_wp2_with fail
      refine cS1.mono ?_
      rintro e w1 ⟨rfl, hb1⟩
      replace c6 := cell_below c6 hb1
      clear cS1
      go_wp2_with fail
      refine (cW _).mono ?_
      rintro e w2 ⟨rfl, hb2⟩
      have hbX := hb1.trans (hb2.mono hb1.size)
      clear hb1 hb2 cW c6
      go_wp2_with fail
      refine (cP _ hbX).mono ?_
      rintro e w3 ⟨rfl, hb4⟩
      have hb5 := hbX.trans (hb4.mono hbX.size)
      clear cP
      go_wp2_with fail
      refine (cF _ hb5).mono ?_
      rintro e w4 ⟨rfl, h4, hO4⟩
      have hO5 := (HH.out.onl hb5).trans hO4
      clear cF
      obtain ⟨k, nv, hA, hk, hkB⟩ := h4.cells
      have hWl : W.length ≤ 1000000 := by obtain ⟨_, _, _, hl, _⟩ := h4.toks; exact hl
      have hkm : k ≤ 1001000 := by have := h4.most; omega
      have c2 : w4.cell? ⟨rb, 2, none⟩ = some (.int .i64 (k : Nat)) := hA.cell 2 rfl
      have f2 := At.free hA 2
      have H1 := Lib.hid (h4.bumpB fail_bad hB1 hA)
      have HO := Lib.hid (hO5.set 2 (.int .i64 ((k : Int) + 1)))
      clear hA hk hkB hWl
      clear h4 hO4 hO5
      go_wp2_with fail
      go_ret
      exact ⟨y.data.toList, rfl, fun h => absurd h fail_bad, H1.out, HO.out⟩
    · have hp := word_size hw
      have hn := name_at hp
      have cL := fun w => rLetter_any y[0] w
      rw [hw] at cW
      cases hd : letB y[0]
      · rw [hd] at hn cL
        rw [hno (by rw [hn]; rfl)]
        clear hno hyes hw cK hlw hn hd
        go_enter Tryz.func30, Tryz.ntmps30
        go_wp2_with fail
        refine cS1.mono ?_
        rintro e w1 ⟨rfl, hb1⟩
        replace c6 := cell_below c6 hb1
        clear cS1
        go_wp2_with fail
        refine (cW _).mono ?_
        rintro e w2 ⟨rfl, hb2⟩
        have hbX := hb1.trans (hb2.mono hb1.size)
        clear hb1 hb2 cW c6
        go_wp2_with fail
        refine (cL _).mono ?_
        rintro e w5 ⟨rfl, rfl⟩
        clear cL
        go_wp2_with fail
        refine (cP _ hbX).mono ?_
        rintro e w3 ⟨rfl, hb4⟩
        have hb5 := hbX.trans (hb4.mono hbX.size)
        clear cP
        go_wp2_with fail
        refine (cF _ hb5).mono ?_
        rintro e w4 ⟨rfl, h4, hO4⟩
        have hO5 := (HH.out.onl hb5).trans hO4
        clear cF
        obtain ⟨k, nv, hA, hk, hkB⟩ := h4.cells
        have hWl : W.length ≤ 1000000 := by obtain ⟨_, _, _, hl, _⟩ := h4.toks; exact hl
        have hkm : k ≤ 1001000 := by have := h4.most; omega
        have c2 : w4.cell? ⟨rb, 2, none⟩ = some (.int .i64 (k : Nat)) := hA.cell 2 rfl
        have f2 := At.free hA 2
        have H1 := Lib.hid (h4.bumpB fail_bad hB1 hA)
        have HO := Lib.hid (hO5.set 2 (.int .i64 ((k : Int) + 1)))
        clear hA hk hkB hWl
        clear h4 hO4 hO5
        go_wp2_with fail
        go_ret
        exact ⟨y.data.toList, rfl, fun h => absurd h fail_bad, H1.out, HO.out⟩
      · rw [hd] at hn cL
        cases hk : kwB y.data.toList
        · rw [hk] at hn cK
          obtain ⟨e2, hlt⟩ := hyes (by rw [hn]; rfl)
          have hk1 : s.k ≤ 1000000 := by omega
          have HL := Lib.hid hlt
          rw [e2]
          clear hno hyes hw hlw hn hd hk e2 hlt cF cP hWl
          go_enter Tryz.func30, Tryz.ntmps30
          go_wp2_with fail
          refine cS1.mono ?_
          rintro e w1 ⟨rfl, hb1⟩
          replace c6 := cell_below c6 hb1
          clear cS1
          go_wp2_with fail
          refine (cW _).mono ?_
          rintro e w2 ⟨rfl, hb2⟩
          have hb3 := hb1.trans (hb2.mono hb1.size)
          clear hb1 hb2 cW c6
          go_wp2_with fail
          refine (cL _).mono ?_
          rintro e w5 ⟨rfl, rfl⟩
          clear cL
          go_wp2_with fail
          refine (cK _).mono ?_
          rintro e w6 ⟨rfl, hb6⟩
          have hbX := hb3.trans (hb6.mono hb3.size)
          clear cK hb3 hb6
          have h1 := HH.out.grow hbX
          have hO1 := HH.out.onl hbX
          obtain ⟨k, nv, hA, hk, hkB⟩ := h1.cells
          obtain rfl := hk HG.out
          have c2 : w6.cell? ⟨rb, 2, none⟩ = some (.int .i64 (s.k : Nat)) := hA.cell 2 rfl
          have f2 := At.free hA 2
          have H1 := Lib.hid (h1.bumpG HG.out HL.out)
          have HO := Lib.hid (hO1.set 2 (.int .i64 ((s.k : Int) + 1)))
          clear hA hk hkB h1 hO1
          generalize s.k = k at *
          go_wp2_with fail
          go_ret
          exact ⟨y.data.toList, rfl, fun _ => rfl, H1.out.more (by omega) hB1, HO.out⟩
        · rw [hk] at hn cK
          rw [hno (by rw [hn]; rfl)]
          clear hno hyes hw hlw hn hd hk
          go_enter Tryz.func30, Tryz.ntmps30
          go_wp2_with fail
          refine cS1.mono ?_
          rintro e w1 ⟨rfl, hb1⟩
          replace c6 := cell_below c6 hb1
          clear cS1
          go_wp2_with fail
          refine (cW _).mono ?_
          rintro e w2 ⟨rfl, hb2⟩
          have hb3 := hb1.trans (hb2.mono hb1.size)
          clear hb1 hb2 cW c6
          go_wp2_with fail
          refine (cL _).mono ?_
          rintro e w5 ⟨rfl, rfl⟩
          clear cL
          go_wp2_with fail
          refine (cK _).mono ?_
          rintro e w6 ⟨rfl, hb6⟩
          have hbX := hb3.trans (hb6.mono hb3.size)
          clear cK hb3 hb6
          go_wp2_with fail
          refine (cP _ hbX).mono ?_
          rintro e w3 ⟨rfl, hb4⟩
          have hb5 := hbX.trans (hb4.mono hbX.size)
          clear cP
          go_wp2_with fail
          refine (cF _ hb5).mono ?_
          rintro e w4 ⟨rfl, h4, hO4⟩
          have hO5 := (HH.out.onl hb5).trans hO4
          clear cF
          obtain ⟨k, nv, hA, hk, hkB⟩ := h4.cells
          have hWl : W.length ≤ 1000000 := by obtain ⟨_, _, _, hl, _⟩ := h4.toks; exact hl
          have hkm : k ≤ 1001000 := by have := h4.most; omega
          have c2 : w4.cell? ⟨rb, 2, none⟩ = some (.int .i64 (k : Nat)) := hA.cell 2 rfl
          have f2 := At.free hA 2
          have H1 := Lib.hid (h4.bumpB fail_bad hB1 hA)
          have HO := Lib.hid (hO5.set 2 (.int .i64 ((k : Int) + 1)))
          clear hA hk hkB hWl
          clear h4 hO4 hO5
          go_wp2_with fail
          go_ret
          exact ⟨y.data.toList, rfl, fun h => absurd h fail_bad, H1.out, HO.out⟩
  · have e2 : needR W en nameB s = ([], s) := needR_bad _ (by decide) h.inv hg
    rw [e2]
    have c6 := h.err
    have q := bad_err h.inv hg
    generalize (s.bad.getD (0, 0)).2 = er at *
    clear e2
    go_enter Tryz.func30, Tryz.ntmps30
    go_wp2_with fail
    refine cS.mono ?_
    rintro e w1 ⟨l, rfl, hl, hlw, hls, hb1⟩
    have h4 := HH.out.grow hb1
    have hO5 := HH.out.onl hb1
    replace c6 := cell_below c6 hb1
    clear h hl hlw hls cS
    obtain ⟨k, nv, hA, hk, hkB⟩ := h4.cells
    have hWl : W.length ≤ 1000000 := by obtain ⟨_, _, _, hl, _⟩ := h4.toks; exact hl
    have hkm : k ≤ 1001000 := by have := h4.most; omega
    have c2 : w1.cell? ⟨rb, 2, none⟩ = some (.int .i64 (k : Nat)) := hA.cell 2 rfl
    have f2 := At.free hA 2
    have H1 := Lib.hid (h4.bumpB hg hB1 hA)
    have HO := Lib.hid (hO5.set 2 (.int .i64 ((k : Int) + 1)))
    clear hA hk hkB hWl
    clear h4 hO5
    go_wp2_with fail
    go_ret
    exact ⟨l, rfl, fun h => absurd h hg, H1.out, HO.out⟩
end Go.Proofs.YtkhklndmbfbnoaaGreatDoor

/- The document's parser: a kind taken. -/
namespace Go.Proofs.YtkhklndmbfbnoaaGreatDoor
open Go.ChangeShapes Go.WideShapes Go.ChangeAt Go.RowKit Go.Joins Go.Deep
set_option linter.unusedVariables false

set_option maxHeartbeats 1600000 in
theorem rtakesKind_any  {c : Ctx} {fd : Value} {W : List (Tx × Nat)} {en rb B : Nat} {g : Option Nat} {s : RS} (hB1 : B + 1 ≤ 1000) (w : World) (h : PdAt c fd W en w rb g B s) : Calls Tryz.prog 61 #[.pointer (some ⟨rb, 0, none⟩), .bool false] w (TQ c fd W en rb g B txV (needR W en knB s) w) := by
  have cS := rsee_any w h
  unfold SeeP at cS
  have HH := Lib.hid h
  by_cases hg : s.bad = none
  · have cF := fun w' hb => rfails_any (c := c) (fd := fd) (en := en) (rb := rb) (g := g) (B := B) (hereR W en s) 4 (by decide) w' (h.grow hb) hg
    have cP := fun w' hb => rplace_any w' (h.grow hb) hg
    unfold NQ at cF
    have HG := Lib.hid hg
    have c6 : w.cell? ⟨rb, 6, none⟩ = some (.int .i64 0) := by have := h.err; rw [hg] at this; exact this
    have hWl : W.length ≤ 1000000 := by obtain ⟨_, _, _, hl, _⟩ := h.toks; exact hl
    have hno : knB (wdR W s) = false → needR W en knB s = ([], failR W (hereR W en s) 4 s) := fun hb => by unfold needR; rw [if_neg (by rw [hb]; decide)]
    have hyes : knB (wdR W s) = true → needR W en knB s = (wdR W s, passR s) ∧ s.k < W.length := fun hb => ⟨by unfold needR; rw [if_pos hb], wdR_lt (fun h0 => by rw [h0] at hb; revert hb; decide)⟩
    have hlw : wdR W s = [] ∨ wordB (wdR W s) = true := by
      by_cases hk : s.k < W.length
      · exact Or.inr (h.word _ hk)
      · exact Or.inl (wdR_end (by omega))
    have hls : (wdR W s).length ≤ 100000 := h.short s.k
    obtain ⟨y, hy⟩ : ∃ y : ByteArray, y = ⟨(wdR W s).toArray⟩ := ⟨_, rfl⟩
    have hyl : y.data.toList = wdR W s := by rw [hy]
    have cS1 : Calls Tryz.prog 29 #[.pointer (some ⟨rb, 0, none⟩)] w (fun e w' => e = .returned (.string y) ∧ Below w.heap.size w w') := cS.mono (fun e w' ⟨l, he, hl, _, _, hb⟩ => ⟨by rw [he, hl hg, hy], hb⟩)
    clear h hg cS
    have cK := fun w => rKindQ_any y w
    rw [← hyl] at hno hyes
    clear hy hyl hls hlw
    cases hkn : knB y.data.toList
    · rw [hno (by exact hkn)]
      clear hno hyes
      go_enter Tryz.func61, Tryz.ntmps61
      go_wp2_with fail
      refine cS1.mono ?_
      rintro e w1 ⟨rfl, hb1⟩
      replace c6 := cell_below c6 hb1
      clear cS1
      go_wp2_with fail
      refine (cK _).mono ?_
      rintro e w2 ⟨k, hk7k, rfl, hkpk, hkzk, hkqk, hbk⟩
      have hbX := hb1.trans (hbk.mono hb1.size)
      clear hbk hb1
      obtain rfl := hkzk hkn
      clear hkpk hkzk hkqk hk7k cK c6
      go_wp2_with fail
      refine (cP _ hbX).mono ?_
      rintro e w3 ⟨rfl, hb4⟩
      have hb5 := hbX.trans (hb4.mono hbX.size)
      clear cP
      go_wp2_with fail
      refine (cF _ hb5).mono ?_
      rintro e w4 ⟨rfl, h4, hO4⟩
      have hO5 := (HH.out.onl hb5).trans hO4
      clear cF
      obtain ⟨k, nv, hA, hk, hkB⟩ := h4.cells
      have hWl : W.length ≤ 1000000 := by obtain ⟨_, _, _, hl, _⟩ := h4.toks; exact hl
      have hkm : k ≤ 1001000 := by have := h4.most; omega
      have c2 : w4.cell? ⟨rb, 2, none⟩ = some (.int .i64 (k : Nat)) := hA.cell 2 rfl
      have f2 := At.free hA 2
      have H1 := Lib.hid (h4.bumpB fail_bad hB1 hA)
      have HO := Lib.hid (hO5.set 2 (.int .i64 ((k : Int) + 1)))
      clear hA hk hkB hWl
      clear h4 hO4 hO5
      go_wp2_with fail
      go_ret
      exact ⟨y.data.toList, rfl, fun h => absurd h fail_bad, H1.out, HO.out⟩
    · obtain ⟨e2, hlt⟩ := hyes hkn
      have hk1 : s.k ≤ 1000000 := by omega
      have HL := Lib.hid hlt
      rw [e2]
      clear hno hyes e2 hlt cF cP hWl
      go_enter Tryz.func61, Tryz.ntmps61
      go_wp2_with fail
      refine cS1.mono ?_
      rintro e w1 ⟨rfl, hb1⟩
      replace c6 := cell_below c6 hb1
      clear cS1
      go_wp2_with fail
      refine (cK _).mono ?_
      rintro e w2 ⟨k0, hk7k0, rfl, hkpk0, hkzk0, hkqk0, hbk⟩
      have hbX := hb1.trans (hbk.mono hb1.size)
      clear hbk hb1
      have u0 : ((k0 : Int) == 0) = false := by have := hkpk0 hkn; rw [beq_eq_false_iff_ne]; omega
      clear hkpk0 hkzk0 hkqk0 hkn cK c6
      have h1 := HH.out.grow hbX
      have hO1 := HH.out.onl hbX
      obtain ⟨k, nv, hA, hk, hkB⟩ := h1.cells
      obtain rfl := hk HG.out
      have c2 : w2.cell? ⟨rb, 2, none⟩ = some (.int .i64 (s.k : Nat)) := hA.cell 2 rfl
      have f2 := At.free hA 2
      have H1 := Lib.hid (h1.bumpG HG.out HL.out)
      have HO := Lib.hid (hO1.set 2 (.int .i64 ((s.k : Int) + 1)))
      clear hA hk hkB h1 hO1
      generalize s.k = k at *
      go_wp2_with fail
      go_ret
      exact ⟨y.data.toList, rfl, fun _ => rfl, H1.out.more (by omega) hB1, HO.out⟩
  · have e2 : needR W en knB s = ([], s) := needR_bad _ (by decide) h.inv hg
    rw [e2]
    have c6 := h.err
    have q := bad_err h.inv hg
    generalize (s.bad.getD (0, 0)).2 = er at *
    clear e2
    go_enter Tryz.func61, Tryz.ntmps61
    go_wp2_with fail
    refine cS.mono ?_
    rintro e w1 ⟨l, rfl, hl, hlw, hls, hb1⟩
    have h4 := HH.out.grow hb1
    have hO5 := HH.out.onl hb1
    replace c6 := cell_below c6 hb1
    clear h hl hlw hls cS
    obtain ⟨k, nv, hA, hk, hkB⟩ := h4.cells
    have hWl : W.length ≤ 1000000 := by obtain ⟨_, _, _, hl, _⟩ := h4.toks; exact hl
    have hkm : k ≤ 1001000 := by have := h4.most; omega
    have c2 : w1.cell? ⟨rb, 2, none⟩ = some (.int .i64 (k : Nat)) := hA.cell 2 rfl
    have f2 := At.free hA 2
    have H1 := Lib.hid (h4.bumpB hg hB1 hA)
    have HO := Lib.hid (hO5.set 2 (.int .i64 ((k : Int) + 1)))
    clear hA hk hkB hWl
    clear h4 hO5
    go_wp2_with fail
    go_ret
    exact ⟨l, rfl, fun h => absurd h hg, H1.out, HO.out⟩
set_option maxHeartbeats 1600000 in
theorem rtakesKindN_any  {c : Ctx} {fd : Value} {W : List (Tx × Nat)} {en rb B : Nat} {g : Option Nat} {s : RS} (hB1 : B + 1 ≤ 1000) (w : World) (h : PdAt c fd W en w rb g B s) : Calls Tryz.prog 61 #[.pointer (some ⟨rb, 0, none⟩), .bool true] w (TQ c fd W en rb g B txV (needR W en numKB s) w) := by
  have cS := rsee_any w h
  unfold SeeP at cS
  have HH := Lib.hid h
  by_cases hg : s.bad = none
  · have cF := fun w' hb => rfails_any (c := c) (fd := fd) (en := en) (rb := rb) (g := g) (B := B) (hereR W en s) 4 (by decide) w' (h.grow hb) hg
    have cP := fun w' hb => rplace_any w' (h.grow hb) hg
    unfold NQ at cF
    have HG := Lib.hid hg
    have c6 : w.cell? ⟨rb, 6, none⟩ = some (.int .i64 0) := by have := h.err; rw [hg] at this; exact this
    have hWl : W.length ≤ 1000000 := by obtain ⟨_, _, _, hl, _⟩ := h.toks; exact hl
    have hno : numKB (wdR W s) = false → needR W en numKB s = ([], failR W (hereR W en s) 4 s) := fun hb => by unfold needR; rw [if_neg (by rw [hb]; decide)]
    have hyes : numKB (wdR W s) = true → needR W en numKB s = (wdR W s, passR s) ∧ s.k < W.length := fun hb => ⟨by unfold needR; rw [if_pos hb], wdR_lt (fun h0 => by rw [h0] at hb; revert hb; decide)⟩
    have hlw : wdR W s = [] ∨ wordB (wdR W s) = true := by
      by_cases hk : s.k < W.length
      · exact Or.inr (h.word _ hk)
      · exact Or.inl (wdR_end (by omega))
    have hls : (wdR W s).length ≤ 100000 := h.short s.k
    obtain ⟨y, hy⟩ : ∃ y : ByteArray, y = ⟨(wdR W s).toArray⟩ := ⟨_, rfl⟩
    have hyl : y.data.toList = wdR W s := by rw [hy]
    have cS1 : Calls Tryz.prog 29 #[.pointer (some ⟨rb, 0, none⟩)] w (fun e w' => e = .returned (.string y) ∧ Below w.heap.size w w') := cS.mono (fun e w' ⟨l, he, hl, _, _, hb⟩ => ⟨by rw [he, hl hg, hy], hb⟩)
    clear h hg cS
    have cK := fun w => rKindQ_any y w
    rw [← hyl] at hno hyes
    clear hy hyl hls hlw
    cases hkn : knB y.data.toList
    · rw [hno (by unfold numKB; rw [hkn]; rfl)]
      clear hno hyes
      go_enter Tryz.func61, Tryz.ntmps61
      go_wp2_with fail
      refine cS1.mono ?_
      rintro e w1 ⟨rfl, hb1⟩
      replace c6 := cell_below c6 hb1
      clear cS1
      go_wp2_with fail
      refine (cK _).mono ?_
      rintro e w2 ⟨k, hk7k, rfl, hkpk, hkzk, hkqk, hbk⟩
      have hbX := hb1.trans (hbk.mono hb1.size)
      clear hbk hb1
      obtain rfl := hkzk hkn
      clear hkpk hkzk hkqk hk7k cK c6
      go_wp2_with fail
      refine (cP _ hbX).mono ?_
      rintro e w3 ⟨rfl, hb4⟩
      have hb5 := hbX.trans (hb4.mono hbX.size)
      clear cP
      go_wp2_with fail
      refine (cF _ hb5).mono ?_
      rintro e w4 ⟨rfl, h4, hO4⟩
      have hO5 := (HH.out.onl hb5).trans hO4
      clear cF
      obtain ⟨k, nv, hA, hk, hkB⟩ := h4.cells
      have hWl : W.length ≤ 1000000 := by obtain ⟨_, _, _, hl, _⟩ := h4.toks; exact hl
      have hkm : k ≤ 1001000 := by have := h4.most; omega
      have c2 : w4.cell? ⟨rb, 2, none⟩ = some (.int .i64 (k : Nat)) := hA.cell 2 rfl
      have f2 := At.free hA 2
      have H1 := Lib.hid (h4.bumpB fail_bad hB1 hA)
      have HO := Lib.hid (hO5.set 2 (.int .i64 ((k : Int) + 1)))
      clear hA hk hkB hWl
      clear h4 hO4 hO5
      go_wp2_with fail
      go_ret
      exact ⟨y.data.toList, rfl, fun h => absurd h fail_bad, H1.out, HO.out⟩
    · by_cases hpt : y.data.toList = ptrN
      · rw [hno (by unfold numKB; rw [hkn, hpt]; rfl)]
        clear hno hyes
        go_enter Tryz.func61, Tryz.ntmps61
        go_wp2_with fail
        refine cS1.mono ?_
        rintro e w1 ⟨rfl, hb1⟩
        replace c6 := cell_below c6 hb1
        clear cS1
        go_wp2_with fail
        refine (cK _).mono ?_
        rintro e w2 ⟨k0, hk7k0, rfl, hkpk0, hkzk0, hkqk0, hbk⟩
        have hb3 := hb1.trans (hbk.mono hb1.size)
        clear hbk hb1
        have u0 : ((k0 : Int) == 0) = false := by have := hkpk0 hkn; rw [beq_eq_false_iff_ne]; omega
        clear hkpk0 hkzk0 hkqk0 c6
        go_wp2_with fail
        refine (cK _).mono ?_
        rintro e w5 ⟨k7, hk7k7, rfl, hkpk7, hkzk7, hkqk7, hbk⟩
        have hbX := hb3.trans (hbk.mono hb3.size)
        clear hbk hb3
        have u7 : ((k7 : Int) == 7) = true := by have := (hkqk7 hkn).2 hpt; rw [beq_iff_eq]; omega
        clear hkpk7 hkzk7 hkqk7 hkn hpt cK
        go_wp2_with fail
        refine (cP _ hbX).mono ?_
        rintro e w3 ⟨rfl, hb4⟩
        have hb5 := hbX.trans (hb4.mono hbX.size)
        clear cP
        go_wp2_with fail
        refine (cF _ hb5).mono ?_
        rintro e w4 ⟨rfl, h4, hO4⟩
        have hO5 := (HH.out.onl hb5).trans hO4
        clear cF
        obtain ⟨k, nv, hA, hk, hkB⟩ := h4.cells
        have hWl : W.length ≤ 1000000 := by obtain ⟨_, _, _, hl, _⟩ := h4.toks; exact hl
        have hkm : k ≤ 1001000 := by have := h4.most; omega
        have c2 : w4.cell? ⟨rb, 2, none⟩ = some (.int .i64 (k : Nat)) := hA.cell 2 rfl
        have f2 := At.free hA 2
        have H1 := Lib.hid (h4.bumpB fail_bad hB1 hA)
        have HO := Lib.hid (hO5.set 2 (.int .i64 ((k : Int) + 1)))
        clear hA hk hkB hWl
        clear h4 hO4 hO5
        go_wp2_with fail
        go_ret
        exact ⟨y.data.toList, rfl, fun h => absurd h fail_bad, H1.out, HO.out⟩
      · obtain ⟨e2, hlt⟩ := hyes (by unfold numKB; rw [hkn]; simpa using hpt)
        have hk1 : s.k ≤ 1000000 := by omega
        have HL := Lib.hid hlt
        rw [e2]
        clear hno hyes e2 hlt cF cP hWl
        go_enter Tryz.func61, Tryz.ntmps61
        go_wp2_with fail
        refine cS1.mono ?_
        rintro e w1 ⟨rfl, hb1⟩
        replace c6 := cell_below c6 hb1
        clear cS1
        go_wp2_with fail
        refine (cK _).mono ?_
        rintro e w2 ⟨k0, hk7k0, rfl, hkpk0, hkzk0, hkqk0, hbk⟩
        have hb3 := hb1.trans (hbk.mono hb1.size)
        clear hbk hb1
        have u0 : ((k0 : Int) == 0) = false := by have := hkpk0 hkn; rw [beq_eq_false_iff_ne]; omega
        clear hkpk0 hkzk0 hkqk0 c6
        go_wp2_with fail
        refine (cK _).mono ?_
        rintro e w5 ⟨k7, hk7k7, rfl, hkpk7, hkzk7, hkqk7, hbk⟩
        have hbX := hb3.trans (hbk.mono hb3.size)
        clear hbk hb3
        have u7 : ((k7 : Int) == 7) = false := by rw [beq_eq_false_iff_ne]; intro h; exact hpt ((hkqk7 hkn).1 (by omega))
        clear hkpk7 hkzk7 hkqk7 hkn hpt cK
        have h1 := HH.out.grow hbX
        have hO1 := HH.out.onl hbX
        obtain ⟨k, nv, hA, hk, hkB⟩ := h1.cells
        obtain rfl := hk HG.out
        have c2 : w5.cell? ⟨rb, 2, none⟩ = some (.int .i64 (s.k : Nat)) := hA.cell 2 rfl
        have f2 := At.free hA 2
        have H1 := Lib.hid (h1.bumpG HG.out HL.out)
        have HO := Lib.hid (hO1.set 2 (.int .i64 ((s.k : Int) + 1)))
        clear hA hk hkB h1 hO1
        generalize s.k = k at *
        go_wp2_with fail
        go_ret
        exact ⟨y.data.toList, rfl, fun _ => rfl, H1.out.more (by omega) hB1, HO.out⟩
  · have e2 : needR W en numKB s = ([], s) := needR_bad _ (by decide) h.inv hg
    rw [e2]
    have c6 := h.err
    have q := bad_err h.inv hg
    generalize (s.bad.getD (0, 0)).2 = er at *
    clear e2
    go_enter Tryz.func61, Tryz.ntmps61
    go_wp2_with fail
    refine cS.mono ?_
    rintro e w1 ⟨l, rfl, hl, hlw, hls, hb1⟩
    have h4 := HH.out.grow hb1
    have hO5 := HH.out.onl hb1
    replace c6 := cell_below c6 hb1
    clear h hl hlw hls cS
    obtain ⟨k, nv, hA, hk, hkB⟩ := h4.cells
    have hWl : W.length ≤ 1000000 := by obtain ⟨_, _, _, hl, _⟩ := h4.toks; exact hl
    have hkm : k ≤ 1001000 := by have := h4.most; omega
    have c2 : w1.cell? ⟨rb, 2, none⟩ = some (.int .i64 (k : Nat)) := hA.cell 2 rfl
    have f2 := At.free hA 2
    have H1 := Lib.hid (h4.bumpB hg hB1 hA)
    have HO := Lib.hid (hO5.set 2 (.int .i64 ((k : Int) + 1)))
    clear hA hk hkB hWl
    clear h4 hO5
    go_wp2_with fail
    go_ret
    exact ⟨l, rfl, fun h => absurd h hg, H1.out, HO.out⟩
end Go.Proofs.YtkhklndmbfbnoaaGreatDoor
