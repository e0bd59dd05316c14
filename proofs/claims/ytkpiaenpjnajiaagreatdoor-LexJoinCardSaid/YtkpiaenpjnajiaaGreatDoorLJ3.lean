/- LexJoin: its third loop: each list is joined. -/
import Derived.Test.YtkpiaenpjnajiaaGreatDoorLJ4
import Derived.Test.YtkpiaenpjnajiaaGreatDoorLJ5
namespace Go.Proofs.YtkpiaenpjnajiaaGreatDoor
open Go.ChangeShapes Go.WideShapes Go.ChangeAt Go.RowKit Go.Joins Go.Deep
set_option linter.unusedVariables false

def dfL : Value × List Txt := (.slice none 0 0, [])
def Fr3 (t : Array Value) (B : Nat) (v3 : Value) : Prop := t.size = 184 ∧ sl t 1 = .pointer (some ⟨B, 0, none⟩) ∧ sl t 3 = v3
def Rel3 (B : Nat) (v3 : Value) (m3 : Nat) (w2 : World) (n : Nat) (a : Act) (wr : World) : Prop :=
  ∃ t i z, a = ⟨t, []⟩ ∧ Fr3 t B v3 ∧ sl t 10 = .int .i64 z ∧ z = (i : Nat) ∧ i + n = m3 ∧ Below w2.heap.size w2 wr
set_option maxRecDepth 1000000 in
set_option maxHeartbeats 12800000 in
theorem jloop3 (B g3 m3 c3 : Nat) (LL : List (Value × List Txt)) (w2 : World) (hm5 : m3 ≤ 1000) (hm : m3 = LL.length) (hLC : ∀ i, i < m3 → w2.cell? ⟨g3, i, none⟩ = some (LL.getD i dfL).1) (hAll : AllAt w2 LL)
    (t : Array Value) (hF : Fr3 t B (.slice (some ⟨g3, 0, none⟩) m3 c3)) (f10 : sl t 10 = .int .i64 0) (Q : Exit → Act → World → Prop)
    (hQ : ∀ t w', t.size = 184 → Below w2.heap.size w2 w' → Q (.exit 4) ⟨t, []⟩ w') :
    (Code.loop jBody3).wp Tryz.prog (NoPanic Q) ⟨t, []⟩ w2 := by
  refine wp_loop_ghost_k (Rel3 B (.slice (some ⟨g3, 0, none⟩) m3 c3) m3 w2) m3 ⟨t, 0, 0, rfl, hF, f10, rfl, by omega, Below.refl _ _⟩ ?_
  have HM := Lib.hid hm
  clear hF f10 hm
  intro n a wr hR iK iJv hJ hK
  clear t
  obtain ⟨t, i, z, rfl, ⟨f0, f1, f3⟩, f10, rfl, hin, hb⟩ := hR
  rw [open_184 t f0]
  simp only [f1, f3, f10]
  clear f0 f1 f3 f10
  conv => arg 2; whnf
  by_cases hi : i < m3
  · have hi3 : (i : Int) < (m3 : Int) := by omega
    have t1 : decide ((i : Int) < (m3 : Int)) = true := by simp; omega
    have ci0 := cell_below (hLC i hi) hb
    have hLi := (hAll _ (show LL.getD i dfL ∈ LL by rw [List.getD_eq_getElem?_getD, List.getElem?_eq_getElem (by have := HM.out; omega)]; exact List.getElem_mem _)).below hb
    obtain ⟨p, hp⟩ : ∃ p, p = LL.getD i dfL := ⟨_, rfl⟩
    rw [← hp] at ci0 hLi
    obtain ⟨v, L⟩ := p
    obtain ⟨q, nL, cL, hv, hnL⟩ : ∃ q n c, v = .slice q n c ∧ n = L.length := by
      obtain ⟨q, cap, h, _⟩ := hLi
      exact ⟨q, _, cap, h, rfl⟩
    subst hv
    dsimp only at ci0 hLi
    have cJ := join_any q nL cL L wr hLi
    have HNL := Lib.hid hnL
    have cM := fun n w => num_any n w
    unfold JoinPost at cJ
    clear hLC hAll hQ hnL hp
    cases hw : allW L
    · rw [hw] at cJ
      change Calls _ _ _ _ (fun e w' => e = .returned (.tuple #[.string ⟨#[]⟩, .int .i64 1]) ∧ _) at cJ
      have HW := Lib.hid hw
      clear hw
      go_wp2_with fail
      refine cJ.mono ?_
      rintro e w4 ⟨rfl, hb4⟩
      have ci4 := cell_below ci0 hb4
      have hL4 := hLi.below hb4
      have b4 := hb.trans (hb4.mono hb.size)
      clear cJ ci0 hLi hb4
      go_wp2_with fail
      refine noPanic_mono (jloop4 B g3 m3 c3 i nL cL q (.string ⟨#[]⟩) (.int .i64 1) L w4 hi ci4 hL4 _ ⟨rfl, rfl, rfl, rfl, rfl, rfl⟩ rfl rfl rfl _ ?_)
      intro t2 w5 W bad hF hf13 hf14 hbad hW hb5
      rw [HW.out] at hbad
      change bad = 1 at hbad
      subst hbad
      obtain ⟨f0, f1, f3, f10, f11, f12⟩ := hF
      rw [open_184 t2 f0]
      simp only [f1, f3, f10, f11, f12, hf13, hf14]
      clear f0 f1 f3 f10 f11 f12 hf13 hf14 hW
      have b5 := b4.trans (hb5.mono b4.size)
      clear hb5 ci4 hL4 b4 HW
      go_wp2_with (go_at_call 11; (with_reducible refine (cM _ _).mono ?_); rintro e w' ⟨rfl, rfl⟩)
      refine Handed.intro (n - 1) (by omega) (hJ _ _ _ ⟨_, i + 1, _, rfl, ⟨rfl, rfl, rfl⟩, rfl, by omega, by omega, b5⟩)
    · rw [hw] at cJ
      change Calls _ _ _ _ (fun e w' => e = .returned (.tuple #[.string ⟨(joinL L).toArray⟩, .int .i64 0]) ∧ _) at cJ
      obtain ⟨sJ, hsJ⟩ : ∃ sJ : ByteArray, sJ = ⟨(joinL L).toArray⟩ := ⟨_, rfl⟩
      rw [← hsJ] at cJ
      have hsd : sJ.data.toList = joinL L := by rw [hsJ]
      have HW := Lib.hid hw
      have HSD := Lib.hid hsd
      clear hw hsJ hsd
      go_wp2_with fail
      refine cJ.mono ?_
      rintro e w4 ⟨rfl, hb4⟩
      have ci4 := cell_below ci0 hb4
      have hL4 := hLi.below hb4
      have b4 := hb.trans (hb4.mono hb.size)
      clear cJ ci0 hLi hb4
      go_wp2_with fail
      refine noPanic_mono (jloop4 B g3 m3 c3 i nL cL q (.string sJ) (.int .i64 0) L w4 hi ci4 hL4 _ ⟨rfl, rfl, rfl, rfl, rfl, rfl⟩ rfl rfl rfl _ ?_)
      intro t2 w5 W bad hF hf13 hf14 hbad hW hb5
      rw [HW.out] at hbad
      change bad = 0 at hbad
      subst hbad
      obtain rfl : W = sJ := bytes_inj (hW.trans HSD.out.symm)
      obtain ⟨f0, f1, f3, f10, f11, f12⟩ := hF
      rw [open_184 t2 f0]
      simp only [f1, f3, f10, f11, f12, hf13, hf14]
      clear f0 f1 f3 f10 f11 f12 hf13 hf14 hW
      have b5 := b4.trans (hb5.mono b4.size)
      have ci5 := cell_below ci4 hb5
      have hL5 := hL4.below hb5
      clear hb5 ci4 hL4 b4
      by_cases h2000 : W.size ≤ 2000
      · have u1 : decide ((W.size : Int) ≤ 2000) = true := by simp; omega
        obtain ⟨T, hT1, hT2⟩ := tell_join HW.out (by rw [← HSD.out, len_text]; exact h2000)
        have cWo := fun w => words_any W (by unfold maxLen; omega) w
        unfold WordsPost at cWo
        rw [HSD.out, hT1] at cWo
        dsimp only at cWo
        have hTl : T.length = nL := by rw [HNL.out, ← hT2, List.length_map]
        have hnn5 : nL ≤ 100000 := by
          obtain ⟨q', cap', hv, hl, _⟩ := hL5
          have := HNL.out
          omega
        have HT2 := Lib.hid hT2
        have HTL := Lib.hid hTl
        clear hT1 hT2 hTl
        go_wp2_with (go_at_call 11; (with_reducible refine (cM _ _).mono ?_); rintro e w' ⟨rfl, rfl⟩)
        refine (cWo _).mono ?_
        rintro e w6 ⟨fd, rfl, hR6, hb6⟩
        have ci6 := cell_below ci5 hb6
        have hL6 := hL5.below hb6
        have b6 := b5.trans (hb6.mono b5.size)
        have k6 := hR6.toks (by rw [HTL.out]; omega)
        obtain ⟨qT, cT, hfd⟩ : ∃ q cap, fd = .slice q nL cap := by
          obtain ⟨q, cap, h, _⟩ := k6
          exact ⟨q, cap, by rw [h, HTL.out]⟩
        subst hfd
        clear cWo ci5 hL5 b5 hR6 hb6 u1
        go_wp2_with (go_at_call 11; (with_reducible refine (cM _ _).mono ?_); rintro e w' ⟨rfl, rfl⟩)
        refine noPanic_mono (jloop5 B g3 m3 c3 i nL cL nL cT q qT L T w6 hi ci6 hL6 HTL.out.symm k6 HT2.out _ ⟨rfl, rfl, rfl, rfl, rfl⟩ rfl _ ?_)
        intro t3 w7 hF hb7
        obtain ⟨f0, f1, f3, f10, f16⟩ := hF
        rw [open_184 t3 f0]
        simp only [f1, f3, f10, f16]
        clear f0 f1 f3 f10 f16 k6 ci6 hL6
        have b7 := b6.trans (hb7.mono b6.size)
        go_wp2_with fail
        refine Handed.intro (n - 1) (by omega) (hJ _ _ _ ⟨_, i + 1, _, rfl, ⟨rfl, rfl, rfl⟩, rfl, by omega, by omega, b7⟩)
      · have u1 : decide ((W.size : Int) ≤ 2000) = false := by simp; omega
        go_wp2_with (go_at_call 11; (with_reducible refine (cM _ _).mono ?_); rintro e w' ⟨rfl, rfl⟩)
        refine Handed.intro (n - 1) (by omega) (hJ _ _ _ ⟨_, i + 1, _, rfl, ⟨rfl, rfl, rfl⟩, rfl, by omega, by omega, b5⟩)
  · have t1 : decide ((i : Int) < (m3 : Int)) = false := by simp; omega
    clear hJ hLC
    go_wp2_with fail
    exact hQ _ _ rfl hb
end Go.Proofs.YtkpiaenpjnajiaaGreatDoor
