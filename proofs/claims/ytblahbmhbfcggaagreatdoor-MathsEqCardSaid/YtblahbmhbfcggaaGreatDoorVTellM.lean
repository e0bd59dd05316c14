/- Package val: within, In: whether all members of one are the other one's. Over what meet does. -/
import Derived.Test.YtblahbmhbfcggaaGreatDoorVMeetM
import Derived.Test.YtblahbmhbfcggaaGreatDoorVBoth
import Derived.Test.YtblahbmhbfcggaaGreatDoorVQuiet
import Derived.BigRegion
namespace Go.Proofs.YtblahbmhbfcggaaGreatDoor
open Go.ChangeShapes Go.WideShapes Go.ChangeAt Go.RowKit Go.Joins Go.Deep
set_option linter.unusedVariables false

def WithinPost (A B : Nat → Prop) (w : World) (e : Ending) (w' : World) : Prop := ∃ is : Bool, (is = true ↔ ∀ z, A z → B z) ∧ e = .returned (.bool is) ∧ Below w.heap.size w w'
set_option maxRecDepth 100000 in
set_option maxHeartbeats 800000 in
theorem within_any (H : MeetHolds) (bla blb k fa ba fb bb : Nat) (La Lb : Spans) (sla slb : Value) (ca cb : Int) (ga : GoodL k fa ba La ca) (gb : GoodL k fb bb Lb cb) (h9a : La.length ≤ 9) (h9b : Lb.length ≤ 9) (w : World)
    (hA : At w bla (layC k fa ba sla ca) 158) (hB : At w blb (layC k fb bb slb cb) 158) (hsa : SrcV w sla La) (hsb : SrcV w slb Lb) :
    Calls Tryz.prog 130 #[.pointer (some ⟨bla, 0, none⟩), .pointer (some ⟨blb, 0, none⟩)] w (WithinPost (MemL k fa ba La) (MemL k fb bb Lb) w) := by
  have cM := H bla blb k fa ba fb bb La Lb sla slb ca cb ga gb h9a h9b w hA hB hsa hsb
  have HG := Lib.hid ga
  clear hB hsa hsb gb h9a h9b ga H
  go_enter Tryz.func130, Tryz.ntmps130
  go_wp2_with fail
  refine cM.mono ?_
  rintro e w1 ⟨F, B, L, c, bl, rfl, ⟨sl, hAt, _⟩, gm, hmem, _, _, hb1⟩
  replace hA := At.below' hb1 hA
  have hi := within_iff HG.out gm hmem
  have fin : WithinPost (MemL k fa ba La) (MemL k fb bb Lb) w (.returned (.bool (c == ca))) w1 := ⟨_, hi, rfl, hb1⟩
  clear hi gm hmem cM hb1
  go_wp2_with fail
  refine (count_any bl _ _ _ _ _ _ hAt).mono ?_
  rintro e w2 ⟨rfl, rfl⟩
  go_wp2_with fail
  refine (count_any bla _ _ _ _ _ _ hA).mono ?_
  rintro e w2 ⟨rfl, rfl⟩
  go_wp2_with fail
  go_ret
  exact fin
/-- a set laid out, as a layout that is whole -/
structure LayIs (w : World) (bl k F B : Nat) (L : Spans) (c : Int) (sl : Value) (M : Nat → Prop) : Prop where
  at_ : At w bl (layC k F B sl c) 158
  src : SrcV w sl L
  good : GoodL k F B L c
  short : L.length ≤ 2
  mem : ∀ z, MemL k F B L z ↔ M z
theorem spansOf_two {k l h : Nat} {no : Bool} : (spansOf k no l h).length ≤ 2 := by
  unfold spansOf
  split
  · simp
  · split <;> simp
theorem laid_is {w : World} {lo bl k : Nat} {no : Bool} {l h f b : Nat} (ok : ValOk k no l h f b) (hL : LaidSet w lo bl k no l h f b) : ∃ F B L c sl, LayIs w bl k F B L c sl (MemV k no l h f b) := by
  obtain ⟨L, hl, sl, hA, hs, _, _⟩ := hL
  obtain ⟨hg, hm⟩ := good_of_laid ok.pat hl (hl.rise rising_spansOf)
  exact ⟨_, _, L, _, sl, hA, hs.src, hg, Nat.le_trans hl.short spansOf_two, fun z => (hm z).trans (memL_memV hl)⟩
theorem LayIs.below {w w' : World} {bl k F B : Nat} {L : Spans} {c : Int} {sl : Value} {M : Nat → Prop} (h : LayIs w bl k F B L c sl M) (hb : Below w.heap.size w w') : LayIs w' bl k F B L c sl M := ⟨At.below' hb h.at_, h.src.below hb, h.good, h.short, h.mem⟩
def InPost (A B : Nat → Prop) (w : World) (e : Ending) (w' : World) : Prop := ∃ is : Bool, (is = true ↔ ∀ z, A z → B z) ∧ e = .returned (.tuple #[.bool is, .int .i64 0]) ∧ Below w.heap.size w w'
end Go.Proofs.YtblahbmhbfcggaaGreatDoor

/- Package val: join of two layouts. Over what meet and merge do. -/
namespace Go.Proofs.YtblahbmhbfcggaaGreatDoor
open Go.ChangeShapes Go.WideShapes Go.ChangeAt Go.RowKit Go.Joins Go.Deep
set_option linter.unusedVariables false

def MergePost (A C : Spans) (w : World) (e : Ending) (w' : World) : Prop :=
  ∃ M sv, e = .returned sv ∧ SrcV w' sv M ∧ Rising M ∧ (∀ z, InSpans M z ↔ InSpans A z ∨ InSpans C z) ∧ (∀ t ∈ M, (∃ s ∈ A ++ C, t.1 = s.1) ∧ ∃ s ∈ A ++ C, t.2 = s.2) ∧ M.length ≤ 4 ∧ Below w.heap.size w w'
/-- what merge does -/
def MergeHolds : Prop := ∀ (A C : Spans) (svA svC : Value) (w : World), A.length ≤ 2 → C.length ≤ 2 → 0 < A.length → 0 < C.length → (∀ t ∈ A, t.1 ≤ t.2 ∧ t.2 < 4294967296) → (∀ t ∈ C, t.1 ≤ t.2 ∧ t.2 < 4294967296) → SrcV w svA A → SrcV w svC C →
    Calls Tryz.prog 180 #[svA, svC] w (MergePost A C w)
/-- a layout that holds what two have together, and, where one is in the other, nothing else -/
def JoinPost (k : Nat) (A B : Nat → Prop) (w : World) (e : Ending) (w' : World) : Prop :=
  ∃ (bl F X : Nat) (L : Spans) (c : Int) (sl : Value), e = .returned (.pointer (some ⟨bl, 0, none⟩)) ∧ At w' bl (layC k F X sl c) 158 ∧ SrcV w' sl L ∧ GoodL k F X L c ∧ L.length ≤ 100 ∧ (∀ z, A z ∨ B z → MemL k F X L z) ∧ ((∀ z, A z → B z) ∨ (∀ z, B z → A z) → ∀ z, MemL k F X L z → A z ∨ B z) ∧ Below w.heap.size w w'
theorem some_part {w : World} {bl k F B : Nat} {L : Spans} {c : Int} {sl : Value} {M : Nat → Prop} (h : LayIs w bl k F B L c sl M) {z : Nat} (hz : M z) : 0 < L.length := by
  obtain ⟨_, _, t, ht, _⟩ := (h.mem z).2 hz
  exact List.length_pos_of_mem ht
theorem merge_lt {w : World} {k bla blb fa ba fb bb : Nat} {La Lb M : Spans} {ca cb : Int} {sla slb : Value} {A B : Nat → Prop} (iA : LayIs w bla k fa ba La ca sla A) (iB : LayIs w blb k fb bb Lb cb slb B)
    (h : ∀ t ∈ M, (∃ s ∈ La ++ Lb, t.1 = s.1) ∧ ∃ s ∈ La ++ Lb, t.2 = s.2) : ∀ t ∈ M, t.1 < 2 ^ k ∧ t.2 < 2 ^ k := by
  have each : ∀ s ∈ La ++ Lb, s.1 < 2 ^ k ∧ s.2 < 2 ^ k := fun s hs => by
    rcases List.mem_append.1 hs with h' | h'
    · have := iA.good.ends s h'; omega
    · have := iB.good.ends s h'; omega
  intro t ht
  obtain ⟨⟨s, hs, e1⟩, ⟨s', hs', e2⟩⟩ := h t ht
  rw [e1, e2]
  exact ⟨(each s hs).1, (each s' hs').2⟩
theorem join_fin {w w' wl : World} {k bla blb fa ba fb bb F X lo bl : Nat} {La Lb M L : Spans} {ca cb : Int} {sla slb : Value} {A B : Nat → Prop} (ok : PatOk k F X) (hF : ∀ z, Fits fa ba z ∨ Fits fb bb z → Fits F X z)
    (iA : LayIs w' bla k fa ba La ca sla A) (iB : LayIs w' blb k fb bb Lb cb slb B) (nA : ¬ ∀ z, A z → B z) (nB : ¬ ∀ z, B z → A z) (hl : Laid k F X M L) (hr : Rising M) (hin : ∀ z, InSpans M z ↔ InSpans La z ∨ InSpans Lb z) (hlen : M.length ≤ 4)
    (hlay : LayAt wl lo bl k (narF F L) (narB F X L) L (sumR F L)) (hb : Below w.heap.size w wl) : JoinPost k A B w (.returned (.pointer (some ⟨bl, 0, none⟩))) wl := by
  obtain ⟨sl, hA, hs, _, _⟩ := hlay
  obtain ⟨hg, hm⟩ := good_of_lay ok hl hr
  refine ⟨bl, _, _, L, _, sl, rfl, hA, hs.src, hg, by have := hl.short; omega, fun z hz => ?_, fun h => ?_, hb⟩
  · refine (hm z).2 ?_
    rcases hz with h | h
    · obtain ⟨h1, h2, h3⟩ := (iA.mem z).2 h
      exact ⟨h1, hF z (Or.inl h2), (hin z).2 (Or.inl h3)⟩
    · obtain ⟨h1, h2, h3⟩ := (iB.mem z).2 h
      exact ⟨h1, hF z (Or.inr h2), (hin z).2 (Or.inr h3)⟩
  · rcases h with h | h
    · exact absurd h nA
    · exact absurd h nB

set_option maxRecDepth 100000 in
set_option maxHeartbeats 6400000 in
theorem join_any (H : MeetHolds) (HM : MergeHolds) (bla blb k fa ba fb bb : Nat) (La Lb : Spans) (sla slb : Value) (ca cb : Int) (A B : Nat → Prop) (w : World)
    (iA : LayIs w bla k fa ba La ca sla A) (iB : LayIs w blb k fb bb Lb cb slb B) :
    Calls Tryz.prog 151 #[.pointer (some ⟨bla, 0, none⟩), .pointer (some ⟨blb, 0, none⟩)] w (JoinPost k A B w) := by
  have c1 := within_any H bla blb k fa ba fb bb La Lb sla slb ca cb iA.good iB.good (by have := iA.short; omega) (by have := iB.short; omega) w iA.at_ iB.at_ iA.src iB.src
  have HI := Lib.hid H
  have HMh := Lib.hid HM
  clear H HM
  go_enter Tryz.func151, Tryz.ntmps151
  go_wp2_with fail
  refine c1.mono ?_
  rintro e w1 ⟨is1, his1, rfl, hb1⟩
  clear c1
  have jA := iA.below hb1
  have jB := iB.below hb1
  have hAB : (is1 = true ↔ ∀ z, A z → B z) := his1.trans ⟨fun h z hz => (iB.mem z).1 (h z ((iA.mem z).2 hz)), fun h z hz => (iB.mem z).2 (h z ((iA.mem z).1 hz))⟩
  have HAB := Lib.hid hAB
  clear his1 iA iB hAB
  cases is1
  · have c2 := within_any HI.out blb bla k fb bb fa ba Lb La slb sla cb ca jB.good jA.good (by have := jB.short; omega) (by have := jA.short; omega) w1 jB.at_ jA.at_ jB.src jA.src
    go_wp2_with fail
    refine c2.mono ?_
    rintro e w2 ⟨is2, his2, rfl, hb2⟩
    clear c2
    have hb := hb1.trans (hb2.mono hb1.size)
    have hBA : (is2 = true ↔ ∀ z, B z → A z) := his2.trans ⟨fun h z hz => (jA.mem z).1 (h z ((jB.mem z).2 hz)), fun h z hz => (jA.mem z).2 (h z ((jB.mem z).1 hz))⟩
    have HBA := Lib.hid hBA
    have kA := jA.below hb2
    have kB := jB.below hb2
    clear his2 hBA jA jB hb1 hb2
    cases is2
    · have nA : ¬ ∀ z, A z → B z := fun h => by have := HAB.out.2 h; cases this
      have nB : ¬ ∀ z, B z → A z := fun h => by have := HBA.out.2 h; cases this
      have NA := Lib.hid nA
      have NB := Lib.hid nB
      clear nA nB
      have a0 : w2.cell? ⟨bla, 0, none⟩ = some (.int .i64 k) := kA.at_.cell 0 rfl
      have a1 : w2.cell? ⟨bla, 1, none⟩ = some (.int .i64 fa) := kA.at_.cell 1 rfl
      have a2 : w2.cell? ⟨bla, 2, none⟩ = some (.int .i64 ba) := kA.at_.cell 2 rfl
      have b1 : w2.cell? ⟨blb, 1, none⟩ = some (.int .i64 fb) := kB.at_.cell 1 rfl
      have b2 : w2.cell? ⟨blb, 2, none⟩ = some (.int .i64 bb) := kB.at_.cell 2 rfl
      have ha := kA.good.pat
      have hb' := kB.good.pat
      have okJ := join_ok ha hb'
      have hp := ha.hk.pow
      have l1 := ha.hf
      have l2 := ha.hb
      have l3 := hb'.hf
      have l4 := hb'.hb
      have e1 := bits_or (x := fa) (y := fb) (by omega) (by omega)
      have e2 := bits_xor (x := ba) (y := bb) (by omega) (by omega)
      have lo1 : fa ||| fb < 2 ^ k := Nat.or_lt_two_pow l1 l3
      have lx1 : ba ^^^ bb < 2 ^ k := Nat.xor_lt_two_pow l2 l4
      have e3 := bits_or (x := fa ||| fb) (y := ba ^^^ bb) (by omega) (by omega)
      have e4 := bits_andNot (x := ba) (y := joinF fa ba fb bb) (by omega)
      have hfit : ∀ z, Fits fa ba z ∨ Fits fb bb z → Fits (joinF fa ba fb bb) (joinB fa ba fb bb) z := fun z h => join_fits h
      have eF : fa ||| fb ||| (ba ^^^ bb) = joinF fa ba fb bb := rfl
      have eX : nandn ba (joinF fa ba fb bb) = joinB fa ba fb bb := rfl
      rw [eF] at e3
      rw [eX] at e4
      clear eF eX
      obtain ⟨o1, ho1⟩ : ∃ x, x = fa ||| fb := ⟨_, rfl⟩
      obtain ⟨x1, hx1⟩ : ∃ x, x = ba ^^^ bb := ⟨_, rfl⟩
      obtain ⟨F, hF⟩ : ∃ x, x = joinF fa ba fb bb := ⟨_, rfl⟩
      obtain ⟨X, hX⟩ : ∃ x, x = joinB fa ba fb bb := ⟨_, rfl⟩
      rw [← ho1] at e1 e3
      rw [← hx1] at e2 e3
      rw [← hF] at e3 e4 okJ hfit
      rw [← hX] at e4 okJ hfit
      have OJ := Lib.hid okJ
      have HF := Lib.hid hfit
      have KA := Lib.hid kA
      have KB := Lib.hid kB
      clear ho1 hx1 hF hX hp l1 l2 l3 l4 lo1 lx1 ha hb' okJ hfit kA kB
      go_wp2_with fail
      go_quiet (fail)
      have hb3 : Below w.heap.size w (w2.drewN nq) := hb.trans (Joins.below_draws _ _ _)
      have q0 : (w2.drewN nq).cell? ⟨bla, 0, none⟩ = some (.int .i64 k) := a0
      have q2 : (w2.drewN nq).cell? ⟨bla, 2, none⟩ = some (.int .i64 ba) := a2
      have jA : LayIs (w2.drewN nq) bla k fa ba La ca sla A := KA.out.below (Joins.below_draws _ _ _)
      have jB : LayIs (w2.drewN nq) blb k fb bb Lb cb slb B := KB.out.below (Joins.below_draws _ _ _)
      clear a0 a1 a2 b1 b2 e1 e2 e3 hb KA KB
      generalize w2.drewN nq = w3 at *
      have KA := Lib.hid jA
      have KB := Lib.hid jB
      clear jA jB
      have z0 := cell_alloc q0 (.cells #[.int .i64 0, .int .i64 0, .int .i64 0] 152)
      have z2 := cell_alloc q2 (.cells #[.int .i64 0, .int .i64 0, .int .i64 0] 152)
      go_wp2_with fail
      go_region
      go_wp2_with fail
      have dP0 := (At.new w3 #[.int .i64 k, .int .i64 F, .int .i64 X] 152).drew
      have hbr : Below w3.heap.size w3 (w3.alloc (.cells #[.int .i64 k, .int .i64 F, .int .i64 X] 152)).drew := ((Below.refl _ _).alloc (Nat.le_refl _) _).drew
      have hb4 := hb3.trans (hbr.mono hb3.size)
      have jA := KA.out.below hbr
      have jB := KB.out.below hbr
      have hposA : 0 < La.length := by
        rcases Nat.eq_zero_or_pos La.length with h | h
        · exact absurd (fun z hz => absurd (some_part jA hz) (by omega)) NA.out
        · exact h
      have hposB : 0 < Lb.length := by
        rcases Nat.eq_zero_or_pos Lb.length with h | h
        · exact absurd (fun z hz => absurd (some_part jB hz) (by omega)) NB.out
        · exact h
      have hk32 : (2 : Nat) ^ k ≤ 2 ^ 32 := OJ.out.hk.pow
      have cM := fun w h1 h2 => HMh.out La Lb sla slb w jA.short jB.short hposA hposB (fun t ht => ⟨(jA.good.ends t ht).1, by have := (jA.good.ends t ht).2.1; omega⟩) (fun t ht => ⟨(jB.good.ends t ht).1, by have := (jB.good.ends t ht).2.1; omega⟩) h1 h2
      have KA4 := Lib.hid jA
      have KB4 := Lib.hid jB
      have hA3 : (w3.alloc (.cells #[.int .i64 k, .int .i64 F, .int .i64 X] 152)).drew.cell? ⟨bla, 3, none⟩ = some sla := jA.at_.cell 3 rfl
      have hB3 : (w3.alloc (.cells #[.int .i64 k, .int .i64 F, .int .i64 X] 152)).drew.cell? ⟨blb, 3, none⟩ = some slb := jB.at_.cell 3 rfl
      obtain ⟨N, hN⟩ : ∃ N, N = w3.heap.size := ⟨_, rfl⟩
      rw [← hN] at dP0 ⊢
      clear z0 z2 q0 q2 e4 hbr hb3 KA KB jA jB hposA hposB hk32 hN
      generalize (w3.alloc (.cells #[.int .i64 k, .int .i64 F, .int .i64 X] 152)).drew = w4 at *
      have sA : SrcV w4.drew sla La := KA4.out.src.below ((Below.refl _ _).drew)
      have sB : SrcV w4.drew slb Lb := KB4.out.src.below ((Below.refl _ _).drew)
      have hS5 : w4.cell? ⟨N, 0, none⟩ = some (.int .i64 k) ∧ w4.cell? ⟨N, 1, none⟩ = some (.int .i64 F) ∧ w4.cell? ⟨N, 2, none⟩ = some (.int .i64 X) ∧ w4.cell? ⟨bla, 3, none⟩ = some sla ∧ w4.cell? ⟨blb, 3, none⟩ = some slb := ⟨dP0.cell 0 rfl, dP0.cell 1 rfl, dP0.cell 2 rfl, hA3, hB3⟩
      clear dP0 hA3 hB3
      go_region_held3 (fun w' => w'.cell? ⟨N, 0, none⟩ = some (.int .i64 k) ∧ w'.cell? ⟨N, 1, none⟩ = some (.int .i64 F) ∧ w'.cell? ⟨N, 2, none⟩ = some (.int .i64 X) ∧ w'.cell? ⟨bla, 3, none⟩ = some sla ∧ w'.cell? ⟨blb, 3, none⟩ = some slb)
        (first
          | exact hS5
          | exact keep5_below (by assumption) hbm
          | exact keep5_below (by assumption) hbl)
        (first
          | (go_at_call 180; refine (cM _ sA sB).mono ?_; rintro e ws ⟨M, sv, rfl, hsv, hrise, hin, hends, hlen, hbm⟩; replace hb4 := below_step hbm hb4 rfl rfl rfl rfl hb4.size)
          | (go_at_call 158; refine (lay_any k F X M sv OJ.out (merge_lt KA4.out KB4.out hends) (by omega) _ hsv).mono ?_; rintro e wl ⟨L, bl, hlaid, rfl, hlay, hbb, hbl⟩; replace hb4 := below_step hbl hb4 rfl rfl rfl rfl hb4.size))
      all_goals
        have fin := join_fin OJ.out HF.out KA4.out KB4.out NA.out NB.out hlaid hrise hin hlen hlay hb4
        clear hS5
        go_wp2_with fail
        go_ret
        exact fin
    · have hin := HBA.out.1 rfl
      have fin : JoinPost k A B w (.returned (.pointer (some ⟨bla, 0, none⟩))) w2 := ⟨bla, fa, ba, La, ca, sla, rfl, kA.at_, kA.src, kA.good, by have := kA.short; omega, fun z hz => (kA.mem z).2 (hz.elim id (hin z)), fun _ z hz => Or.inl ((kA.mem z).1 hz), hb⟩
      clear kA kB hin hb
      go_wp2_with fail
      go_ret
      exact fin
  · have hin := HAB.out.1 rfl
    have fin : JoinPost k A B w (.returned (.pointer (some ⟨blb, 0, none⟩))) w1 := ⟨blb, fb, bb, Lb, cb, slb, rfl, jB.at_, jB.src, jB.good, by have := jB.short; omega, fun z hz => (jB.mem z).2 (hz.elim (hin z) id), fun _ z hz => Or.inr ((jB.mem z).1 hz), hb1⟩
    clear jA jB hin hb1
    go_wp2_with fail
    go_ret
    exact fin
end Go.Proofs.YtblahbmhbfcggaaGreatDoor

/- What tell tells: one of a layout's arcs, or nothing. Plain mathematics. -/
namespace Go.Proofs.YtblahbmhbfcggaaGreatDoor
open Go.ChangeShapes Go.WideShapes Go.ChangeAt Go.RowKit Go.Joins Go.Deep
set_option linter.unusedVariables false

/-- the best of the first i arcs: none of them fits, or one that fits -/
def TellSt (L : Spans) (F X : Nat) (Fit : Nat → Prop) (i : Nat) (m : Int) (no : Bool) (l h f b : Nat) : Prop :=
  (m = -1 ∧ no = true ∧ l = 0 ∧ h = 0 ∧ f = 0 ∧ b = 0 ∧ ∀ j, j < i → ¬ Fit j) ∨ (0 ≤ m ∧ m ≤ 1152921504606846976 ∧ ∃ j, j < i ∧ Fit j ∧ no = false ∧ l = arcL L j ∧ h = arcH L j ∧ f = F ∧ b = X)
theorem TellSt.start {L : Spans} {F X : Nat} {Fit : Nat → Prop} : TellSt L F X Fit 0 (-1) true 0 0 0 0 := Or.inl ⟨rfl, rfl, rfl, rfl, rfl, rfl, fun j hj => absurd hj (Nat.not_lt_zero j)⟩
theorem TellSt.take {L : Spans} {F X : Nat} {Fit : Nat → Prop} {i : Nat} {g : Int} (h0 : 0 ≤ g) (h1 : g ≤ 1152921504606846976) (hf : Fit i) : TellSt L F X Fit (i + 1) g false (arcL L i) (arcH L i) F X :=
  Or.inr ⟨h0, h1, i, by omega, hf, rfl, rfl, rfl, rfl, rfl⟩
theorem TellSt.skip {L : Spans} {F X : Nat} {Fit : Nat → Prop} {i : Nat} {m g : Int} {no : Bool} {l h f b : Nat} (hs : TellSt L F X Fit i m no l h f b) (h0 : 0 ≤ g) (hg : ¬ m < g) : TellSt L F X Fit (i + 1) m no l h f b := by
  rcases hs with ⟨rfl, _⟩ | ⟨h1, h2, j, hj, h3⟩
  · omega
  · exact Or.inr ⟨h1, h2, j, by omega, h3⟩
theorem TellSt.unfit {L : Spans} {F X : Nat} {Fit : Nat → Prop} {i : Nat} {m : Int} {no : Bool} {l h f b : Nat} (hs : TellSt L F X Fit i m no l h f b) (hf : ¬ Fit i) : TellSt L F X Fit (i + 1) m no l h f b := by
  rcases hs with ⟨h1, h2, h3, h4, h5, h6, h7⟩ | ⟨h1, h2, j, hj, h3⟩
  · refine Or.inl ⟨h1, h2, h3, h4, h5, h6, fun j hj => ?_⟩
    rcases Nat.lt_or_ge j i with h | h
    · exact h7 j h
    · have : j = i := by omega
      subst this; exact hf
  · exact Or.inr ⟨h1, h2, j, by omega, h3⟩
theorem TellSt.bound {L : Spans} {F X : Nat} {Fit : Nat → Prop} {i : Nat} {m : Int} {no : Bool} {l h f b : Nat} (hs : TellSt L F X Fit i m no l h f b) : -1 ≤ m ∧ m ≤ 1152921504606846976 := by
  rcases hs with ⟨rfl, _⟩ | ⟨h1, h2, _⟩ <;> omega
/-- what is told -/
def Told (L : Spans) (F X : Nat) (Fit : Nat → Prop) (no : Bool) (l h f b : Nat) : Prop :=
  (no = true ∧ l = 0 ∧ h = 0 ∧ f = 0 ∧ b = 0 ∧ ∀ j, j < L.length → ¬ Fit j) ∨ ∃ j, j < L.length ∧ Fit j ∧ no = false ∧ l = arcL L j ∧ h = arcH L j ∧ f = F ∧ b = X
theorem TellSt.told {L : Spans} {F X : Nat} {Fit : Nat → Prop} {m : Int} {no : Bool} {l h f b : Nat} (hs : TellSt L F X Fit L.length m no l h f b) : Told L F X Fit no l h f b := by
  rcases hs with ⟨_, h2, h3, h4, h5, h6, h7⟩ | ⟨_, _, j, hj, h3⟩
  · exact Or.inl ⟨h2, h3, h4, h5, h6, h7⟩
  · exact Or.inr ⟨j, hj, h3⟩
theorem none_ok {k : Nat} (hk : isWn k) : ValOk k true 0 0 0 0 := ⟨⟨hk, Nat.two_pow_pos k, Nat.two_pow_pos k, fun i h => by simp at h⟩, Nat.two_pow_pos k, Nat.two_pow_pos k⟩
/-- what is told is a set that may be -/
theorem Told.ok {k : Nat} {L : Spans} {F X : Nat} {c : Int} {Fit : Nat → Prop} {no : Bool} {l h f b : Nat} (g : GoodL k F X L c) (ht : Told L F X Fit no l h f b) : ValOk k no l h f b ∧ mayB k no l h f b = true := by
  rcases ht with ⟨rfl, rfl, rfl, rfl, rfl, _⟩ | ⟨j, hj, _, rfl, rfl, rfl, rfl, rfl⟩
  · have := none_ok g.pat.hk
    exact ⟨this, ok_may this fun _ => ⟨rfl, rfl, rfl, rfl⟩⟩
  · have := (arc_all g hj).1
    exact ⟨this, ok_may this fun h => by cases h⟩
/-- all that the layout has -/
theorem Told.all {k : Nat} {L : Spans} {F X : Nat} {c : Int} {Fit : Nat → Prop} {no : Bool} {l h f b : Nat} (g : GoodL k F X L c) (ht : Told L F X Fit no l h f b) (hex : 0 < L.length → ∃ j, j < L.length ∧ Fit j) : ∀ z, MemL k F X L z → MemV k no l h f b z := by
  intro z hz
  rcases ht with ⟨_, _, _, _, _, hno⟩ | ⟨j, hj, _, rfl, rfl, rfl, rfl, rfl⟩
  · obtain ⟨_, _, t, htm, _⟩ := hz
    obtain ⟨j, hj, hf⟩ := hex (List.length_pos_of_mem htm)
    exact absurd hf (hno j hj)
  · exact (arc_all g hj).2 z hz
/-- of one part just that -/
theorem Told.one {k : Nat} {L : Spans} {F X : Nat} {c : Int} {Fit : Nat → Prop} {no : Bool} {l h f b : Nat} (g : GoodL k F X L c) (ht : Told L F X Fit no l h f b) (hex : 0 < L.length → ∃ j, j < L.length ∧ Fit j) {m : Nat} (h1 : ∀ z, MemL k F X L z ↔ z = m) : ∀ z, MemV k no l h f b z ↔ z = m := by
  have hl := one_part g h1
  intro z
  rcases ht with ⟨_, _, _, _, _, hno⟩ | ⟨j, hj, _, rfl, rfl, rfl, rfl, rfl⟩
  · obtain ⟨j, hj, hf⟩ := hex (by omega)
    exact absurd hf (hno j hj)
  · have : j = 0 := by omega
    subst this
    exact (arc_one g hl z).trans (h1 z)
theorem Told.none {k : Nat} {L : Spans} {F X : Nat} {c : Int} {Fit : Nat → Prop} {no : Bool} {l h f b : Nat} (g : GoodL k F X L c) (ht : Told L F X Fit no l h f b) (h0 : ∀ z, ¬ MemL k F X L z) : ∀ z, ¬ MemV k no l h f b z := by
  have hl := no_part g h0
  subst hl
  intro z
  rcases ht with ⟨rfl, _⟩ | ⟨j, hj, _⟩
  · exact fun h => absurd h.1 (by simp)
  · exact absurd hj (by simp)
/-- one of the arcs lies in a set in which each part lies whole -/
theorem arc_in {k l h f b F X : Nat} {L : Spans} {c : Int} {no : Bool} (g : GoodL k F X L c) (hs : SubL f b (spansOf k no l h) F X L) (h0 : 0 < L.length) : ∃ j, j < L.length ∧ ∀ z, MemV k false (arcL L j) (arcH L j) F X z → MemV k no l h f b z := by
  have hne : L ≠ [] := List.length_pos_iff.1 h0
  cases no
  · have hin : ∀ t ∈ L, if l ≤ h then l ≤ t.1 ∧ t.2 ≤ h else t.2 ≤ h ∨ l ≤ t.1 := by
      intro t ht
      obtain ⟨s, hsm, h1, h2⟩ := hs.1 t ht
      unfold spansOf at hsm
      simp only [Bool.false_eq_true, if_false] at hsm
      split at hsm
      · rename_i hlh
        rw [List.mem_singleton] at hsm
        subst hsm
        simp only at h1 h2
        rw [if_pos hlh]; exact ⟨h1, h2⟩
      · rename_i hlh
        rw [if_neg hlh]
        rcases List.mem_cons.1 hsm with rfl | hsm
        · left; exact h2
        · rw [List.mem_singleton] at hsm
          subst hsm
          right; exact h1
    have fin : ∀ j (hj : j < L.length), (∀ z, arcIn (L[j]'hj).1 (L[(j + L.length - 1) % L.length]'(ahead_lt hj)).2 z → arcIn l h z) → ∀ z, MemV k false (arcL L j) (arcH L j) F X z → MemV k false l h f b z := by
      intro j hj ha z hz
      have e1 : arcL L j = (L[j]).1 := by unfold arcL; rw [getD_eq hj]
      have e2 : arcH L j = (L[(j + L.length - 1) % L.length]'(ahead_lt hj)).2 := by unfold arcH; rw [getD_eq (ahead_lt hj)]
      obtain ⟨_, hlt, hf, hr⟩ := hz
      rw [e1, e2] at hr
      exact ⟨rfl, hlt, hs.2 hne z hf, ha z hr⟩
    rcases arc_fits (l := l) (h := h) g.rise (fun t ht => (g.ends t ht).1) h0 hin with ha | ⟨i, hi, hi0, ha⟩
    · exact ⟨0, h0, fin 0 h0 (by simpa only [ahead_zero h0] using ha)⟩
    · exact ⟨i, hi, fin i hi (by simpa only [ahead_pos hi hi0] using ha)⟩
  · obtain ⟨s, hsm, _⟩ := hs.1 _ (List.getElem_mem h0)
    unfold spansOf at hsm
    simp at hsm
def TellPost (k : Nat) (L : Spans) (F X : Nat) (Fit : Nat → Prop) (w : World) (e : Ending) (w' : World) : Prop :=
  ∃ no l h f b, e = .returned (valV k no (l : Nat) (h : Nat) (f : Nat) (b : Nat)) ∧ Told L F X Fit no l h f b ∧ Below w.heap.size w w'
/-- the rounds: the best so far lies in a block of the call's own -/
def RelTell (k : Nat) (L : Spans) (F X B5 : Nat) (Fit : Nat → Prop) (w1 : World) (vm vi : Value) (wr : World) : Prop :=
  ∃ (i : Nat) (m : Int) (no : Bool) (l h f b : Nat), i ≤ L.length ∧ vi = .int .i64 i ∧ vm = .int .i64 m ∧ TellSt L F X Fit i m no l h f b ∧ At wr B5 #[.int .i64 k, .bool no, .int .i64 l, .int .i64 h, .int .i64 f, .int .i64 b] 30 ∧ Keeps B5 w1 wr
end Go.Proofs.YtblahbmhbfcggaaGreatDoor
