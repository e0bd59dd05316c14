/- Package prog: Uses. -/
import Derived.Test.YtofpfmdbmbfapaaGV
namespace Go.Proofs.Ytofpfmdbmbfapaa
open Go.ChangeShapes Go.WideShapes Go.ChangeAt Go.RowKit Go.Joins Go.Deep
set_option linter.unusedVariables false


def UsesQ (P : PX) (e0 : Int) (w : World) (e : Ending) (w' : World) : Prop :=
  ∃ (v : Value) (k : Int), e = .returned (.tuple #[v, .int .i64 k]) ∧ Below w.heap.size w w' ∧ (progB P = false → v = .slice none 0 0 ∧ k = 1) ∧ (progB P = true → plB e0 P.exs.length = false → v = .slice none 0 0 ∧ k = 3) ∧ (progB P = true → plB e0 P.exs.length = true → k = 0 ∧ IsIs w' v (usesL (P.exs.take (e0.toNat + 1))))
theorem form_exs {P : PX} (h : progB P = true) : P.exs.length ≤ 120 ∧ formB P = true := by
  have hF : formB P = true := by
    unfold progB at h
    simp only [Bool.and_eq_true] at h
    exact h.1
  have h2 := hF
  rw [form_eq] at h2
  simp only [Bool.and_eq_true, decide_eq_true_eq] at h2
  exact ⟨h2.1.2.1, hF⟩
theorem IsRow.pre {α : Type} {Q : World → Nat → Nat → α → Prop} {k : Nat} {w : World} {q : Option Addr} {xs : List α} {cap n : Nat} (h : IsRow Q k w (.slice q xs.length cap) xs) (hn : n ≤ xs.length) : IsRow Q k w (.slice q n cap) (xs.take n) := by
  obtain ⟨q', cap', hv, hl, hcap, hc⟩ := h
  injection hv with a b c
  subst a c
  have hlen : (xs.take n).length = n := by rw [List.length_take]; omega
  refine ⟨q, cap, by rw [hlen], by rw [hlen]; omega, by rw [hlen]; omega, fun hp => ?_⟩
  rw [hlen] at hp
  obtain ⟨b, off, hq, hb, hcell⟩ := hc (by omega)
  refine ⟨b, off, hq, hb, fun i x hx => hcell i x ?_⟩
  rw [List.getElem?_take] at hx
  split at hx
  · exact hx
  · cases hx
set_option maxHeartbeats 1600000 in
theorem Uses_prog (P : PX) (e0 : Int) (v1 v2 v3 v4 v5 : Value) (w : World) (h : IsPr w v1 v2 v3 v4 v5 P) : Calls Try.prog 8 #[.agg #[.bool P.big, .int .i64 P.ptr, v1, v2, v3, v4, v5], .int .i64 e0] w (UsesQ P e0 w) := by
  have hb0 := below_box1 w (.cells #[.bool P.big, .int .i64 P.ptr, v1, v2, v3, v4, v5] 33)
  have hA := pgBox P v1 v2 v3 v4 v5 w
  obtain ⟨w1, hw1⟩ : ∃ w1, w.alloc (.cells #[.bool P.big, .int .i64 P.ptr, v1, v2, v3, v4, v5] 33) = w1 := ⟨_, rfl⟩
  rw [hw1] at hb0 hA
  have h1 := h.below hb0
  have cT := take_any P v1 v2 v3 v4 v5 w1 h1
  unfold TakeP at cT
  have cM := fun w0 pb w h => mayBe_any w0 pb P v1 v2 v3 v4 v5 w h
  unfold MayP at cM
  obtain ⟨q1, k1, rfl, _⟩ := id h.1
  obtain ⟨q2, k2, rfl, _⟩ := id h.2.1
  obtain ⟨q3, k3, rfl, _⟩ := id h.2.2.1
  obtain ⟨q4, k4, rfl, _⟩ := id h.2.2.2.1
  obtain ⟨q5, k5, rfl, _⟩ := id h.2.2.2.2
  have a0 : w1.cell? ⟨w.heap.size, 0, none⟩ = some (.bool P.big) := hA.cell 0 rfl
  have a1 : w1.cell? ⟨w.heap.size, 1, none⟩ = some (.int .i64 P.ptr) := hA.cell 1 rfl
  have a2 : w1.cell? ⟨w.heap.size, 2, none⟩ = some (.slice q1 P.vars.length k1) := hA.cell 2 rfl
  have a3 : w1.cell? ⟨w.heap.size, 3, none⟩ = some (.slice q2 P.news.length k2) := hA.cell 3 rfl
  have a4 : w1.cell? ⟨w.heap.size, 4, none⟩ = some (.slice q3 P.exs.length k3) := hA.cell 4 rfl
  have a5 : w1.cell? ⟨w.heap.size, 5, none⟩ = some (.slice q4 P.sts.length k4) := hA.cell 5 rfl
  have a6 : w1.cell? ⟨w.heap.size, 6, none⟩ = some (.slice q5 P.main.length k5) := hA.cell 6 rfl
  have HB0 := Lib.hid hb0
  obtain ⟨b, hb⟩ : ∃ b, b = progB P := ⟨_, rfl⟩
  have HBP := Lib.hid hb
  rw [← hb] at cM
  cases b
  · clear h h1 hb0 hA hb
    go_enter Try.func8, Try.ntmps8
    go_wp2_with (first | (go_at_call 25; refine cT.mono ?_; rintro e w2 ⟨w0, pb, rfl, n2, z2, y2⟩) | (go_at_call 26; refine (cM w0 pb _ n2).mono ?_; rintro e w3 ⟨rfl, d3, b3⟩; have hb13 := y2.trans (b3.mono (by rw [n2.hpb.symm]; exact z2.size)); have z4 := cell_below a4 hb13))
    go_ret2
    exact ⟨_, _, rfl, HB0.out.trans (hb13.mono HB0.out.size), fun _ => ⟨rfl, rfl⟩, (fun h => by rw [← HBP.out] at h; (cases h)), (fun h => by rw [← HBP.out] at h; (cases h))⟩
  · have hfx := form_exs (HBP.out.symm)
    have hah := form_ahead hfx.2
    have cP := fun w => gPlace_any e0 P.exs.length w
    cases hpl : plB e0 P.exs.length
    · rw [hpl] at cP
      have HPL := Lib.hid hpl
      clear h h1 hb0 hA hb hpl hfx hah
      go_enter Try.func8, Try.ntmps8
      go_wp2_with (first | (go_at_call 25; refine cT.mono ?_; rintro e w2 ⟨w0, pb, rfl, n2, z2, y2⟩) | (go_at_call 26; refine (cM w0 pb _ n2).mono ?_; rintro e w3 ⟨rfl, d3, b3⟩; have hb13 := y2.trans (b3.mono (by rw [n2.hpb.symm]; exact z2.size)); have z4 := cell_below a4 hb13) | (go_at_call 27; refine (cP _).mono ?_; rintro e w4 ⟨rfl, rfl⟩))
      go_ret2
      exact ⟨_, _, rfl, HB0.out.trans (hb13.mono HB0.out.size), (fun h => by rw [← HBP.out] at h; (cases h)), fun _ _ => ⟨rfl, rfl⟩, fun _ h => by rw [HPL.out] at h; (cases h)⟩
    · rw [hpl] at cP
      have hp2 := hpl
      simp [plB] at hp2
      obtain ⟨k, rfl⟩ : ∃ k : Nat, e0 = (k : Int) := ⟨e0.toNat, by omega⟩
      have HPL := Lib.hid hpl
      have hk : k < P.exs.length := by omega
      have hkc : k3 ≥ P.exs.length := by
        obtain ⟨_, cap', hv, _, hcap, _⟩ := h1.2.2.1
        injection hv with a b c
        omega
      have hX3 := IsRow.pre h1.2.2.1 (show k + 1 ≤ P.exs.length by omega)
      have HX3 : Hid (IsEs w1 (.slice q3 (k + 1) k3) (P.exs.take (k + 1))) := Lib.hid hX3
      have cU := fun w h => uses_any q3 (k + 1) k3 (P.exs.take (k + 1)) (by rw [List.length_take]; omega) (by omega) (by omega) (hah.take _) w h
      unfold UsesP at cU
      have ek : IntKind.i64.wrap ((k : Int) + 1) = ((k + 1 : Nat) : Int) := by rw [IntKind.wrap_i64]; omega
      have ek2 : ((k + 1 : Nat) : Int) ≤ (k3 : Int) := by omega
      have ek3 : (0 : Int) ≤ ((k + 1 : Nat) : Int) := by omega
      have HK : Hid (usesL (P.exs.take ((k : Int).toNat + 1)) = usesL (P.exs.take (k + 1))) := Lib.hid rfl
      clear h h1 hb0 hA hb hpl hfx hah hX3 hp2
      go_enter Try.func8, Try.ntmps8
      go_wp2_with (first | (go_at_call 25; refine cT.mono ?_; rintro e w2 ⟨w0, pb, rfl, n2, z2, y2⟩) | (go_at_call 26; refine (cM w0 pb _ n2).mono ?_; rintro e w3 ⟨rfl, d3, b3⟩; have hb13 := y2.trans (b3.mono (by rw [n2.hpb.symm]; exact z2.size)); have z4 := cell_below a4 hb13) | (go_at_call 27; refine (cP _).mono ?_; rintro e w4 ⟨rfl, rfl⟩) | (go_at_call 28; refine (cU _ (HX3.out.below hb13)).mono ?_; rintro e w5 ⟨v, rfl, i5, b5⟩))
      go_ret2
      exact ⟨_, _, rfl, HB0.out.trans ((hb13.trans (b5.mono hb13.size)).mono HB0.out.size), (fun h => by rw [← HBP.out] at h; (cases h)), (fun _ h => by rw [HPL.out] at h; (cases h)), fun _ _ => ⟨rfl, by rw [HK.out]; exact i5⟩⟩
end Go.Proofs.Ytofpfmdbmbfapaa
