/- ValSmall holds for every input: of all sets of few numbers side by side what they are together, and what both have, holds each of all numbers that it must, by sets made here. No condition. -/
import Derived.Test.YtgedkebinidmkaaVSmall
import Derived.SizedLaws
namespace Go.Proofs.Ytgedkebinidmkaa.valSmall
open Go.ChangeShapes Go.WideShapes Go.ChangeAt Go.RowKit Go.Joins Go.Deep
set_option linter.unusedVariables false

theorem own : ownKnob Try.prog.godebug = none := by kernel_rfl
theorem laidOut : laidOutB Try.prog = true := by kernel_rfl
theorem bytesVal : Try.prog.bytesOf 28 = 48 := by kernel_rfl
theorem bytesInt3 : Try.prog.bytesOf 3 = 8 := by kernel_rfl
theorem cellsAsk : Try.prog.cellsOf 25 = 2 := by kernel_rfl

set_option maxRecDepth 100000 in
theorem lifted (os : Os) (started : os.Started) (H : Type) (enc : TypeId × Value → H) :
    ReturnsInHanded {} Try.checked os 4 .any (Rows.valSmallSpec.pre6 enc Try.prog Try.f4 Rows.valSmallRow.domain false) (Rows.valSmallSpec.post enc Try.prog Try.f4 false true false false) := by
  refine returnsInHanded_of_change_sized (C := Try.checked) own started (by kernel_rfl) Try.func4
    (ChangeSpec.witness6 (enc := enc) (C := Try.checked) false ⟨#[], #[.agg #[.slice none 0 0, .slice none 0 0]], []⟩ 8 (by kernel_rfl) (by kernel_rfl) (by kernel_rfl) (by kernel_rfl)) ?_
  intro W base args ds gs before hval0 hW hcnd hsz0 _
  have hsz : (DataW.weightsEach Try.prog (Try.f4.params.toList ++ Rows.valSmallSpec.plain.varTypes Try.prog) (ds ++ gs)).all (· ≤ reachBytes) = true := hsz0
  have hval : ∀ (j : Nat) t v, Try.f4.params[j]? = some t → args[j]? = some v → Value.okWide Try.prog W .any base t v := hval0
  have hW' := hW
  obtain ⟨p, q, hA0, hV, rfl, hfz, hnd⟩ := hW
  have hA : DataW.TrodAll enc Try.prog W 0 (fun _ => true) true Try.f4.params.toList args.toList ds p := hA0
  rw [Try.params4] at hA hval hsz
  obtain ⟨v0, vs0, d0, ds0, p0, q0, hargs, rfl, rfl, h0, r0⟩ := trodAll_cons hA
  obtain ⟨rfl, rfl, rfl⟩ := trodAll_nil r0
  obtain rfl : args = #[v0] := by cases args; simp_all
  obtain ⟨rfl, rfl⟩ := trodVars_none hV
  have k0 := h0
  have lt0 : ∀ x ∈ p0, x.block < W.heap.size := by obtain ⟨m, hm⟩ := k0; exact DataW.trod_lt m _ _ _ hm
  obtain ⟨c0, c1, y0, y1, m, rfl, hd, hp, hy0, hy1⟩ := open_agg2 Try.underlying25 (by kernel_rfl) cellsAsk (hval 0 25 v0 rfl rfl) h0
  obtain ⟨pv, lv, cv, vs, rfl, hv, rv⟩ := vals_of (ei := 3) (eb := 4) Try.underlying22 Try.underlying28 (by kernel_rfl) ⟨rfl, rfl⟩ ⟨rfl, rfl⟩ ⟨rfl, rfl⟩ ⟨rfl, rfl⟩ ⟨rfl, rfl⟩ ⟨rfl, rfl⟩ ⟨by kernel_rfl, Try.underlying4⟩ ⟨by kernel_rfl, Try.underlying3⟩ hy0
  obtain ⟨pn, ln, cn, zs, rfl, hn, hcn, rn⟩ := ints_of Try.underlying23 Try.underlying3 (by kernel_rfl) hy1
  clear hA0 hval0
  have hsz2 : (DataW.weightsEach Try.prog [25] [.agg [y0.1, y1.1]]).all (· ≤ reachBytes) = true := by rw [← hd]; exact hsz
  have hr := reach_parts hsz2 Try.underlying25
  have r1 : lv ≤ 17592186044416 := by
    rcases rv with rfl | ⟨el, sp, he, hl⟩
    · omega
    · have := sized_slice hr (j := 0) (t := 22) (e := 28) (elems := el) (spare := sp) rfl (by rw [he]; rfl) Try.underlying22
      rw [bytesVal] at this
      simp only [reachBytes] at this
      omega
  have r2 : ln ≤ 17592186044416 := by
    rcases rn with rfl | ⟨el, sp, he, hl⟩
    · omega
    · have := sized_slice hr (j := 1) (t := 23) (e := 3) (elems := el) (spare := sp) rfl (by rw [he]; rfl) Try.underlying23
      rw [bytesInt3] at this
      simp only [reachBytes] at this
      omega
  refine (small_loop pv lv cv pn ln cn W (by omega)).mono fun e W' ⟨he, bel⟩ => ?_
  subst he
  exact ⟨_, rfl, _, _, _, [], _, [], hW', trodAll_mk1 (shut_bool Try.underlying4 _), (trodAll_cons_mk (Below.trod laidOut (by kernel_rfl) (of_decide_eq_true (by kernel_rfl)) k0 bel lt0) trodAll_mk0), rfl, bel.frame _, fun h => by cases h⟩

theorem over : Rows.valSmallRow.holds Try.pinned (OpenSpec.ofChange Rows.valSmallSpec) :=
  OpenClaim.holds_of_wide 4 Try.f4 rfl rfl rfl rfl rfl rfl rfl ⟨rfl, rfl, rfl, rfl, rfl⟩ rfl rfl rfl rfl rfl (by kernel_rfl) Try.func4 (by kernel_rfl)
    (of_decide_eq_true (by kernel_rfl)) (by unfold Func.isWrapper; first | (rw [if_pos (by decide +kernel)]; kernel_rfl) | (rw [if_neg (by decide +kernel)]; exact ⟨rfl, rfl⟩))
    (fun os started H enc _ => lifted os started H enc)

theorem proved : Rows.ValSmallSaid := over
end Go.Proofs.Ytgedkebinidmkaa.valSmall
