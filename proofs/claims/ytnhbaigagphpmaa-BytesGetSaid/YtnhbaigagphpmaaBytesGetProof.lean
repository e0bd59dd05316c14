/- BytesGet holds for every input: which scalar of any kind any bytes are, on any machine, and what goes wrong, is the page's, or refused. No condition. -/
import Derived.Test.YtnhbaigagphpmaaBH1
import Derived.Test.YtnhbaigagphpmaaBOpen
namespace Go.Proofs.Ytnhbaigagphpmaa.bytesGet
open Go.ChangeShapes Go.WideShapes Go.ChangeAt Go.RowKit Go.Joins Go.Deep
set_option linter.unusedVariables false

theorem own : ownKnob Try.prog.godebug = none := by kernel_rfl
theorem laidOut : laidOutB Try.prog = true := by kernel_rfl
theorem cellsAsk : Try.prog.cellsOf 26 = 3 := by kernel_rfl
theorem bytesAbi : Try.prog.bytesOf 38 = 16 := by kernel_rfl
theorem bytesSc : Try.prog.bytesOf 33 = 32 := by kernel_rfl
theorem bytesBy : Try.prog.bytesOf 67 = 40 := by kernel_rfl

set_option maxRecDepth 100000 in
theorem lifted (os : Os) (started : os.Started) (H : Type) (enc : TypeId × Value → H) :
    ReturnsInHanded {} Try.checked os 3 .any (Rows.bytesGetSpec.pre6 enc Try.prog Try.f3 Rows.bytesGetRow.domain false) (Rows.bytesGetSpec.post enc Try.prog Try.f3 false true false false) := by
  refine returnsInHanded_of_change_sized (C := Try.checked) own started (by kernel_rfl) Try.func3
    (ChangeSpec.witness6 (enc := enc) (C := Try.checked) false ⟨#[], #[.agg #[.slice none 0 0, .slice none 0 0, .slice none 0 0]], []⟩ 8 (by kernel_rfl) (by kernel_rfl) (by kernel_rfl) (by kernel_rfl)) ?_
  intro W base args ds gs before hval0 hW hcnd hsz0 _
  have hsz : (DataW.weightsEach Try.prog (Try.f3.params.toList ++ Rows.bytesGetSpec.plain.varTypes Try.prog) (ds ++ gs)).all (· ≤ reachBytes) = true := hsz0
  have hval : ∀ (j : Nat) t v, Try.f3.params[j]? = some t → args[j]? = some v → Value.okWide Try.prog W .any base t v := hval0
  have hW' := hW
  obtain ⟨p, q, hA0, hV, rfl, hfz, hnd⟩ := hW
  have hA : DataW.TrodAll enc Try.prog W 0 (fun _ => true) true Try.f3.params.toList args.toList ds p := hA0
  rw [Try.params3] at hA hval hsz
  obtain ⟨v0, vs0, d0, ds0, p0, q0, hargs, rfl, rfl, h0, r0⟩ := trodAll_cons hA
  obtain ⟨rfl, rfl, rfl⟩ := trodAll_nil r0
  obtain rfl : args = #[v0] := by cases args; simp_all
  obtain ⟨rfl, rfl⟩ := trodVars_none hV
  have k0 := h0
  have lt0 : ∀ x ∈ p0, x.block < W.heap.size := by obtain ⟨m, hm⟩ := k0; exact DataW.trod_lt m _ _ _ hm
  obtain ⟨c0, c1, c2, y0, y1, y2, m, rfl, hd, hp, hy0, hy1, hy2⟩ := open_agg3 Try.underlying26 (by kernel_rfl) cellsAsk (hval 0 26 v0 rfl rfl) h0
  obtain ⟨pa, la, ca, xa, rfl, ha, ra⟩ := abis_of (eb := 4) (ei := 3) Try.underlying22 Try.underlying38 (by kernel_rfl) ⟨rfl, rfl, by kernel_rfl, Try.underlying4⟩ ⟨rfl, rfl, by kernel_rfl, Try.underlying3⟩ hy0
  obtain ⟨ps, ls, cs, ss, rfl, hs, rs⟩ := scs_of (eb := 4) (ei := 3) Try.underlying23 Try.underlying33 (by kernel_rfl) ⟨rfl, rfl⟩ ⟨rfl, rfl⟩ ⟨rfl, rfl⟩ ⟨rfl, rfl⟩ ⟨by kernel_rfl, Try.underlying4⟩ ⟨by kernel_rfl, Try.underlying3⟩ hy1
  obtain ⟨pb, lb, cb, bs, rfl, hb, rb⟩ := bys_of (ei := 3) Try.underlying24 Try.underlying67 (by kernel_rfl) ⟨rfl, rfl⟩ ⟨rfl, rfl⟩ ⟨rfl, rfl⟩ ⟨rfl, rfl⟩ ⟨rfl, rfl⟩ ⟨by kernel_rfl, Try.underlying3⟩ hy2
  have hsz2 : (DataW.weightsEach Try.prog [26] [.agg [y0.1, y1.1, y2.1]]).all (· ≤ reachBytes) = true := by rw [← hd]; exact hsz
  have hr := reach_parts hsz2 Try.underlying26
  have r1 : la ≤ 17592186044416 := by
    rcases ra with rfl | ⟨el, sp, he, hl⟩
    · omega
    · have := sized_slice hr (j := 0) (t := 22) (e := 38) (elems := el) (spare := sp) rfl (by rw [he]; rfl) Try.underlying22
      rw [bytesAbi] at this
      simp only [reachBytes] at this
      omega
  have r2 : ls ≤ 17592186044416 := by
    rcases rs with rfl | ⟨el, sp, he, hl⟩
    · omega
    · have := sized_slice hr (j := 1) (t := 23) (e := 33) (elems := el) (spare := sp) rfl (by rw [he]; rfl) Try.underlying23
      rw [bytesSc] at this
      simp only [reachBytes] at this
      omega
  have r3 : lb ≤ 17592186044416 := by
    rcases rb with rfl | ⟨el, sp, he, hl⟩
    · omega
    · have := sized_slice hr (j := 2) (t := 24) (e := 67) (elems := el) (spare := sp) rfl (by rw [he]; rfl) Try.underlying24
      rw [bytesBy] at this
      simp only [reachBytes] at this
      omega
  clear hA0 hval0
  refine (getlaw_any pa ps pb la ca ls cs lb cb xa ss bs (by omega) (by omega) (by omega) W ha hs hb).mono fun e W' ⟨he, bel⟩ => ?_
  subst he
  exact ⟨_, rfl, _, _, _, [], _, [], hW', trodAll_mk1 (shut_bool Try.underlying4 _), (trodAll_cons_mk (Below.trod laidOut (by kernel_rfl) (of_decide_eq_true (by kernel_rfl)) k0 bel lt0) trodAll_mk0), rfl, bel.frame _, fun h => by cases h⟩

theorem over : Rows.bytesGetRow.holds Try.pinned (OpenSpec.ofChange Rows.bytesGetSpec) :=
  OpenClaim.holds_of_wide 3 Try.f3 rfl rfl rfl rfl rfl rfl rfl ⟨rfl, rfl, rfl, rfl, rfl⟩ rfl rfl rfl rfl rfl (by kernel_rfl) Try.func3 (by kernel_rfl)
    (of_decide_eq_true (by kernel_rfl)) (by unfold Func.isWrapper; first | (rw [if_pos (by decide +kernel)]; kernel_rfl) | (rw [if_neg (by decide +kernel)]; exact ⟨rfl, rfl⟩))
    (fun os started H enc _ => lifted os started H enc)

theorem proved : Rows.BytesGetSaid := over
end Go.Proofs.Ytnhbaigagphpmaa.bytesGet
