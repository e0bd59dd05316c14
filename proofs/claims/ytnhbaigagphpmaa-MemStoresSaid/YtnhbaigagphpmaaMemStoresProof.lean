/- MemStores holds for every input: what any memory is when any scalar of any kind is stored through any pointer, and what goes wrong, is the page's, or refused. No condition. -/
import Derived.Test.YtnhbaigagphpmaaKStores
import Derived.Test.YtnhbaigagphpmaaKIn
namespace Go.Proofs.Ytnhbaigagphpmaa.memStores
open Go.ChangeShapes Go.WideShapes Go.ChangeAt Go.RowKit Go.Joins Go.Deep
set_option linter.unusedVariables false

theorem own : ownKnob Try.prog.godebug = none := by kernel_rfl
theorem laidOut : laidOutB Try.prog = true := by kernel_rfl
theorem cellsAsk : Try.prog.cellsOf 51 = 4 := by kernel_rfl
theorem bytesInt : Try.prog.bytesOf 3 = 8 := by kernel_rfl
theorem bytesAbi : Try.prog.bytesOf 38 = 16 := by kernel_rfl
theorem bytesSc : Try.prog.bytesOf 33 = 32 := by kernel_rfl

set_option maxRecDepth 100000 in
theorem lifted (os : Os) (started : os.Started) (H : Type) (enc : TypeId × Value → H) :
    ReturnsInHanded {} Try.checked os 4 .any (Rows.memStoresSpec.pre6 enc Try.prog Try.f4 Rows.memStoresRow.domain false) (Rows.memStoresSpec.post enc Try.prog Try.f4 false true false false) := by
  refine returnsInHanded_of_change_sized (C := Try.checked) own started (by kernel_rfl) Try.func4
    (ChangeSpec.witness6 (enc := enc) (C := Try.checked) false ⟨#[], #[.agg #[.slice none 0 0, .slice none 0 0, .slice none 0 0, .slice none 0 0]], []⟩ 8 (by kernel_rfl) (by kernel_rfl) (by kernel_rfl) (by kernel_rfl)) ?_
  intro W base args ds gs before hval0 hW hcnd hsz0 _
  have hsz : (DataW.weightsEach Try.prog (Try.f4.params.toList ++ Rows.memStoresSpec.plain.varTypes Try.prog) (ds ++ gs)).all (· ≤ reachBytes) = true := hsz0
  have hval : ∀ (j : Nat) t v, Try.f4.params[j]? = some t → args[j]? = some v → Value.okWide Try.prog W .any base t v := hval0
  have hW' := hW
  obtain ⟨p, q, hA0, hV, rfl, hfz, hnd⟩ := hW
  have hA : DataW.TrodAll enc Try.prog W 0 (fun _ => true) true Try.f4.params.toList args.toList ds p := hA0
  rw [Try.params4] at hA hval hsz
  obtain ⟨v0, vs0, d0, ds0, p0, q0, hargs, rfl, rfl, h0, r0⟩ := trodAll_cons hA
  obtain ⟨rfl, rfl, rfl⟩ := trodAll_nil r0
  obtain rfl : args = #[v0] := by cases args; simp_all
  obtain ⟨rfl, rfl⟩ := trodVars_none hV
  have k0 := h0
  have lt0 : ∀ x ∈ p0, x.block < W.heap.size := by obtain ⟨m, hm⟩ := k0; exact DataW.trod_lt m _ _ _ hm
  obtain ⟨c0, c1, c2, c3, y0, y1, y2, y3, m, rfl, hd, hp, hy0, hy1, hy2, hy3⟩ := open_agg4 Try.underlying51 (by kernel_rfl) cellsAsk (hval 0 51 v0 rfl rfl) h0
  obtain ⟨pm, lm, cm, ms, rfl, hm, rm⟩ := mems_of (ei := 3) (ty := 24) (ey := 67) Try.underlying48 (by kernel_rfl) Try.underlying53 Try.underlying97 (by kernel_rfl) ⟨rfl, rfl⟩ ⟨rfl, rfl⟩ ⟨by kernel_rfl, Try.underlying24⟩ Try.underlying67 (by kernel_rfl) ⟨rfl, rfl⟩ ⟨rfl, rfl⟩ ⟨rfl, rfl⟩ ⟨rfl, rfl⟩ ⟨rfl, rfl⟩ ⟨by kernel_rfl, Try.underlying3⟩ (of_decide_eq_true (by kernel_rfl)) (of_decide_eq_true (by kernel_rfl)) (of_decide_eq_true (by kernel_rfl)) hy0
  obtain ⟨ps, ls, cs, ss, rfl, hs, rs⟩ := scs_of (eb := 4) (ei := 3) Try.underlying23 Try.underlying33 (by kernel_rfl) ⟨rfl, rfl⟩ ⟨rfl, rfl⟩ ⟨rfl, rfl⟩ ⟨rfl, rfl⟩ ⟨by kernel_rfl, Try.underlying4⟩ ⟨by kernel_rfl, Try.underlying3⟩ hy1
  obtain ⟨pn, ln, cn, rfl, rn⟩ := shp_of Try.underlying49 hy2
  obtain ⟨pa, la, ca, xa, rfl, ha, ra⟩ := abis_of (eb := 4) (ei := 3) Try.underlying22 Try.underlying38 (by kernel_rfl) ⟨rfl, rfl, by kernel_rfl, Try.underlying4⟩ ⟨rfl, rfl, by kernel_rfl, Try.underlying3⟩ hy3
  have hsz2 : (DataW.weightsEach Try.prog [51] [.agg [y0.1, y1.1, y2.1, y3.1]]).all (· ≤ reachBytes) = true := by rw [← hd]; exact hsz
  have hr := reach_parts hsz2 Try.underlying51
  have r2 : ln ≤ 17592186044416 := by
    rcases rn with rfl | ⟨el, sp, he, hl⟩
    · omega
    · have := sized_slice hr (j := 2) (t := 49) (e := 3) (elems := el) (spare := sp) rfl (by rw [he]; rfl) Try.underlying49
      rw [bytesInt] at this
      simp only [reachBytes] at this
      omega
  have r1 : ls ≤ 17592186044416 := by
    rcases rs with rfl | ⟨el, sp, he, hl⟩
    · omega
    · have := sized_slice hr (j := 1) (t := 23) (e := 33) (elems := el) (spare := sp) rfl (by rw [he]; rfl) Try.underlying23
      rw [bytesSc] at this
      simp only [reachBytes] at this
      omega
  have r3 : la ≤ 17592186044416 := by
    rcases ra with rfl | ⟨el, sp, he, hl⟩
    · omega
    · have := sized_slice hr (j := 3) (t := 22) (e := 38) (elems := el) (spare := sp) rfl (by rw [he]; rfl) Try.underlying22
      rw [bytesAbi] at this
      simp only [reachBytes] at this
      omega
  clear hA0 hval0
  have hM := rm 140737488355328 (fun n hn => by
    have := List.all_eq_true.1 hr n (DataW.weights_mem_each (j := 0) (t := 48) (d := y0.1) rfl rfl n hn)
    have h2 : n ≤ reachBytes := by simpa using this
    simp only [reachBytes] at h2
    omega)
  refine (stores_any pm ps pn pa lm cm ls cs ln cn la ca ms ss xa (by omega) (by omega) (by omega) hM.1 W hm hM.2 hs ha).mono fun e W' ⟨he, bel⟩ => ?_
  subst he
  exact ⟨_, rfl, _, _, _, [], _, [], hW', trodAll_mk1 (shut_bool Try.underlying4 _), (trodAll_cons_mk (Below.trod laidOut (by kernel_rfl) (of_decide_eq_true (by kernel_rfl)) k0 bel lt0) trodAll_mk0), rfl, bel.frame _, fun h => by cases h⟩

theorem over : Rows.memStoresRow.holds Try.pinned (OpenSpec.ofChange Rows.memStoresSpec) :=
  OpenClaim.holds_of_wide 4 Try.f4 rfl rfl rfl rfl rfl rfl rfl ⟨rfl, rfl, rfl, rfl, rfl⟩ rfl rfl rfl rfl rfl (by kernel_rfl) Try.func4 (by kernel_rfl)
    (of_decide_eq_true (by kernel_rfl)) (by unfold Func.isWrapper; first | (rw [if_pos (by decide +kernel)]; kernel_rfl) | (rw [if_neg (by decide +kernel)]; exact ⟨rfl, rfl⟩))
    (fun os started H enc _ => lifted os started H enc)

theorem proved : Rows.MemStoresSaid := over
end Go.Proofs.Ytnhbaigagphpmaa.memStores
