/- MemMoves holds for every input: any pointer is moved by any number as the page says, or refused; any two pointers are so far apart, and one or not, as the page says. No condition. -/
import Derived.Test.YtcppmibeiilgbaaGreatKMoves
import Derived.Test.YtcppmibeiilgbaaGreatKOpen
import Derived.Test.YtcppmibeiilgbaaGreatKIn
namespace Go.Proofs.YtcppmibeiilgbaaGreat.memMoves
open Go.ChangeShapes Go.WideShapes Go.ChangeAt Go.RowKit Go.Joins Go.Deep
set_option linter.unusedVariables false

theorem own : ownKnob Tryz.prog.godebug = none := by kernel_rfl
theorem laidOut : laidOutB Tryz.prog = true := by kernel_rfl
theorem cellsAsk : Tryz.prog.cellsOf 27 = 4 := by kernel_rfl
theorem bytesInt : Tryz.prog.bytesOf 3 = 8 := by kernel_rfl
theorem bytesAbi : Tryz.prog.bytesOf 70 = 16 := by kernel_rfl
theorem bytesSc : Tryz.prog.bytesOf 35 = 32 := by kernel_rfl

set_option maxRecDepth 100000 in
theorem lifted (os : Os) (started : os.Started) (H : Type) (enc : TypeId × Value → H) :
    ReturnsInHanded {} Tryz.checked os 3 .any (Rows.memMovesSpec.pre6 enc Tryz.prog Tryz.f3 Rows.memMovesRow.domain false) (Rows.memMovesSpec.post enc Tryz.prog Tryz.f3 false true false false) := by
  refine returnsInHanded_of_change_sized (C := Tryz.checked) own started (by kernel_rfl) Tryz.func3
    (ChangeSpec.witness6 (enc := enc) (C := Tryz.checked) false ⟨#[], #[.agg #[.slice none 0 0, .slice none 0 0, .slice none 0 0, .slice none 0 0]], []⟩ 8 (by kernel_rfl) (by kernel_rfl) (by kernel_rfl) (by kernel_rfl)) ?_
  intro W base args ds gs before hval0 hW hcnd hsz0 _
  have hsz : (DataW.weightsEach Tryz.prog (Tryz.f3.params.toList ++ Rows.memMovesSpec.plain.varTypes Tryz.prog) (ds ++ gs)).all (· ≤ reachBytes) = true := hsz0
  have hval : ∀ (j : Nat) t v, Tryz.f3.params[j]? = some t → args[j]? = some v → Value.okWide Tryz.prog W .any base t v := hval0
  have hW' := hW
  obtain ⟨p, q, hA0, hV, rfl, hfz, hnd⟩ := hW
  have hA : DataW.TrodAll enc Tryz.prog W 0 (fun _ => true) true Tryz.f3.params.toList args.toList ds p := hA0
  rw [Tryz.params3] at hA hval hsz
  obtain ⟨v0, vs0, d0, ds0, p0, q0, hargs, rfl, rfl, h0, r0⟩ := trodAll_cons hA
  obtain ⟨rfl, rfl, rfl⟩ := trodAll_nil r0
  obtain rfl : args = #[v0] := by cases args; simp_all
  obtain ⟨rfl, rfl⟩ := trodVars_none hV
  have k0 := h0
  have lt0 : ∀ x ∈ p0, x.block < W.heap.size := by obtain ⟨m, hm⟩ := k0; exact DataW.trod_lt m _ _ _ hm
  obtain ⟨c0, c1, c2, c3, y0, y1, y2, y3, m, rfl, hd, hp, hy0, hy1, hy2, hy3⟩ := open_agg4 Tryz.underlying27 (by kernel_rfl) cellsAsk (hval 0 27 v0 rfl rfl) h0
  obtain ⟨pm, lm, cm, ms, rfl, hm, rm⟩ := mems_of (ei := 3) (ty := 54) (ey := 76) Tryz.underlying22 (by kernel_rfl) Tryz.underlying29 Tryz.underlying56 (by kernel_rfl) ⟨rfl, rfl⟩ ⟨rfl, rfl⟩ ⟨by kernel_rfl, Tryz.underlying54⟩ Tryz.underlying76 (by kernel_rfl) ⟨rfl, rfl⟩ ⟨rfl, rfl⟩ ⟨rfl, rfl⟩ ⟨rfl, rfl⟩ ⟨rfl, rfl⟩ ⟨by kernel_rfl, Tryz.underlying3⟩ (of_decide_eq_true (by kernel_rfl)) (of_decide_eq_true (by kernel_rfl)) (of_decide_eq_true (by kernel_rfl)) hy0
  obtain ⟨ps, ls, cs, ss, rfl, hs, rs⟩ := scs_of (eb := 4) (ei := 3) Tryz.underlying23 Tryz.underlying35 (by kernel_rfl) ⟨rfl, rfl⟩ ⟨rfl, rfl⟩ ⟨rfl, rfl⟩ ⟨rfl, rfl⟩ ⟨by kernel_rfl, Tryz.underlying4⟩ ⟨by kernel_rfl, Tryz.underlying3⟩ hy1
  obtain ⟨pn, ln, cn, zs, rfl, hn, hcn, rn⟩ := ints_of Tryz.underlying24 Tryz.underlying3 (by kernel_rfl) hy2
  obtain ⟨pa, la, ca, rfl, ra⟩ := shp_of Tryz.underlying25 hy3
  have hsz2 : (DataW.weightsEach Tryz.prog [27] [.agg [y0.1, y1.1, y2.1, y3.1]]).all (· ≤ reachBytes) = true := by rw [← hd]; exact hsz
  have hr := reach_parts hsz2 Tryz.underlying27
  have r2 : ln ≤ 17592186044416 := by
    rcases rn with rfl | ⟨el, sp, he, hl⟩
    · omega
    · have := sized_slice hr (j := 2) (t := 24) (e := 3) (elems := el) (spare := sp) rfl (by rw [he]; rfl) Tryz.underlying24
      rw [bytesInt] at this
      simp only [reachBytes] at this
      omega
  have r1 : ls ≤ 17592186044416 := by
    rcases rs with rfl | ⟨el, sp, he, hl⟩
    · omega
    · have := sized_slice hr (j := 1) (t := 23) (e := 35) (elems := el) (spare := sp) rfl (by rw [he]; rfl) Tryz.underlying23
      rw [bytesSc] at this
      simp only [reachBytes] at this
      omega
  have r3 : la ≤ 17592186044416 := by
    rcases ra with rfl | ⟨el, sp, he, hl⟩
    · omega
    · have := sized_slice hr (j := 3) (t := 25) (e := 70) (elems := el) (spare := sp) rfl (by rw [he]; rfl) Tryz.underlying25
      rw [bytesAbi] at this
      simp only [reachBytes] at this
      omega
  clear hA0 hval0
  have hM := rm 140737488355328 (fun n hn => by
    have := List.all_eq_true.1 hr n (DataW.weights_mem_each (j := 0) (t := 22) (d := y0.1) rfl rfl n hn)
    have h2 : n ≤ reachBytes := by simpa using this
    simp only [reachBytes] at h2
    omega)
  refine (moves_any pm ps pn pa lm cm ls cs ln cn la ca ms ss zs (by omega) (by omega) (by omega) hM.1 W hm hM.2 hs hn hcn).mono fun e W' ⟨he, bel⟩ => ?_
  subst he
  exact ⟨_, rfl, _, _, _, [], _, [], hW', trodAll_mk1 (shut_bool Tryz.underlying4 _), (trodAll_cons_mk (Below.trod laidOut (by kernel_rfl) (of_decide_eq_true (by kernel_rfl)) k0 bel lt0) trodAll_mk0), rfl, bel.frame _, fun h => by cases h⟩

theorem over : Rows.memMovesRow.holds Tryz.pinned (OpenSpec.ofChange Rows.memMovesSpec) :=
  OpenClaim.holds_of_wide 3 Tryz.f3 rfl rfl rfl rfl rfl rfl rfl ⟨rfl, rfl, rfl, rfl, rfl⟩ rfl rfl rfl rfl rfl (by kernel_rfl) Tryz.func3 (by kernel_rfl)
    (of_decide_eq_true (by kernel_rfl)) (by unfold Func.isWrapper; first | (rw [if_pos (by decide +kernel)]; kernel_rfl) | (rw [if_neg (by decide +kernel)]; exact ⟨rfl, rfl⟩))
    (fun os started H enc _ => lifted os started H enc)

theorem proved : Rows.MemMovesSaid := over
end Go.Proofs.YtcppmibeiilgbaaGreat.memMoves
