/- Whether any program may be, also with something changed, in how many bodies each statement stands, which are loops, and how large blocks are, are the page's, or refused. No condition. -/
import Derived.Test.YtncdbjflfhfddaaGreatGTt
import Derived.Test.YtncdbjflfhfddaaGreatGPw
namespace Go.Proofs.YtncdbjflfhfddaaGreat.progTells
open Go.ChangeShapes Go.WideShapes Go.ChangeAt Go.RowKit Go.Joins Go.Deep
set_option linter.unusedVariables false

theorem own : ownKnob Tryz.prog.godebug = none := by kernel_rfl
theorem laidOut : laidOutB Tryz.prog = true := by kernel_rfl
theorem cellsAsk : Tryz.prog.cellsOf 25 = 2 := by kernel_rfl

set_option maxRecDepth 100000 in
theorem lifted (os : Os) (started : os.Started) (H : Type) (enc : TypeId × Value → H) :
    ReturnsInHanded {} Tryz.checked os 3 .any (Rows.progTellsSpec.pre6 enc Tryz.prog Tryz.f3 Rows.progTellsRow.domain false) (Rows.progTellsSpec.post enc Tryz.prog Tryz.f3 false true false false) := by
  refine returnsInHanded_of_change_sized (C := Tryz.checked) own started (by kernel_rfl) Tryz.func3
    (ChangeSpec.witness6 (enc := enc) (C := Tryz.checked) false ⟨#[], #[.agg #[.slice none 0 0, .slice none 0 0]], []⟩ 8 (by kernel_rfl) (by kernel_rfl) (by kernel_rfl) (by kernel_rfl)) ?_
  intro W base args ds gs before hval0 hW hcnd hsz0 _
  have hsz : (DataW.weightsEach Tryz.prog (Tryz.f3.params.toList ++ Rows.progTellsSpec.plain.varTypes Tryz.prog) (ds ++ gs)).all (· ≤ reachBytes) = true := hsz0
  have hval : ∀ (j : Nat) t v, Tryz.f3.params[j]? = some t → args[j]? = some v → Value.okWide Tryz.prog W .any base t v := hval0
  have hW' := hW
  obtain ⟨p, q, hA0, hV, rfl, hfz, hnd⟩ := hW
  have hA : DataW.TrodAll enc Tryz.prog W 0 (fun _ => true) true Tryz.f3.params.toList args.toList ds p := hA0
  rw [Tryz.params3] at hA hval hsz
  obtain ⟨v0, vs0, d0, ds0, p0, q0, hargs, rfl, rfl, h0, r0⟩ := trodAll_cons hA
  obtain ⟨rfl, rfl, rfl⟩ := trodAll_nil r0
  obtain rfl : args = #[v0] := by cases args; simp_all
  obtain ⟨rfl, rfl⟩ := trodVars_none hV
  have k0 := h0
  have lt0 : ∀ x ∈ p0, x.block < W.heap.size := by obtain ⟨m, hm⟩ := k0; exact DataW.trod_lt m _ _ _ hm
  obtain ⟨c0, c1, y0, y1, m, rfl, hd, hp, hy0, hy1⟩ := open_agg2 Tryz.underlying25 (by kernel_rfl) cellsAsk (hval 0 25 v0 rfl rfl) h0
  obtain ⟨xs, hxs, wxs⟩ := ps_ofW (ea := 29) (eb := 4) (ei := 3) (es := 23) (te := 30) (ee := 50) (ts := 31) (se := 53) Tryz.underlying22 Tryz.underlying33 (by kernel_rfl) (of_decide_eq_true (by kernel_rfl)) (of_decide_eq_true (by kernel_rfl)) (of_decide_eq_true (by kernel_rfl)) (of_decide_eq_true (by kernel_rfl)) ⟨rfl, rfl⟩ ⟨rfl, rfl⟩ ⟨rfl, rfl⟩ ⟨rfl, rfl⟩ ⟨rfl, rfl⟩ ⟨rfl, rfl⟩
    ⟨by kernel_rfl, Tryz.underlying29⟩ ⟨rfl, rfl⟩ ⟨rfl, rfl⟩ ⟨by kernel_rfl, Tryz.underlying4⟩ ⟨by kernel_rfl, Tryz.underlying3⟩ ⟨by kernel_rfl, Tryz.underlying23⟩
    ⟨by kernel_rfl, Tryz.underlying30⟩ ⟨by kernel_rfl, Tryz.underlying50⟩ ⟨rfl, rfl⟩ ⟨rfl, rfl⟩ ⟨rfl, rfl⟩ ⟨rfl, rfl⟩ ⟨rfl, rfl⟩
    ⟨by kernel_rfl, Tryz.underlying31⟩ ⟨by kernel_rfl, Tryz.underlying53⟩ ⟨rfl, rfl⟩ ⟨rfl, rfl⟩ ⟨rfl, rfl⟩ ⟨rfl, rfl⟩ ⟨rfl, rfl⟩ ⟨rfl, rfl⟩ ⟨rfl, rfl⟩ hy0
  obtain ⟨ns, hns, wns⟩ := is_ofW (ei := 3) Tryz.underlying23 ⟨by kernel_rfl, Tryz.underlying3⟩ (of_decide_eq_true (by kernel_rfl)) hy1
  have hsz2 : (DataW.weightsEach Tryz.prog [25] [.agg [y0.1, y1.1]]).all (· ≤ reachBytes) = true := by rw [← hd]; exact hsz
  have hr := reach_parts hsz2 Tryz.underlying25
  have hM := wxs 140737488355328 (fun n hn => by
    have := List.all_eq_true.1 hr n (DataW.weights_mem_each (j := 0) (t := 22) (d := y0.1) rfl rfl n hn)
    have h2 : n ≤ reachBytes := by simpa using this
    simp only [reachBytes] at h2
    omega)
  have hK := wns 140737488355328 (fun n hn => by
    have := List.all_eq_true.1 hr n (DataW.weights_mem_each (j := 1) (t := 23) (d := y1.1) rfl rfl n hn)
    have h2 : n ≤ reachBytes := by simpa using this
    simp only [reachBytes] at h2
    omega)
  clear hA0 hval0
  refine (progTells_any c0 c1 xs ns hM.1 hK hM.2 W hxs hns).mono fun e W' ⟨he, bel⟩ => ?_
  subst he
  exact ⟨_, rfl, _, _, _, [], _, [], hW', trodAll_mk1 (shut_bool Tryz.underlying4 _), (trodAll_cons_mk (Below.trod laidOut (by kernel_rfl) (of_decide_eq_true (by kernel_rfl)) k0 bel lt0) trodAll_mk0), rfl, bel.frame _, fun h => by cases h⟩

theorem over : Rows.progTellsRow.holds Tryz.pinned (OpenSpec.ofChange Rows.progTellsSpec) :=
  OpenClaim.holds_of_wide 3 Tryz.f3 rfl rfl rfl rfl rfl rfl rfl ⟨rfl, rfl, rfl, rfl, rfl⟩ rfl rfl rfl rfl rfl (by kernel_rfl) Tryz.func3 (by kernel_rfl)
    (of_decide_eq_true (by kernel_rfl)) (by unfold Func.isWrapper; first | (rw [if_pos (by decide +kernel)]; kernel_rfl) | (rw [if_neg (by decide +kernel)]; exact ⟨rfl, rfl⟩))
    (fun os started H enc _ => lifted os started H enc)

theorem proved : Rows.ProgTellsSaid := over
end Go.Proofs.YtncdbjflfhfddaaGreat.progTells
