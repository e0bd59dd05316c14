/- TreeParses holds for every input: what is told of any text, be it a program or nearly one, is what the page says. Conditions: the variables that the row lists (tables of math/bits, internal/strconv, strings and unicode, two errors of strconv) lie as the program's text lays them (the card ties them to that text). -/
import Derived.Test.YtkhklndmbfbnoaaGreatDoorTPar
import Derived.Test.YtkhklndmbfbnoaaGreatDoorLIn
import Derived.Test.YtkhklndmbfbnoaaGreatDoorCards
import Derived.Test.YtkhklndmbfbnoaaGreatDoorTie
import Derived.ProofKit
import Derived.LaidMore
import Derived.OpenShut
import Derived.Stop.Joined
import Derived.Stop.LaidErr
import Derived.SevenTiedAt
import Derived.Lib.LaidTab
import Derived.MakeChecks
namespace Go.Proofs.YtkhklndmbfbnoaaGreatDoor.treeParses
open Go.ChangeShapes Go.WideShapes Go.ChangeAt Go.RowKit Go.Joins Go.Deep
set_option linter.unusedVariables false

theorem own : ownKnob Tryz.prog.godebug = none := by kernel_rfl
theorem laidOut : laidOutB Tryz.prog = true := by kernel_rfl
theorem cellsAsk : Tryz.prog.cellsOf 28 = 3 := by kernel_rfl
theorem cellsT : Tryz.prog.cellsOf 26 = 1 := by kernel_rfl
theorem cellsIn : Tryz.prog.cellsOf 25 = 2 := by kernel_rfl
theorem cellsS : Tryz.prog.cellsOf 22 = 1 := by kernel_rfl
theorem cellsN : Tryz.prog.cellsOf 23 = 1 := by kernel_rfl
theorem bytesInt : Tryz.prog.bytesOf 3 = 8 := by kernel_rfl
abbrev laid2 {H : Type} : List (String × DataW H) := [("math/bits.deBruijn32tab", Rows.laid_math_bits_deBruijn32tab), ("math/bits.deBruijn64tab", Rows.laid_math_bits_deBruijn64tab), ("internal/strconv.uint64pow10", Rows.laid_internal_strconv_uint64pow10), ("strconv.ErrRange", Rows.laid_strconv_ErrRange), ("strconv.ErrSyntax", Rows.laid_strconv_ErrSyntax), ("unicode.White_Space", Rows.laid_unicode_White_Space), ("strings.asciiSpace", Rows.laid_strings_asciiSpace)]
set_option maxRecDepth 100000 in
theorem tab_of {W : World} (hL : laidMetH Tryz.prog laid2 W) : Tab W := by
  have h : laidMet Tryz.prog laid2 W := by
    rw [← Go.MakeChecks.laidMetH_plain Tryz.prog laid2 W (by kernel_rfl)]
    exact hL
  have h7 := h.tail.tail.tail.tail.tail.tail
  have e : (Rows.laid_strings_asciiSpace : DataW Unit) = Go.Lib.tabData .u8 Go.Lib.asciiSpaceTab := by kernel_rfl
  rw [e] at h7
  exact Go.Lib.tabIs_of_head (g := 0) (t := 151) (e := 5) (n := 256) (by kernel_rfl) (by kernel_rfl) Tryz.underlying151 Tryz.underlying5 (by kernel_rfl) (by kernel_rfl) h7
set_option maxRecDepth 100000 in
theorem door_met (os : Os) (args : Array Value) : laidMetH Tryz.prog laid2 ((World.doorLaid Tryz.prog 400 os).forCall (fun _ _ => 0) ⟨#[], args, []⟩).memory :=
  laidMetH_of_parts3 (fuel := 8) (laidMet_of_run' 8 (by kernel_rfl) (by kernel_rfl)) (by kernel_rfl) (by kernel_rfl)

set_option maxRecDepth 100000 in
theorem lifted (os : Os) (started : os.Started) (H : Type) (enc : TypeId × Value → H) :
    ReturnsInHanded {} Tryz.checked os 3 .any (fun w args => (Rows.treeParsesSpec.pre enc Tryz.prog Tryz.f3 [] false w args ∧ laidMetH Tryz.prog laid2 w) ∧ sizedMet enc Tryz.prog Tryz.f3 (OpenSpec.ofChange Rows.treeParsesSpec) false w args)
      (Rows.treeParsesSpec.post enc Tryz.prog Tryz.f3 false true false false) := by
  refine returnsInHanded_of_change_and (C := Tryz.checked) (X := fun w _ => laidMetH Tryz.prog laid2 w) (fun _ _ _ hh h => h.of_heap hh) own started (by kernel_rfl) Tryz.func3
    (ChangeSpec.witness_shaped (enc := enc) (C := Tryz.checked) (os := os) (X := fun w _ => laidMetH Tryz.prog laid2 w) false (World.doorLaid Tryz.prog 400 os) #[.agg #[.slice none 0 0, .slice none 0 0, .slice none 0 0]] 8 rfl (World.shaped_of_RefB (by kernel_rfl) (by kernel_rfl)) (by kernel_rfl) (by kernel_rfl) (by kernel_rfl) (door_met os _)) ?_
  intro W base args ds gs before hval0 hW _ hsz0 hL _
  have htab := tab_of hL
  have hsz : (DataW.weightsEach Tryz.prog (Tryz.f3.params.toList ++ Rows.treeParsesSpec.plain.varTypes Tryz.prog) (ds ++ gs)).all (· ≤ reachBytes) = true := hsz0
  have hval : ∀ (j : Nat) t v, Tryz.f3.params[j]? = some t → args[j]? = some v → Value.okWide Tryz.prog W .any base t v := hval0
  have hW' := hW
  obtain ⟨p, q, hA0, hV, rfl, hfz, hnd⟩ := hW
  have hA : DataW.TrodAll enc Tryz.prog W 0 (fun _ => true) true Tryz.f3.params.toList args.toList ds p := hA0
  rw [Tryz.params3] at hA hval hsz
  obtain ⟨v0, vs0, d0, ds0, p0, q0, hargs, rfl, rfl, h0, r0⟩ := trodAll_cons hA
  obtain ⟨rfl, rfl, rfl⟩ := trodAll_nil r0
  obtain rfl : args = #[v0] := by cases args; simp_all
  obtain ⟨rfl, rfl⟩ := trodVars_none hV
  have k0 := h0
  have lt0 : ∀ x ∈ p0, x.block < W.heap.size := by obtain ⟨m, hm⟩ := k0; exact DataW.trod_lt m _ _ _ hm
  obtain ⟨cs, rfl, hcs⟩ := okWide_struct Tryz.underlying28 (hval 0 28 v0 rfl rfl)
  obtain ⟨c0, c1, c2, rfl⟩ := array3 (hcs.trans cellsAsk)
  obtain ⟨fuel, hf⟩ := h0
  obtain ⟨y0, y1, n, hx, _, h00, h01⟩ := trod_struct2 Tryz.underlying28 hf
  dsimp only at h01
  rw [cellsT] at h01
  obtain ⟨qT, lT, cT, hc2⟩ := slice_form Tryz.underlying26 h01
  obtain rfl : c2 = .slice qT lT cT := by simpa [Value.cells] using hc2
  have h01' : DataW.trod enc Tryz.prog W 0 (fun _ => true) true n 26 [.slice qT lT cT] = some y1 := by simpa [Value.cells] using h01
  obtain ⟨qT2, lT2, cT2, hq2, hIT⟩ := rows_of Tryz.underlying26 cellsT Tryz.underlying36 Tryz.underlying83 (by kernel_rfl) ⟨rfl, rfl⟩ ⟨rfl, rfl⟩ ⟨rfl, rfl⟩ ⟨rfl, rfl⟩ ⟨by kernel_rfl, Tryz.underlying3⟩ ⟨by kernel_rfl, Tryz.underlying9⟩ ⟨by kernel_rfl, Tryz.underlying23⟩ h01'
  injection hq2 with hqa hqb hqc
  subst hqa hqb hqc
  dsimp only at h00
  rw [cellsIn] at h00
  have h00' : DataW.trod enc Tryz.prog W 0 (fun _ => true) true n 25 [c0, c1] = some y0 := by simpa [Value.cells] using h00
  obtain ⟨yS, yN, n2, hxx, _, g0, g1⟩ := trod_struct2 Tryz.underlying25 h00'
  dsimp only at g0 g1
  have g0' : DataW.trod enc Tryz.prog W 0 (fun _ => true) true n2 22 [c0] = some yS := by rw [cellsS] at g0; simpa using g0
  have g1' : DataW.trod enc Tryz.prog W 0 (fun _ => true) true n2 23 [c1] = some yN := by rw [cellsN] at g1; simpa using g1
  obtain ⟨pS, lS, cS, zs, rfl, htx⟩ := txts_of Tryz.underlying22 Tryz.underlying9 (by kernel_rfl) (of_decide_eq_true (by kernel_rfl)) g0'
  obtain ⟨pN, lN, cN, ns, rfl, hn, hcn, rn⟩ := ints_of Tryz.underlying23 Tryz.underlying3 (by kernel_rfl) g1'
  have hdd : d0 = .agg [y0.1, y1.1] := by injection hx
  have hd0 : y0.1 = .agg [yS.1, yN.1] := by rw [hxx]
  have hsz2 : (DataW.weightsEach Tryz.prog [28] [.agg [y0.1, y1.1]]).all (· ≤ reachBytes) = true := by rw [← hdd]; exact hsz
  have hr := reach_parts hsz2 Tryz.underlying28
  have hr2 : (DataW.weightsEach Tryz.prog [25] [.agg [yS.1, yN.1]]).all (· ≤ reachBytes) = true := by
    rw [← hd0]
    refine List.all_eq_true.2 fun n hn => List.all_eq_true.1 hr n ?_
    refine DataW.weights_mem_each (ts := _) (j := 0) (t := 25) (d := y0.1) rfl rfl n ?_
    simpa [DataW.weightsEach] using hn
  have hr3 := reach_parts hr2 Tryz.underlying25
  obtain ⟨hlS, hin⟩ := htx (fun n hn => by
    have h1 := List.all_eq_true.1 hr3 _ (DataW.weights_mem_each (ts := _) (j := 0) (t := 22) (d := yS.1) rfl rfl n hn)
    have h2 : n ≤ reachBytes := by simpa using h1
    simp only [reachBytes] at h2
    omega)
  have r2 : lN ≤ 140737488355328 := by
    rcases rn with rfl | ⟨el, sp, he, hl⟩
    · omega
    · have := sized_slice hr3 (j := 1) (t := 23) (e := 3) (elems := el) (spare := sp) rfl (by rw [he]; rfl) Tryz.underlying23
      rw [bytesInt] at this
      simp only [reachBytes] at this
      omega
  clear hA0 hval0
  refine (treeParses_any pS pN qT lS cS lN cN lT cT zs hlS r2 W hin hIT htab).mono fun e W' ⟨he, bel⟩ => ?_
  subst he
  exact ⟨_, rfl, _, _, _, [], _, [], hW', trodAll_mk1 (shut_bool Tryz.underlying4 _), (trodAll_cons_mk (Below.trod laidOut (by kernel_rfl) (of_decide_eq_true (by kernel_rfl)) k0 bel lt0) trodAll_mk0), rfl, bel.frame _, fun h => by cases h⟩

theorem over : Rows.treeParsesRow.holds Tryz.pinned (OpenSpec.ofChange Rows.treeParsesSpec) :=
  OpenClaim.holds_of_wide 3 Tryz.f3 rfl rfl rfl rfl rfl rfl rfl ⟨rfl, rfl, rfl, rfl, rfl⟩ rfl rfl rfl rfl rfl (by kernel_rfl) Tryz.func3 (by kernel_rfl)
    (of_decide_eq_true (by kernel_rfl)) (by unfold Func.isWrapper; first | (rw [if_pos (by decide +kernel)]; kernel_rfl) | (rw [if_neg (by decide +kernel)]; exact ⟨rfl, rfl⟩))
    (fun os started H enc _ => lifted os started H enc)

theorem proved : Rows.TreeParsesCardSaid :=
  Claim7.holds_tied_plain_at .later [] [.data, .data, .data, .sentinel, .sentinel, .listed, .data] true (true, "3a356275c46a886b04349244c729410ee9797f8dce11c0a495d058f69c855b3c") true
    over (fun _ h => by cases h) (by kernel_rfl) (fun _ h => by cases h) treeParses_row_tie rfl ⟨rfl, rfl⟩ (by kernel_rfl) rfl
    (fun f fn hf hfn => by
      obtain rfl : f = 3 := Option.some.inj ((show Tryz.prog.funcNamed "cellar/cellarlaw11.TreeParses" = some 3 by kernel_rfl).symm.trans hf) |>.symm
      obtain rfl : fn = Tryz.f3 := (Option.some.inj (Tryz.func3.symm.trans hfn)).symm
      exact ⟨by kernel_rfl, fun j t ht => by
        rw [Tryz.params3] at ht
        have h3 : t = 28 := by
          rcases j with _ | j
          · simpa using ht.symm
          · simp at ht
        subst h3
        exact (show Tryz.prog.wantsStandIn 28 = false by kernel_rfl)⟩)
    (by kernel_rfl)
end Go.Proofs.YtkhklndmbfbnoaaGreatDoor.treeParses
