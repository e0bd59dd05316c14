/- Package val: slices.SortFunc of spans, by their lows, by the library's own contract. -/
import Derived.Test.YtblahbmhbfcggaaGreatDoorVSortL
import Derived.Test.YtblahbmhbfcggaaGreatDoorVNarrow
import Derived.Test.YtblahbmhbfcggaaGreatDoorVLay
namespace Go.Proofs.YtblahbmhbfcggaaGreatDoor
open Go.ChangeShapes Go.WideShapes Go.ChangeAt Go.RowKit Go.Joins Go.Deep Go.Sort
set_option linter.unusedVariables false

theorem nan_int (x : Int) (w : World) : Calls Tryz.prog 196 #[.int .i64 x] w fun e w' => e = .returned (.bool false) ∧ w = w' := by
  go_enter Tryz.func196, Tryz.ntmps196
  go_wp2
  go_ret
  simp
theorem cmp_int (x y : Int) (w : World) : Calls Tryz.prog 173 #[.int .i64 x, .int .i64 y] w fun e w' => e = .returned (.int .i64 (Lib.compareInt x y)) ∧ w = w' := by
  unfold Lib.compareInt
  by_cases h1 : x < y
  · rw [if_pos h1]
    go_enter Tryz.func173, Tryz.ntmps173
    go_wp2_with ((go_at_call 196; refine (nan_int _ _).mono ?_; rintro e w' ⟨rfl, rfl⟩))
    go_ret
    exact ⟨rfl, rfl⟩
  · have d1 : decide (x < y) = false := by simpa using h1
    rw [if_neg h1]
    by_cases h2 : x > y
    · rw [if_pos h2]
      go_enter Tryz.func173, Tryz.ntmps173
      go_wp2_with ((go_at_call 196; refine (nan_int _ _).mono ?_; rintro e w' ⟨rfl, rfl⟩))
      go_ret
      exact ⟨rfl, rfl⟩
    · have d2 : decide (y < x) = false := by simpa using h2
      rw [if_neg h2]
      go_enter Tryz.func173, Tryz.ntmps173
      go_wp2_with ((go_at_call 196; refine (nan_int _ _).mono ?_; rintro e w' ⟨rfl, rfl⟩))
      go_ret
      exact ⟨rfl, rfl⟩
/-- a span's two cells -/
def encS (x : Nat × Nat) : List Value := [.int .i64 x.1, .int .i64 x.2]
def cmpS (x y : Nat × Nat) : Int := Lib.compareInt x.1 y.1
set_option maxHeartbeats 1000000 in
theorem cmp_span (x y : Nat × Nat) (W : World) : Calls Tryz.prog 200 #[.agg #[.int .i64 x.1, .int .i64 x.2], .agg #[.int .i64 y.1, .int .i64 y.2]] W fun e w' => e = .returned (.int .i64 (cmpS x y)) ∧ ∃ q os', w' = grow (W.drewN q) os' := by
  have hcon := fun W' => cmp_int x.1 y.1 W'
  unfold cmpS
  generalize Lib.compareInt x.1 y.1 = r at hcon ⊢
  go_enter Tryz.func200, Tryz.ntmps200
  go_wp2_with (go_at_call 173; refine (hcon _).mono ?_; rintro e w' ⟨rfl, rfl⟩)
  go_ret
  exact ⟨rfl, 0, _, by rw [alloc_eq_grow, alloc_eq_grow, grow_grow]; rfl⟩
theorem cmp_lays (blk off size : Nat) (w : World) : CmpLays Tryz.prog 200 #[] encS 2 cmpS blk off size w :=
  fun _ _ _ _ x y => cmp_span x y _
theorem len_lays (n : Nat) (W : World) (h : n ≤ 12) : Calls Tryz.prog 164 #[.int .u64 n] W fun e w' => (∃ l : Int, e = .returned (.int .i64 l)) ∧ w' = W :=
  (Len_any n (by omega) W).mono fun _ _ ⟨he, hw⟩ => ⟨⟨_, he⟩, hw.symm⟩
theorem lt_iff (x y : Nat × Nat) : ltOf cmpS x y = decide (x.1 < y.1) := by
  unfold ltOf cmpS Lib.compareInt
  by_cases h1 : (x.1 : Int) < y.1
  · rw [if_pos h1]; simp; omega
  · rw [if_neg h1]
    by_cases h2 : (x.1 : Int) > y.1
    · rw [if_pos h2]; simp; omega
    · rw [if_neg h2]; simp; omega
theorem lt_swo : SWO (ltOf cmpS) := ⟨fun x => by rw [lt_iff]; simp, fun x y z => by rw [lt_iff, lt_iff, lt_iff]; simp; omega, fun x y z => by rw [lt_iff, lt_iff, lt_iff]; simp; omega⟩
theorem spans_holdsK {w : World} {g : Nat} {L : Spans} (h : HasSpans w g L) (hf : ∀ j, w.frozen? ⟨g, j, none⟩ = false) : HoldsK encS 2 w g 0 L.toArray := by
  intro j hj
  rw [size_flatK] at hj
  have hj2 : j / 2 < L.length := by simp at hj; omega
  obtain ⟨h1, h2⟩ := h (j / 2) hj2
  refine ⟨?_, by rw [Nat.zero_add]; exact hf j⟩
  rw [get_flatK encS 2 _ j (by simpa using hj), Nat.zero_add]
  have e : (L.toArray)[j / 2]! = L[j / 2] := by simp [hj2]
  rw [e]
  rcases (by omega : j % 2 = 0 ∨ j % 2 = 1) with h0 | h0
  · rw [show j / 2 * 2 = j by omega] at h1
    rw [h0]
    simpa [encS] using h1
  · rw [show j / 2 * 2 + 1 = j by omega] at h2
    rw [h0]
    simpa [encS] using h2
theorem holdsK_spans {w : World} {g : Nat} {d : Array (Nat × Nat)} (h : HoldsK encS 2 w g 0 d) : HasSpans w g d.toList := by
  intro i hi
  have hi' : i < d.size := by simpa using hi
  have e : d[i]! = d.toList[i] := by simp [hi']
  have a := (h (i * 2) (by rw [size_flatK]; omega)).1
  have b := (h (i * 2 + 1) (by rw [size_flatK]; omega)).1
  rw [get_flatK encS 2 d (i * 2) (by omega), Nat.zero_add] at a
  rw [get_flatK encS 2 d (i * 2 + 1) (by omega), Nat.zero_add] at b
  rw [show i * 2 / 2 = i by omega, show i * 2 % 2 = 0 by omega, e] at a
  rw [show (i * 2 + 1) / 2 = i by omega, show (i * 2 + 1) % 2 = 1 by omega, e] at b
  exact ⟨by simpa [encS] using a, by simpa [encS] using b⟩
/-- sorted by their lows -/
def SortPost (g : Nat) (L : Spans) (w : World) (e : Ending) (w' : World) : Prop := ∃ S : Spans, S.Perm L ∧ S.Pairwise (fun a c => a.1 ≤ c.1) ∧ e = .returned (.tuple #[]) ∧ HasSpans w' g S ∧ Keeps g w w'
theorem keeps_sort (w : World) (g n : Nat) (d : Array (Nat × Nat)) (os : Array Obj) : Keeps g w (sortWorldK encS 2 w g 0 n d os) := by
  refine ⟨rfl, rfl, rfl, ?_, fun j hj hn => ?_⟩
  · show w.heap.size ≤ ((w.heap.modify g _) ++ os).size
    simp
  · show ((w.heap.modify g _) ++ os)[j]? = w.heap[j]?
    rw [Array.getElem?_append_left (by simpa using hj), Array.getElem?_modify]
    simp [Ne.symm hn]
theorem sort_spans (g cap : Nat) (L : Spans) (w : World) (h : HasSpans w g L) (hf : ∀ j, w.frozen? ⟨g, j, none⟩ = false) (hg : g < w.heap.size) (h12 : L.length ≤ 12) :
    Calls Tryz.prog 199 #[.slice (some ⟨g, 0, none⟩) L.length cap, .func (.func 200) #[] #[]] w (SortPost g L w) := by
  have eg : ∀ args w, (callFunc 200 args).run Tryz.prog w = .ok (.enter 200 args) w := enters_of Tryz.func200 (by kernel_rfl) rfl
  have hcon := AnyQ.slices_SortFunc_small_sorted sortSpan 2 Tryz.isAgg166 Tryz.sizeOf166 encS (fun _ => rfl) (fun x v hv => by simp [encS] at hv; rcases hv with rfl | rfl <;> rfl) cmpS 200 #[] lt_swo g 0 cap L.toArray w eg (cmp_lays g 0 _ w) (spans_holdsK h hf) hg (by simpa using h12) len_lays
  refine Calls.mono (P := Tryz.prog) (f := 199) hcon ?_
  rintro e w' ⟨rfl, d', n, os, hp, hs, rfl⟩
  obtain ⟨hsz, _, hperm⟩ := hp
  have hsz' : d'.size = L.length := by simpa using hsz
  refine ⟨d'.toList, ?_, ?_, rfl, ?_, keeps_sort w g n d' os⟩
  · have e1 : (d'.extract 0 L.toArray.size).toList = d'.toList := by simp [← hsz']
    have e2 : (L.toArray.extract 0 L.toArray.size).toList = L := by simp
    rw [e1, e2] at hperm
    exact hperm
  · rw [List.pairwise_iff_getElem]
    intro i j hi hj hij
    have hi' : i < d'.size := by simpa using hi
    have hj' : j < d'.size := by simpa using hj
    have := hs i j (Nat.zero_le _) hij (by rw [List.size_toArray, ← hsz']; exact hj')
    rw [lt_iff, decide_eq_false_iff_not] at this
    have ei : d'[i]! = d'.toList[i] := by simp [hi']
    have ej : d'[j]! = d'.toList[j] := by simp [hj']
    rw [ei, ej] at this
    omega
  · have hk := holdsK_putRowK (enc := encS) (k := 2) (Sort.ahead w n) g 0 L.toArray d' (spans_holdsK (w := Sort.ahead w n) h hf) hsz
    have hk2 := holdsK_spans hk
    intro i hi
    obtain ⟨a, b⟩ := hk2 i hi
    have hgs : g < (putRowK encS 2 (Sort.ahead w n) g 0 d').heap.size := by show g < (w.heap.modify g _).size; simpa using hg
    exact ⟨(cell?_grow _ _ _ hgs).trans a, (cell?_grow _ _ _ hgs).trans b⟩
end Go.Proofs.YtblahbmhbfcggaaGreatDoor

/- slices.Concat of two slices of spans, neither of them empty. -/
namespace Go.Proofs.YtblahbmhbfcggaaGreatDoor
open Go.ChangeShapes Go.WideShapes Go.ChangeAt Go.RowKit Go.Joins Go.Deep
set_option linter.unusedVariables false

theorem spans_cells {w : World} {g : Nat} {L : Spans} (h : HasSpans w g L) : ∀ j u, (spansC L)[j]? = some u → w.cell? ⟨g, j, none⟩ = some u := by
  intro j u hu
  have hj : j < 2 * L.length := by
    have := (List.getElem?_eq_some_iff.1 hu).1
    rw [spansC_length] at this; exact this
  have hi : j / 2 < L.length := by omega
  obtain ⟨c1, c2⟩ := h (j / 2) hi
  obtain ⟨g1, g2⟩ := spansC_get L (j / 2) hi
  rcases (by omega : j = 2 * (j / 2) ∨ j = 2 * (j / 2) + 1) with e | e
  · rw [e] at hu; rw [g1] at hu; rw [e, Nat.mul_comm]; rw [← hu]; simpa using c1
  · rw [e] at hu; rw [g2] at hu; rw [e, Nat.mul_comm]; rw [← hu]; simpa using c2
theorem spans_add {w : World} {g : Nat} {L : Spans} (h : HasSpans w g L) : ∀ j u, (spansC L)[j]? = some u → w.cell? ((⟨g, 0, none⟩ : Addr).add j) = some u := by
  intro j u hu
  have := spans_cells h j u hu
  by_cases h0 : j = 0
  · subst h0; simpa [Addr.add] using this
  · simpa [Addr.add, h0] using this
theorem spansC_append (A C : Spans) : spansC (A ++ C) = spansC A ++ spansC C := by unfold spansC; rw [List.flatMap_append]
theorem spansC_one (L : Spans) : ∀ u ∈ spansC L, u.oneCell' = true := by
  intro u hu
  unfold spansC at hu
  rw [List.mem_flatMap] at hu
  obtain ⟨t, _, ht⟩ := hu
  simp at ht
  rcases ht with rfl | rfl <;> rfl
theorem own_spans {w : World} {base : Nat} {v : Value} {L : Spans} (h : w.ownsRow base 166 2 v L.length (spansC L)) (h0 : 0 < L.length) : ∃ g cap, v = .slice (some ⟨g, 0, none⟩) L.length cap ∧ HasSpans w g L ∧ (∀ j, w.frozen? ⟨g, j, none⟩ = false) ∧ base ≤ g ∧ g < w.heap.size := by
  obtain ⟨hl, ⟨_, hn⟩ | ⟨g, cap, cur, rfl, hb, hg, _, _, _, ht⟩⟩ := h
  · omega
  · refine ⟨g, cap, rfl, fun i hi => ?_, fun j => frozen_of_row w g j _ _ hg, hb, ?_⟩
    · obtain ⟨g1, g2⟩ := spansC_get L i hi
      have cell : ∀ j u, (spansC L)[j]? = some u → w.cell? ⟨g, j, none⟩ = some u := fun j u hu => by
        rw [← ht] at hu
        rw [cell_of_block hg]
        have := List.getElem?_take (l := cur.toList) (i := L.length * 2) (j := j)
        rw [this] at hu
        split at hu
        · simpa using hu
        · cases hu
      rw [Nat.mul_comm 2 i] at g1 g2
      exact ⟨cell _ _ g1, cell _ _ g2⟩
    · rcases Nat.lt_or_ge g w.heap.size with h' | h'
      · exact h'
      · rw [Array.getElem?_eq_none h'] at hg; cases hg
def ConcatPost (A C : Spans) (w : World) (e : Ending) (w' : World) : Prop := ∃ g cap, e = .returned (.slice (some ⟨g, 0, none⟩) (A ++ C).length cap) ∧ HasSpans w' g (A ++ C) ∧ (∀ j, w'.frozen? ⟨g, j, none⟩ = false) ∧ w.heap.size ≤ g ∧ g < w'.heap.size ∧ Below w.heap.size w w'
/-- grown from nothing: a row of the call's own, nothing of it in use -/
def GrowPost (base : Nat) (w : World) (e : Ending) (w' : World) : Prop := ∃ v, e = .returned v ∧ w'.ownsRow base 166 2 v 0 [] ∧ Below w.heap.size w w'
theorem grow_any (n : Nat) (hn : 0 < n) (h18 : n ≤ 1000) (base : Nat) (w : World) (hb : base ≤ w.heap.size) :
    Calls Tryz.prog 222 #[.slice none 0 0, .int .i64 n] w (GrowPost base w) := by
  obtain ⟨i0, hi0, hz0, hz1, hz2⟩ := info_parts Tryz.infoSpan
  have cG := Any8.slices_Grow_grow growSpan i0 _ hi0 hz0 (by omega) none 0 0 n [] w (Nat.le_refl _) (by omega) (by rw [hz2]; omega) (by omega) (by simp) (fun _ => rfl) (by intro a h; cases h)
  refine Calls.mono (P := Tryz.prog) (f := 222) cG ?_
  rintro e w' ⟨rfl, rfl⟩
  have hge := grownCap_ge w (0 + n) 0 166
  have hle := grownCap_le_maxLen w (0 + n) 0 166 (by unfold maxLen; omega)
  have hA := At.new w.drew (#[] ++ Builtin.zeroCells (Value.agg #[Value.int IntKind.i64 0, Value.int IntKind.i64 0]).cells (0 + n - 0) ++ Builtin.zeroCells (Value.agg #[Value.int IntKind.i64 0, Value.int IntKind.i64 0]).cells (grownCap w (0 + n) 0 166 - (0 + n))) 166
  have zc : (Value.agg #[Value.int IntKind.i64 0, Value.int IntKind.i64 0]).cells.size = 2 := rfl
  have hsz : (#[] ++ Builtin.zeroCells (Value.agg #[Value.int IntKind.i64 0, Value.int IntKind.i64 0]).cells (0 + n - 0) ++ Builtin.zeroCells (Value.agg #[Value.int IntKind.i64 0, Value.int IntKind.i64 0]).cells (grownCap w (0 + n) 0 166 - (0 + n))).size = grownCap w (0 + n) 0 166 * 2 := by
    simp only [Array.size_append, size_zeroCells, zc, List.size_toArray, List.length_nil]
    omega
  exact ⟨_, rfl, ⟨rfl, Or.inr ⟨w.heap.size, grownCap w (0 + n) 0 166, _, rfl, hb, hA, Nat.zero_le _, hle, hsz, by simp⟩⟩, ((Below.refl _ _).drew).alloc (Nat.le_refl _) _⟩
def RelCo (A C : Spans) (w : World) (v vi : Value) (wr : World) : Prop := ∃ i : Nat, i ≤ 2 ∧ vi = .int .i64 i ∧ (∃ L : Spans, L = (if i = 0 then [] else if i = 1 then A else A ++ C) ∧ wr.ownsRow w.heap.size 166 2 v L.length (spansC L)) ∧ Below w.heap.size w wr
def szOf (a c i : Nat) : Nat := if i = 0 then 0 else if i = 1 then a else a + c
def RelSz (a c : Nat) (vs vi : Value) : Prop := ∃ i : Nat, i ≤ 2 ∧ vi = .int .i64 i ∧ vs = .int .i64 (szOf a c i)
set_option maxRecDepth 100000 in
set_option maxHeartbeats 1600000 in
theorem concat_any (A C : Spans) (sb c2 ga gc capA capC : Nat) (w : World) (hA : HasSpans w ga A) (hC : HasSpans w gc C) (h0 : 0 < A.length) (h1 : 0 < C.length) (h2 : A.length ≤ 9) (h3 : C.length ≤ 9)
    (q0 : w.cell? ⟨sb, 0, none⟩ = some (.slice (some ⟨ga, 0, none⟩) A.length capA)) (q1 : w.cell? ⟨sb, 1, none⟩ = some (.slice (some ⟨gc, 0, none⟩) C.length capC)) :
    Calls Tryz.prog 198 #[.slice (some ⟨sb, 0, none⟩) 2 c2] w (ConcatPost A C w) := by
  obtain ⟨a, ha⟩ : ∃ a, a = A.length := ⟨_, rfl⟩
  obtain ⟨c, hc⟩ : ∃ c, c = C.length := ⟨_, rfl⟩
  rw [← ha] at q0 h0 h2
  rw [← hc] at q1 h1 h3
  have EA := Lib.hid ha
  have EC := Lib.hid hc
  clear ha hc
  go_enter Tryz.func198, Tryz.ntmps198
  go_wp2_with fail
  go_loop [3, 11] (fun vs vi => RelSz a c vs vi) (fun _ vi => 2 - (intOf vi).toNat)
  case atStart => exact ⟨0, by omega, rfl, rfl⟩
  case round =>
    obtain ⟨i, hi, rfl, rfl⟩ := hrel
    rcases (by omega : i = 0 ∨ i = 1 ∨ i = 2) with rfl | rfl | rfl
    · have e0 : szOf a c 0 = 0 := rfl
      rw [e0]
      go_wp2_with fail
      go_round
      case rel => exact ⟨1, by omega, rfl, by simp [szOf]⟩
      case measure => simp [intOf]
    · have e1 : szOf a c 1 = a := rfl
      rw [e1]
      go_wp2_with fail
      go_round
      case rel => exact ⟨2, by omega, rfl, by simp [szOf]⟩
      case measure => simp [intOf]
    · have e2 : szOf a c 2 = a + c := rfl
      rw [e2]
      have cG := fun w' (h : w.heap.size ≤ w'.heap.size) => grow_any (a + c) (by omega) (by omega) w.heap.size w' h
      go_wp2_with fail
      refine (cG _ (Nat.le_refl _)).mono ?_
      rintro e w2 ⟨v0, rfl, hown0, hb0⟩
      clear cG e2
      go_wp2_with fail
      go_loopw [6, 27] (fun v vi wr => RelCo A C w v vi wr) (fun _ vi _ => 2 - (intOf vi).toNat)
      case atStart => exact ⟨0, by omega, rfl, ⟨[], rfl, by simpa [spansC] using hown0⟩, hb0⟩
      case round =>
        obtain ⟨i, hi, rfl, ⟨L, hL, hown⟩, hbE⟩ := hrel
        have hbs := hbE.size
        rcases (by omega : i = 0 ∨ i = 1 ∨ i = 2) with rfl | rfl | rfl
        · have r0 : wr.cell? ⟨sb, 0, none⟩ = some (.slice (some ⟨ga, 0, none⟩) a capA) := cell_below q0 hbE
          obtain ⟨i0, hi0, hz0, hz1, hz2⟩ := info_parts Tryz.infoSpan
          have hcA := spans_add (hA.below hbE)
          simp only [if_true, Nat.one_ne_zero, if_false] at hL
          rw [hL] at hown
          clear hL
          clear q0 q1 hb0 hown0
          go_wp2_with ((at_builtin; refine wpList_append_own _ rfl _ _ 153 rfl w.heap.size 166 i0 _ 2 16 Tryz.underlying153 hi0 hz0 hz1 hz2 rfl (by decide) _ 0 [] rfl hown ⟨ga, 0, none⟩ a capA (spansC A) rfl (by rw [spansC_length]; have := EA.out; omega) hcA (spansC_one A) (by unfold maxLen; have := EA.out; have := EC.out; omega) (by have := EA.out; have := EC.out; omega) hbs ?_))
          intro v3 w3 hown3 hgrow _
          have hbF := hbE.grown hgrow hbs (fun i hi => own_ge hown hi)
          have hown4 : w3.ownsRow w.heap.size 166 2 v3 (A).length (spansC (A)) := by
            have e1 := EA.out
            have e2 := EC.out
            simpa [spansC_append, e1, e2, spansC] using hown3
          clear hown3 hgrow hown hbE hbs hcA r0 hi0 hz0 hz1 hz2
          go_wp2_with fail
          go_roundw
          case rel => exact ⟨1, by omega, rfl, ⟨_, by simp, hown4⟩, hbF⟩
          case measure => simp [intOf]
        · have r0 : wr.cell? ⟨sb, 1, none⟩ = some (.slice (some ⟨gc, 0, none⟩) c capC) := cell_below q1 hbE
          obtain ⟨i0, hi0, hz0, hz1, hz2⟩ := info_parts Tryz.infoSpan
          have hcA := spans_add (hC.below hbE)
          simp only [if_true, Nat.one_ne_zero, if_false] at hL
          rw [hL] at hown
          clear hL
          clear q0 q1 hb0 hown0
          go_wp2_with ((at_builtin; refine wpList_append_own _ rfl _ _ 153 rfl w.heap.size 166 i0 _ 2 16 Tryz.underlying153 hi0 hz0 hz1 hz2 rfl (by decide) _ A.length (spansC A) rfl hown ⟨gc, 0, none⟩ c capC (spansC C) rfl (by rw [spansC_length]; have := EC.out; omega) hcA (spansC_one C) (by unfold maxLen; have := EA.out; have := EC.out; omega) (by have := EA.out; have := EC.out; omega) hbs ?_))
          intro v3 w3 hown3 hgrow _
          have hbF := hbE.grown hgrow hbs (fun i hi => own_ge hown hi)
          have hown4 : w3.ownsRow w.heap.size 166 2 v3 (A ++ C).length (spansC (A ++ C)) := by
            have e1 := EA.out
            have e2 := EC.out
            simpa [spansC_append, e1, e2, spansC] using hown3
          clear hown3 hgrow hown hbE hbs hcA r0 hi0 hz0 hz1 hz2
          go_wp2_with fail
          go_roundw
          case rel => exact ⟨2, by omega, rfl, ⟨_, by simp, hown4⟩, hbF⟩
          case measure => simp [intOf]
        · have e : L = A ++ C := by simpa using hL
          subst e
          clear hL q0 q1 hown0 hb0
          have hlen : 0 < (A ++ C).length := by have := EA.out; simp; omega
          obtain ⟨g, cap, rfl, hH, hf, hge, hlt⟩ := own_spans hown hlen
          have fin : ConcatPost A C w (.returned (.slice (some ⟨g, 0, none⟩) (A ++ C).length cap)) wr := ⟨g, cap, rfl, hH, hf, hge, hlt, hbE⟩
          clear hown hH hf hge hlt hlen hbE hbs
          go_wp2_with fail
          go_ret
          exact fin
end Go.Proofs.YtblahbmhbfcggaaGreatDoor
