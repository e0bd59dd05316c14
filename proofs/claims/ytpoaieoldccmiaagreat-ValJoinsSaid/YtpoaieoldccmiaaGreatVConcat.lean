/- slices.Concat of two slices of spans, neither of them empty. -/
import Derived.Test.YtpoaieoldccmiaaGreatVSort
import Derived.Test.YtpoaieoldccmiaaGreatVLay
namespace Go.Proofs.YtpoaieoldccmiaaGreat
open Go.ChangeShapes Go.WideShapes Go.ChangeAt Go.RowKit Go.Joins Go.Deep
set_option linter.unusedVariables false

theorem spans_cells {w : World} {g : Nat} {L : Spans} (h : HasSpans w g L) : ∀ j u, (spansC L)[j]? = some u → w.cell? ⟨g, j, none⟩ = some u := by
  intro j u hu
  have hj : j < 2 * L.length := by
    have := (List.getElem?_eq_some_iff.1 hu).1
    rw [spansC_length] at this; exact this
  have hi : j / 2 < L.length := by omega
  obtain ⟨c1, c2⟩ := h (j / 2) hi
  obtain ⟨g1, g2⟩ := spansC_get L (j / 2) hi
  rcases (by omega : j = 2 * (j / 2) ∨ j = 2 * (j / 2) + 1) with e | e
  · rw [e] at hu; rw [g1] at hu; rw [e, Nat.mul_comm]; rw [← hu]; simpa using c1
  · rw [e] at hu; rw [g2] at hu; rw [e, Nat.mul_comm]; rw [← hu]; simpa using c2
theorem spans_add {w : World} {g : Nat} {L : Spans} (h : HasSpans w g L) : ∀ j u, (spansC L)[j]? = some u → w.cell? ((⟨g, 0, none⟩ : Addr).add j) = some u := by
  intro j u hu
  have := spans_cells h j u hu
  by_cases h0 : j = 0
  · subst h0; simpa [Addr.add] using this
  · simpa [Addr.add, h0] using this
theorem spansC_append (A C : Spans) : spansC (A ++ C) = spansC A ++ spansC C := by unfold spansC; rw [List.flatMap_append]
theorem spansC_one (L : Spans) : ∀ u ∈ spansC L, u.oneCell' = true := by
  intro u hu
  unfold spansC at hu
  rw [List.mem_flatMap] at hu
  obtain ⟨t, _, ht⟩ := hu
  simp at ht
  rcases ht with rfl | rfl <;> rfl
theorem own_spans {w : World} {base : Nat} {v : Value} {L : Spans} (h : w.ownsRow base 93 2 v L.length (spansC L)) (h0 : 0 < L.length) : ∃ g cap, v = .slice (some ⟨g, 0, none⟩) L.length cap ∧ HasSpans w g L ∧ (∀ j, w.frozen? ⟨g, j, none⟩ = false) ∧ base ≤ g ∧ g < w.heap.size := by
  obtain ⟨hl, ⟨_, hn⟩ | ⟨g, cap, cur, rfl, hb, hg, _, _, _, ht⟩⟩ := h
  · omega
  · refine ⟨g, cap, rfl, fun i hi => ?_, fun j => frozen_of_row w g j _ _ hg, hb, ?_⟩
    · obtain ⟨g1, g2⟩ := spansC_get L i hi
      have cell : ∀ j u, (spansC L)[j]? = some u → w.cell? ⟨g, j, none⟩ = some u := fun j u hu => by
        rw [← ht] at hu
        rw [cell_of_block hg]
        have := List.getElem?_take (l := cur.toList) (i := L.length * 2) (j := j)
        rw [this] at hu
        split at hu
        · simpa using hu
        · cases hu
      rw [Nat.mul_comm 2 i] at g1 g2
      exact ⟨cell _ _ g1, cell _ _ g2⟩
    · rcases Nat.lt_or_ge g w.heap.size with h' | h'
      · exact h'
      · rw [Array.getElem?_eq_none h'] at hg; cases hg
def ConcatPost (A C : Spans) (w : World) (e : Ending) (w' : World) : Prop := ∃ g cap, e = .returned (.slice (some ⟨g, 0, none⟩) (A ++ C).length cap) ∧ HasSpans w' g (A ++ C) ∧ (∀ j, w'.frozen? ⟨g, j, none⟩ = false) ∧ w.heap.size ≤ g ∧ g < w'.heap.size ∧ Below w.heap.size w w'
/-- grown from nothing: a row of the call's own, nothing of it in use -/
def GrowPost (base : Nat) (w : World) (e : Ending) (w' : World) : Prop := ∃ v, e = .returned v ∧ w'.ownsRow base 93 2 v 0 [] ∧ Below w.heap.size w w'
theorem grow_any (n : Nat) (hn : 0 < n) (h18 : n ≤ 1000) (base : Nat) (w : World) (hb : base ≤ w.heap.size) :
    Calls Tryz.prog 69 #[.slice none 0 0, .int .i64 n] w (GrowPost base w) := by
  obtain ⟨i0, hi0, hz0, hz1, hz2⟩ := info_parts Tryz.infoSpan
  have cG := Any8.slices_Grow_grow growSpan i0 _ hi0 hz0 (by omega) none 0 0 n [] w (Nat.le_refl _) (by omega) (by rw [hz2]; omega) (by omega) (by simp) (fun _ => rfl) (by intro a h; cases h)
  refine Calls.mono (P := Tryz.prog) (f := 69) cG ?_
  rintro e w' ⟨rfl, rfl⟩
  have hge := grownCap_ge w (0 + n) 0 93
  have hle := grownCap_le_maxLen w (0 + n) 0 93 (by unfold maxLen; omega)
  have hA := At.new w.drew (#[] ++ Builtin.zeroCells (Value.agg #[Value.int IntKind.i64 0, Value.int IntKind.i64 0]).cells (0 + n - 0) ++ Builtin.zeroCells (Value.agg #[Value.int IntKind.i64 0, Value.int IntKind.i64 0]).cells (grownCap w (0 + n) 0 93 - (0 + n))) 93
  have zc : (Value.agg #[Value.int IntKind.i64 0, Value.int IntKind.i64 0]).cells.size = 2 := rfl
  have hsz : (#[] ++ Builtin.zeroCells (Value.agg #[Value.int IntKind.i64 0, Value.int IntKind.i64 0]).cells (0 + n - 0) ++ Builtin.zeroCells (Value.agg #[Value.int IntKind.i64 0, Value.int IntKind.i64 0]).cells (grownCap w (0 + n) 0 93 - (0 + n))).size = grownCap w (0 + n) 0 93 * 2 := by
    simp only [Array.size_append, size_zeroCells, zc, List.size_toArray, List.length_nil]
    omega
  exact ⟨_, rfl, ⟨rfl, Or.inr ⟨w.heap.size, grownCap w (0 + n) 0 93, _, rfl, hb, hA, Nat.zero_le _, hle, hsz, by simp⟩⟩, ((Below.refl _ _).drew).alloc (Nat.le_refl _) _⟩
def RelCo (A C : Spans) (w : World) (v vi : Value) (wr : World) : Prop := ∃ i : Nat, i ≤ 2 ∧ vi = .int .i64 i ∧ (∃ L : Spans, L = (if i = 0 then [] else if i = 1 then A else A ++ C) ∧ wr.ownsRow w.heap.size 93 2 v L.length (spansC L)) ∧ Below w.heap.size w wr
def szOf (a c i : Nat) : Nat := if i = 0 then 0 else if i = 1 then a else a + c
def RelSz (a c : Nat) (vs vi : Value) : Prop := ∃ i : Nat, i ≤ 2 ∧ vi = .int .i64 i ∧ vs = .int .i64 (szOf a c i)
set_option maxRecDepth 100000 in
set_option maxHeartbeats 1600000 in
theorem concat_any (A C : Spans) (sb c2 ga gc capA capC : Nat) (w : World) (hA : HasSpans w ga A) (hC : HasSpans w gc C) (h0 : 0 < A.length) (h1 : 0 < C.length) (h2 : A.length ≤ 9) (h3 : C.length ≤ 9)
    (q0 : w.cell? ⟨sb, 0, none⟩ = some (.slice (some ⟨ga, 0, none⟩) A.length capA)) (q1 : w.cell? ⟨sb, 1, none⟩ = some (.slice (some ⟨gc, 0, none⟩) C.length capC)) :
    Calls Tryz.prog 55 #[.slice (some ⟨sb, 0, none⟩) 2 c2] w (ConcatPost A C w) := by
  obtain ⟨a, ha⟩ : ∃ a, a = A.length := ⟨_, rfl⟩
  obtain ⟨c, hc⟩ : ∃ c, c = C.length := ⟨_, rfl⟩
  rw [← ha] at q0 h0 h2
  rw [← hc] at q1 h1 h3
  have EA := Lib.hid ha
  have EC := Lib.hid hc
  clear ha hc
  go_enter Tryz.func55, Tryz.ntmps55
  go_wp2_with fail
  go_loop [3, 11] (fun vs vi => RelSz a c vs vi) (fun _ vi => 2 - (intOf vi).toNat)
  case atStart => exact ⟨0, by omega, rfl, rfl⟩
  case round =>
    obtain ⟨i, hi, rfl, rfl⟩ := hrel
    rcases (by omega : i = 0 ∨ i = 1 ∨ i = 2) with rfl | rfl | rfl
    · have e0 : szOf a c 0 = 0 := rfl
      rw [e0]
      go_wp2_with fail
      go_round
      case rel => exact ⟨1, by omega, rfl, by simp [szOf]⟩
      case measure => simp [intOf]
    · have e1 : szOf a c 1 = a := rfl
      rw [e1]
      go_wp2_with fail
      go_round
      case rel => exact ⟨2, by omega, rfl, by simp [szOf]⟩
      case measure => simp [intOf]
    · have e2 : szOf a c 2 = a + c := rfl
      rw [e2]
      have cG := fun w' (h : w.heap.size ≤ w'.heap.size) => grow_any (a + c) (by omega) (by omega) w.heap.size w' h
      go_wp2_with fail
      refine (cG _ (Nat.le_refl _)).mono ?_
      rintro e w2 ⟨v0, rfl, hown0, hb0⟩
      clear cG e2
      go_wp2_with fail
      go_loopw [6, 27] (fun v vi wr => RelCo A C w v vi wr) (fun _ vi _ => 2 - (intOf vi).toNat)
      case atStart => exact ⟨0, by omega, rfl, ⟨[], rfl, by simpa [spansC] using hown0⟩, hb0⟩
      case round =>
        obtain ⟨i, hi, rfl, ⟨L, hL, hown⟩, hbE⟩ := hrel
        have hbs := hbE.size
        rcases (by omega : i = 0 ∨ i = 1 ∨ i = 2) with rfl | rfl | rfl
        · have r0 : wr.cell? ⟨sb, 0, none⟩ = some (.slice (some ⟨ga, 0, none⟩) a capA) := cell_below q0 hbE
          obtain ⟨i0, hi0, hz0, hz1, hz2⟩ := info_parts Tryz.infoSpan
          have hcA := spans_add (hA.below hbE)
          simp only [if_true, Nat.one_ne_zero, if_false] at hL
          rw [hL] at hown
          clear hL
          clear q0 q1 hb0 hown0
          go_wp2_with ((at_builtin; refine wpList_append_own _ rfl _ _ 82 rfl w.heap.size 93 i0 _ 2 16 Tryz.underlying82 hi0 hz0 hz1 hz2 rfl (by decide) _ 0 [] rfl hown ⟨ga, 0, none⟩ a capA (spansC A) rfl (by rw [spansC_length]; have := EA.out; omega) hcA (spansC_one A) (by unfold maxLen; have := EA.out; have := EC.out; omega) (by have := EA.out; have := EC.out; omega) hbs ?_))
          intro v3 w3 hown3 hgrow _
          have hbF := hbE.grown hgrow hbs (fun i hi => own_ge hown hi)
          have hown4 : w3.ownsRow w.heap.size 93 2 v3 (A).length (spansC (A)) := by
            have e1 := EA.out
            have e2 := EC.out
            simpa [spansC_append, e1, e2, spansC] using hown3
          clear hown3 hgrow hown hbE hbs hcA r0 hi0 hz0 hz1 hz2
          go_wp2_with fail
          go_roundw
          case rel => exact ⟨1, by omega, rfl, ⟨_, by simp, hown4⟩, hbF⟩
          case measure => simp [intOf]
        · have r0 : wr.cell? ⟨sb, 1, none⟩ = some (.slice (some ⟨gc, 0, none⟩) c capC) := cell_below q1 hbE
          obtain ⟨i0, hi0, hz0, hz1, hz2⟩ := info_parts Tryz.infoSpan
          have hcA := spans_add (hC.below hbE)
          simp only [if_true, Nat.one_ne_zero, if_false] at hL
          rw [hL] at hown
          clear hL
          clear q0 q1 hb0 hown0
          go_wp2_with ((at_builtin; refine wpList_append_own _ rfl _ _ 82 rfl w.heap.size 93 i0 _ 2 16 Tryz.underlying82 hi0 hz0 hz1 hz2 rfl (by decide) _ A.length (spansC A) rfl hown ⟨gc, 0, none⟩ c capC (spansC C) rfl (by rw [spansC_length]; have := EC.out; omega) hcA (spansC_one C) (by unfold maxLen; have := EA.out; have := EC.out; omega) (by have := EA.out; have := EC.out; omega) hbs ?_))
          intro v3 w3 hown3 hgrow _
          have hbF := hbE.grown hgrow hbs (fun i hi => own_ge hown hi)
          have hown4 : w3.ownsRow w.heap.size 93 2 v3 (A ++ C).length (spansC (A ++ C)) := by
            have e1 := EA.out
            have e2 := EC.out
            simpa [spansC_append, e1, e2, spansC] using hown3
          clear hown3 hgrow hown hbE hbs hcA r0 hi0 hz0 hz1 hz2
          go_wp2_with fail
          go_roundw
          case rel => exact ⟨2, by omega, rfl, ⟨_, by simp, hown4⟩, hbF⟩
          case measure => simp [intOf]
        · have e : L = A ++ C := by simpa using hL
          subst e
          clear hL q0 q1 hown0 hb0
          have hlen : 0 < (A ++ C).length := by have := EA.out; simp; omega
          obtain ⟨g, cap, rfl, hH, hf, hge, hlt⟩ := own_spans hown hlen
          have fin : ConcatPost A C w (.returned (.slice (some ⟨g, 0, none⟩) (A ++ C).length cap)) wr := ⟨g, cap, rfl, hH, hf, hge, hlt, hbE⟩
          clear hown hH hf hge hlt hlen hbE hbs
          go_wp2_with fail
          go_ret
          exact fin
end Go.Proofs.YtpoaieoldccmiaaGreat
