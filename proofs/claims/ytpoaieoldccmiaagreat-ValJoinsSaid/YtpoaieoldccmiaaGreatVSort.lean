/- Package val: slices.SortFunc of spans, by their lows, by the library's own contract. -/
import Derived.Test.YtpoaieoldccmiaaGreatVSortL
import Derived.Test.YtpoaieoldccmiaaGreatVNarrow
namespace Go.Proofs.YtpoaieoldccmiaaGreat
open Go.ChangeShapes Go.WideShapes Go.ChangeAt Go.RowKit Go.Joins Go.Deep Go.Sort
set_option linter.unusedVariables false

theorem nan_int (x : Int) (w : World) : Calls Tryz.prog 71 #[.int .i64 x] w fun e w' => e = .returned (.bool false) ∧ w = w' := by
  go_enter Tryz.func71, Tryz.ntmps71
  go_wp2
  go_ret
  simp
theorem cmp_int (x y : Int) (w : World) : Calls Tryz.prog 58 #[.int .i64 x, .int .i64 y] w fun e w' => e = .returned (.int .i64 (Lib.compareInt x y)) ∧ w = w' := by
  unfold Lib.compareInt
  by_cases h1 : x < y
  · rw [if_pos h1]
    go_enter Tryz.func58, Tryz.ntmps58
    go_wp2_with ((go_at_call 71; refine (nan_int _ _).mono ?_; rintro e w' ⟨rfl, rfl⟩))
    go_ret
    exact ⟨rfl, rfl⟩
  · have d1 : decide (x < y) = false := by simpa using h1
    rw [if_neg h1]
    by_cases h2 : x > y
    · rw [if_pos h2]
      go_enter Tryz.func58, Tryz.ntmps58
      go_wp2_with ((go_at_call 71; refine (nan_int _ _).mono ?_; rintro e w' ⟨rfl, rfl⟩))
      go_ret
      exact ⟨rfl, rfl⟩
    · have d2 : decide (y < x) = false := by simpa using h2
      rw [if_neg h2]
      go_enter Tryz.func58, Tryz.ntmps58
      go_wp2_with ((go_at_call 71; refine (nan_int _ _).mono ?_; rintro e w' ⟨rfl, rfl⟩))
      go_ret
      exact ⟨rfl, rfl⟩
/-- a span's two cells -/
def encS (x : Nat × Nat) : List Value := [.int .i64 x.1, .int .i64 x.2]
def cmpS (x y : Nat × Nat) : Int := Lib.compareInt x.1 y.1
set_option maxHeartbeats 1000000 in
theorem cmp_span (x y : Nat × Nat) (W : World) : Calls Tryz.prog 57 #[.agg #[.int .i64 x.1, .int .i64 x.2], .agg #[.int .i64 y.1, .int .i64 y.2]] W fun e w' => e = .returned (.int .i64 (cmpS x y)) ∧ ∃ q os', w' = grow (W.drewN q) os' := by
  have hcon := fun W' => cmp_int x.1 y.1 W'
  unfold cmpS
  generalize Lib.compareInt x.1 y.1 = r at hcon ⊢
  go_enter Tryz.func57, Tryz.ntmps57
  go_wp2_with (go_at_call 58; refine (hcon _).mono ?_; rintro e w' ⟨rfl, rfl⟩)
  go_ret
  exact ⟨rfl, 0, _, by rw [alloc_eq_grow, alloc_eq_grow, grow_grow]; rfl⟩
theorem cmp_lays (blk off size : Nat) (w : World) : CmpLays Tryz.prog 57 #[] encS 2 cmpS blk off size w :=
  fun _ _ _ _ x y => cmp_span x y _
theorem len_lays (n : Nat) (W : World) (h : n ≤ 12) : Calls Tryz.prog 68 #[.int .u64 n] W fun e w' => (∃ l : Int, e = .returned (.int .i64 l)) ∧ w' = W :=
  (Len_any n (by omega) W).mono fun _ _ ⟨he, hw⟩ => ⟨⟨_, he⟩, hw.symm⟩
theorem lt_iff (x y : Nat × Nat) : ltOf cmpS x y = decide (x.1 < y.1) := by
  unfold ltOf cmpS Lib.compareInt
  by_cases h1 : (x.1 : Int) < y.1
  · rw [if_pos h1]; simp; omega
  · rw [if_neg h1]
    by_cases h2 : (x.1 : Int) > y.1
    · rw [if_pos h2]; simp; omega
    · rw [if_neg h2]; simp; omega
theorem lt_swo : SWO (ltOf cmpS) := ⟨fun x => by rw [lt_iff]; simp, fun x y z => by rw [lt_iff, lt_iff, lt_iff]; simp; omega, fun x y z => by rw [lt_iff, lt_iff, lt_iff]; simp; omega⟩
theorem spans_holdsK {w : World} {g : Nat} {L : Spans} (h : HasSpans w g L) (hf : ∀ j, w.frozen? ⟨g, j, none⟩ = false) : HoldsK encS 2 w g 0 L.toArray := by
  intro j hj
  rw [size_flatK] at hj
  have hj2 : j / 2 < L.length := by simp at hj; omega
  obtain ⟨h1, h2⟩ := h (j / 2) hj2
  refine ⟨?_, by rw [Nat.zero_add]; exact hf j⟩
  rw [get_flatK encS 2 _ j (by simpa using hj), Nat.zero_add]
  have e : (L.toArray)[j / 2]! = L[j / 2] := by simp [hj2]
  rw [e]
  rcases (by omega : j % 2 = 0 ∨ j % 2 = 1) with h0 | h0
  · rw [show j / 2 * 2 = j by omega] at h1
    rw [h0]
    simpa [encS] using h1
  · rw [show j / 2 * 2 + 1 = j by omega] at h2
    rw [h0]
    simpa [encS] using h2
theorem holdsK_spans {w : World} {g : Nat} {d : Array (Nat × Nat)} (h : HoldsK encS 2 w g 0 d) : HasSpans w g d.toList := by
  intro i hi
  have hi' : i < d.size := by simpa using hi
  have e : d[i]! = d.toList[i] := by simp [hi']
  have a := (h (i * 2) (by rw [size_flatK]; omega)).1
  have b := (h (i * 2 + 1) (by rw [size_flatK]; omega)).1
  rw [get_flatK encS 2 d (i * 2) (by omega), Nat.zero_add] at a
  rw [get_flatK encS 2 d (i * 2 + 1) (by omega), Nat.zero_add] at b
  rw [show i * 2 / 2 = i by omega, show i * 2 % 2 = 0 by omega, e] at a
  rw [show (i * 2 + 1) / 2 = i by omega, show (i * 2 + 1) % 2 = 1 by omega, e] at b
  exact ⟨by simpa [encS] using a, by simpa [encS] using b⟩
/-- sorted by their lows -/
def SortPost (g : Nat) (L : Spans) (w : World) (e : Ending) (w' : World) : Prop := ∃ S : Spans, S.Perm L ∧ S.Pairwise (fun a c => a.1 ≤ c.1) ∧ e = .returned (.tuple #[]) ∧ HasSpans w' g S ∧ Keeps g w w'
theorem keeps_sort (w : World) (g n : Nat) (d : Array (Nat × Nat)) (os : Array Obj) : Keeps g w (sortWorldK encS 2 w g 0 n d os) := by
  refine ⟨rfl, rfl, rfl, ?_, fun j hj hn => ?_⟩
  · show w.heap.size ≤ ((w.heap.modify g _) ++ os).size
    simp
  · show ((w.heap.modify g _) ++ os)[j]? = w.heap[j]?
    rw [Array.getElem?_append_left (by simpa using hj), Array.getElem?_modify]
    simp [Ne.symm hn]
theorem sort_spans (g cap : Nat) (L : Spans) (w : World) (h : HasSpans w g L) (hf : ∀ j, w.frozen? ⟨g, j, none⟩ = false) (hg : g < w.heap.size) (h12 : L.length ≤ 12) :
    Calls Tryz.prog 56 #[.slice (some ⟨g, 0, none⟩) L.length cap, .func (.func 57) #[] #[]] w (SortPost g L w) := by
  have eg : ∀ args w, (callFunc 57 args).run Tryz.prog w = .ok (.enter 57 args) w := enters_of Tryz.func57 (by kernel_rfl) rfl
  have hcon := AnyQ.slices_SortFunc_small_sorted sortSpan 2 Tryz.isAgg93 Tryz.sizeOf93 encS (fun _ => rfl) (fun x v hv => by simp [encS] at hv; rcases hv with rfl | rfl <;> rfl) cmpS 57 #[] lt_swo g 0 cap L.toArray w eg (cmp_lays g 0 _ w) (spans_holdsK h hf) hg (by simpa using h12) len_lays
  refine Calls.mono (P := Tryz.prog) (f := 56) hcon ?_
  rintro e w' ⟨rfl, d', n, os, hp, hs, rfl⟩
  obtain ⟨hsz, _, hperm⟩ := hp
  have hsz' : d'.size = L.length := by simpa using hsz
  refine ⟨d'.toList, ?_, ?_, rfl, ?_, keeps_sort w g n d' os⟩
  · have e1 : (d'.extract 0 L.toArray.size).toList = d'.toList := by simp [← hsz']
    have e2 : (L.toArray.extract 0 L.toArray.size).toList = L := by simp
    rw [e1, e2] at hperm
    exact hperm
  · rw [List.pairwise_iff_getElem]
    intro i j hi hj hij
    have hi' : i < d'.size := by simpa using hi
    have hj' : j < d'.size := by simpa using hj
    have := hs i j (Nat.zero_le _) hij (by rw [List.size_toArray, ← hsz']; exact hj')
    rw [lt_iff, decide_eq_false_iff_not] at this
    have ei : d'[i]! = d'.toList[i] := by simp [hi']
    have ej : d'[j]! = d'.toList[j] := by simp [hj']
    rw [ei, ej] at this
    omega
  · have hk := holdsK_putRowK (enc := encS) (k := 2) (Sort.ahead w n) g 0 L.toArray d' (spans_holdsK (w := Sort.ahead w n) h hf) hsz
    have hk2 := holdsK_spans hk
    intro i hi
    obtain ⟨a, b⟩ := hk2 i hi
    have hgs : g < (putRowK encS 2 (Sort.ahead w n) g 0 d').heap.size := by show g < (w.heap.modify g _).size; simpa using hg
    exact ⟨(cell?_grow _ _ _ hgs).trans a, (cell?_grow _ _ _ hgs).trans b⟩
end Go.Proofs.YtpoaieoldccmiaaGreat
