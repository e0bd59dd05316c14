/- A set's layout: spans trimmed, their members counted. Plain mathematics. -/
import Derived.Test.YtblahbmhbfcggaaGreatDoorVTrim
import Derived.Test.YtblahbmhbfcggaaGreatDoorVRankM
import Derived.Test.YtblahbmhbfcggaaGreatDoorVSync
namespace Go.Proofs.YtblahbmhbfcggaaGreatDoor

abbrev Spans := List (Nat × Nat)
def InSpans (S : Spans) (z : Nat) : Prop := ∃ s ∈ S, s.1 ≤ z ∧ z ≤ s.2
def Rising (S : Spans) : Prop := S.Pairwise (fun a c => a.2 < c.1)
def sumR (f : Nat) (L : Spans) : Int := (L.map fun t => (cmpr f t.2 : Int) - cmpr f t.1 + 1).sum

/-- what is laid out of spans S: the spans L of what fits -/
structure Laid (k f b : Nat) (S L : Spans) : Prop where
  ends : ∀ t ∈ L, t.1 ≤ t.2 ∧ t.2 < 2 ^ k ∧ Fits f b t.1 ∧ Fits f b t.2
  same : ∀ z, z < 2 ^ k → Fits f b z → (InSpans S z ↔ InSpans L z)
  inS : ∀ t ∈ L, ∃ s ∈ S, s.1 ≤ t.1 ∧ t.2 ≤ s.2
  rise : Rising S → Rising L
  short : L.length ≤ S.length

theorem Laid.nil (k f b : Nat) : Laid k f b [] [] := ⟨by simp, fun z _ _ => Iff.rfl, by simp, fun h => h, Nat.le_refl _⟩
theorem inSpans_snoc {S : Spans} {s : Nat × Nat} {z : Nat} : InSpans (S ++ [s]) z ↔ InSpans S z ∨ (s.1 ≤ z ∧ z ≤ s.2) := by
  unfold InSpans
  constructor
  · rintro ⟨t, ht, h⟩
    rcases List.mem_append.1 ht with h' | h'
    · exact Or.inl ⟨t, h', h⟩
    · rw [List.mem_singleton] at h'
      subst h'
      exact Or.inr h
  · rintro (⟨t, ht, h⟩ | h)
    · exact ⟨t, List.mem_append.2 (Or.inl ht), h⟩
    · exact ⟨s, List.mem_append.2 (Or.inr (by simp)), h⟩
theorem Laid.none {k f b : Nat} {S L : Spans} {s : Nat × Nat} (h : Laid k f b S L) (hn : ∀ z, z < 2 ^ k → s.1 ≤ z → z ≤ s.2 → ¬ Fits f b z) : Laid k f b (S ++ [s]) L := by
  refine ⟨h.ends, fun z hz hf => ?_, fun t ht => ?_, fun hr => h.rise ?_, by rw [List.length_append]; have := h.short; omega⟩
  · rw [inSpans_snoc, h.same z hz hf]
    exact ⟨fun h' => h'.elim id (fun h' => absurd hf (hn z hz h'.1 h'.2)), Or.inl⟩
  · obtain ⟨s', hs', h'⟩ := h.inS t ht
    exact ⟨s', List.mem_append.2 (Or.inl hs'), h'⟩
  · exact (List.pairwise_append.1 hr).1
theorem Laid.some {k f b : Nat} {S L : Spans} {s : Nat × Nat} {x y : Nat} (h : Laid k f b S L) (ht : Trims k f b s.1 s.2 x y) : Laid k f b (S ++ [s]) (L ++ [(x, y)]) := by
  refine ⟨fun t h' => ?_, fun z hz hf => ?_, fun t h' => ?_, fun hr => ?_, by rw [List.length_append, List.length_append]; have := h.short; simp; omega⟩
  · rcases List.mem_append.1 h' with h' | h'
    · exact h.ends t h'
    · rw [List.mem_singleton] at h'
      subst h'
      exact ⟨ht.le, ht.lt, ht.fx, ht.fy⟩
  · rw [inSpans_snoc, inSpans_snoc, h.same z hz hf]
    constructor
    · rintro (h' | h')
      · exact Or.inl h'
      · exact Or.inr (ht.all z hz h'.1 h'.2 hf)
    · rintro (h' | h')
      · exact Or.inl h'
      · exact Or.inr ⟨Nat.le_trans ht.lo h'.1, Nat.le_trans h'.2 ht.hi⟩
  · rcases List.mem_append.1 h' with h' | h'
    · obtain ⟨s', hs', h''⟩ := h.inS t h'
      exact ⟨s', List.mem_append.2 (Or.inl hs'), h''⟩
    · rw [List.mem_singleton] at h'
      subst h'
      exact ⟨s, List.mem_append.2 (Or.inr (by simp)), ht.lo, ht.hi⟩
  · unfold Rising at hr ⊢
    rw [List.pairwise_append] at hr ⊢
    refine ⟨h.rise hr.1, by simp, fun t h' u hu => ?_⟩
    rw [List.mem_singleton] at hu
    subst hu
    obtain ⟨s', hs', h1, h2⟩ := h.inS t h'
    have h3 := hr.2.2 s' hs' s (by simp)
    have := ht.lo
    show t.2 < x
    omega
theorem sumR_snoc (f : Nat) (L : Spans) (x y : Nat) : sumR f (L ++ [(x, y)]) = sumR f L + ((cmpr f y : Int) - cmpr f x + 1) := by
  unfold sumR; rw [List.map_append, List.sum_append]; simp
theorem cmpr_lt (f n : Nat) : cmpr f n < 4294967296 := cmpF_lt 32 f n
theorem sumR_bound (f : Nat) (L : Spans) : -((L.length : Int) * 4294967296) ≤ sumR f L ∧ sumR f L ≤ (L.length : Int) * 4294967296 := by
  induction L with
  | nil => simp [sumR]
  | cons t L ih =>
    have h1 := cmpr_lt f t.1
    have h2 := cmpr_lt f t.2
    have e : sumR f (t :: L) = ((cmpr f t.2 : Int) - cmpr f t.1 + 1) + sumR f L := by unfold sumR; simp
    rw [e, List.length_cons]
    omega
end Go.Proofs.YtblahbmhbfcggaaGreatDoor

/- Package val: a layout in memory; narrow. -/
namespace Go.Proofs.YtblahbmhbfcggaaGreatDoor
open Go.ChangeShapes Go.WideShapes Go.ChangeAt Go.RowKit Go.Joins Go.Deep
set_option linter.unusedVariables false

/-- one block alone may have turned -/
structure Keeps (bl : Nat) (w w' : World) : Prop where
  os : w'.os = w.os
  tape : w'.tape = w.tape
  output : w'.output = w.output
  size : w.heap.size ≤ w'.heap.size
  block : ∀ j, j < w.heap.size → j ≠ bl → w'.heap[j]? = w.heap[j]?
theorem Keeps.refl (bl : Nat) (w : World) : Keeps bl w w := ⟨rfl, rfl, rfl, Nat.le_refl _, fun _ _ _ => rfl⟩
theorem Keeps.trans {bl : Nat} {a b c : World} (h : Keeps bl a b) (g : Keeps bl b c) : Keeps bl a c :=
  ⟨g.os.trans h.os, g.tape.trans h.tape, g.output.trans h.output, Nat.le_trans h.size g.size, fun j hj hn => (g.block j (by have := h.size; omega) hn).trans (h.block j hj hn)⟩
theorem Keeps.of_below {bl : Nat} {w w' : World} (h : Below w.heap.size w w') : Keeps bl w w' := ⟨h.os, h.tape, h.output, h.size, fun j hj _ => h.block j hj⟩
theorem Keeps.below {bl B : Nat} {w w' : World} (h : Keeps bl w w') (hB : B ≤ bl) (hs : B ≤ w.heap.size) : Below B w w' :=
  ⟨h.os, h.tape, h.output, h.size, fun j hj => h.block j (by omega) (by omega)⟩
theorem setCell_size (w : World) (p : Addr) (v : Value) : (w.setCell p v).heap.size = w.heap.size := by simp
theorem Keeps.setCell {bl : Nat} {a w : World} (h : Keeps bl a w) (j : Nat) (v : Value) : Keeps bl a (w.setCell ⟨bl, j, none⟩ v) :=
  ⟨h.os, h.tape, h.output, by rw [setCell_size]; exact h.size, fun i hi hn => (Below.heap_setCell w ⟨bl, j, none⟩ v i hn).trans (h.block i hi hn)⟩
theorem Keeps.drew {bl : Nat} {a w : World} (h : Keeps bl a w) : Keeps bl a w.drew := ⟨h.os, h.tape, h.output, h.size, h.block⟩
theorem Keeps.drewN {bl : Nat} {a w : World} (h : Keeps bl a w) (n : Nat) : Keeps bl a (w.drewN n) := h.trans (Keeps.of_below (Joins.below_draws _ _ _))
theorem At.keeps {bl b : Nat} {w w' : World} {cs : Array Value} {t : TypeId} (h : At w b cs t) (hk : Keeps bl w w') (hn : b ≠ bl) : At w' b cs t := (hk.block b h.lt hn).trans h

def spansC (L : Spans) : List Value := L.flatMap fun t => [.int .i64 t.1, .int .i64 t.2]
theorem spansC_length (L : Spans) : (spansC L).length = 2 * L.length := by
  induction L with
  | nil => rfl
  | cons x r ih => simp only [spansC, List.flatMap_cons, List.length_append, List.length_cons, List.length_nil] at ih ⊢; omega
theorem spansC_get (L : Spans) (i : Nat) (h : i < L.length) : (spansC L)[2 * i]? = some (.int .i64 (L[i].1 : Nat)) ∧ (spansC L)[2 * i + 1]? = some (.int .i64 (L[i].2 : Nat)) := by
  induction L generalizing i with
  | nil => exact absurd h (by simp)
  | cons x r ih =>
    cases i with
    | zero => exact ⟨rfl, rfl⟩
    | succ i =>
      have := ih i (by simpa using h)
      rw [show 2 * (i + 1) = (2 * i) + 1 + 1 by omega]
      exact this
theorem spansC_snoc (L : Spans) (x y : Nat) : spansC (L ++ [(x, y)]) = spansC L ++ [.int .i64 x, .int .i64 y] := by
  unfold spansC; rw [List.flatMap_append]; rfl
/-- the spans' cells, in a block g from its first on -/
def HasSpans (w : World) (g : Nat) (L : Spans) : Prop := ∀ i (h : i < L.length), w.cell? ⟨g, i * 2, none⟩ = some (.int .i64 (L[i].1 : Nat)) ∧ w.cell? ⟨g, i * 2 + 1, none⟩ = some (.int .i64 (L[i].2 : Nat))
theorem HasSpans.keeps {bl g : Nat} {w w' : World} {L : Spans} (h : HasSpans w g L) (hk : Keeps bl w w') (hn : g ≠ bl) : HasSpans w' g L := by
  intro i hi
  obtain ⟨h1, h2⟩ := h i hi
  have hlt := World.block_lt_of_cell? w _ h1
  have hb := hk.block g hlt hn
  exact ⟨(World.cell?_of_block (w := w) hb).trans h1, (World.cell?_of_block (w := w) hb).trans h2⟩
theorem HasSpans.below {g : Nat} {w w' : World} {L : Spans} (h : HasSpans w g L) (hb : Below w.heap.size w w') : HasSpans w' g L := fun i hi => ⟨cell_below (h i hi).1 hb, cell_below (h i hi).2 hb⟩
/-- a slice of spans -/
def SpansV (w : World) (lo bl : Nat) (sl : Value) (L : Spans) : Prop :=
  (L = [] ∧ sl = .slice none 0 0) ∨ (0 < L.length ∧ ∃ g cap, sl = .slice (some ⟨g, 0, none⟩) L.length cap ∧ (g ≠ bl ∧ lo ≤ g) ∧ HasSpans w g L)
theorem SpansV.below {lo bl : Nat} {w w' : World} {sl : Value} {L : Spans} (h : SpansV w lo bl sl L) (hb : Below w.heap.size w w') : SpansV w' lo bl sl L := by
  rcases h with h | ⟨h0, g, cap, h1, h2, h3⟩
  · exact Or.inl h
  · exact Or.inr ⟨h0, g, cap, h1, h2, h3.below hb⟩
theorem SpansV.keeps {lo bl : Nat} {w w' : World} {sl : Value} {L : Spans} (h : SpansV w lo bl sl L) (hk : Keeps bl w w') : SpansV w' lo bl sl L := by
  rcases h with h | ⟨h0, g, cap, h1, h2, h3⟩
  · exact Or.inl h
  · exact Or.inr ⟨h0, g, cap, h1, h2, h3.keeps hk h2.1⟩
/-- a layout -/
def LayAt (w : World) (lo bl : Nat) (k f b : Nat) (L : Spans) (c : Int) : Prop := ∃ sl, At w bl (layC k f b sl c) 158 ∧ SpansV w lo bl sl L ∧ L.length ≤ 1000 ∧ lo ≤ bl
theorem LayAt.below {lo bl k f b : Nat} {L : Spans} {c : Int} {w w' : World} (h : LayAt w lo bl k f b L c) (hb : Below w.heap.size w w') : LayAt w' lo bl k f b L c := by
  obtain ⟨sl, h1, h2, h3⟩ := h
  exact ⟨sl, At.below' hb h1, h2.below hb, h3⟩

theorem LayAt.keepsOther {lo bl sb k f b : Nat} {L : Spans} {c : Int} {w w' : World} (h : LayAt w lo bl k f b L c) (hk : Keeps sb w w') (hs : sb < lo) : LayAt w' lo bl k f b L c := by
  obtain ⟨sl, h1, h2, h3, h4⟩ := h
  refine ⟨sl, h1.keeps hk (by omega), ?_, h3, h4⟩
  rcases h2 with h | ⟨h0, g, cap, h5, h6, h7⟩
  · exact Or.inl h
  · exact Or.inr ⟨h0, g, cap, h5, h6, h7.keeps hk (by omega)⟩
theorem LayAt.lower {lo lo' bl k f b : Nat} {L : Spans} {c : Int} {w : World} (h : LayAt w lo bl k f b L c) (hl : lo' ≤ lo) : LayAt w lo' bl k f b L c := by
  obtain ⟨sl, h1, h2, h3, h4⟩ := h
  refine ⟨sl, h1, ?_, h3, by omega⟩
  rcases h2 with h | ⟨h0, g, cap, h5, h6, h7⟩
  · exact Or.inl h
  · exact Or.inr ⟨h0, g, cap, h5, ⟨h6.1, by omega⟩, h7⟩
def KeepsPost (lo bl : Nat) (k f b : Nat) (L : Spans) (c : Int) (w : World) (e : Ending) (w' : World) : Prop := e = .returned (.tuple #[]) ∧ LayAt w' lo bl k f b L c ∧ Keeps bl w w'

set_option maxRecDepth 100000 in
set_option maxHeartbeats 800000 in
theorem narrow_none (lo bl k f b : Nat) (c : Int) (w : World) (h : LayAt w lo bl k f b [] c) :
    Calls Tryz.prog 186 #[.pointer (some ⟨bl, 0, none⟩)] w (KeepsPost lo bl k f b [] c w) := by
  have h' := h
  obtain ⟨sl, hA, ⟨_, rfl⟩ | ⟨h0, _⟩, hlen⟩ := h
  · have c3 : w.cell? ⟨bl, 3, none⟩ = some (.slice none 0 0) := hA.cell 3 rfl
    clear hA
    go_enter Tryz.func186, Tryz.ntmps186
    go_wp2
    first | go_end0 | (simp only [Exit.inBlock, Exit.then]; refine bodyPost_ret (results_none rfl _ _ _) rfl ?_) | refine bodyPost_ret (results_none rfl _ _ _) rfl ?_
    exact ⟨rfl, h', Keeps.refl _ _⟩
  · exact absurd h0 (by simp)
set_option maxRecDepth 100000 in
set_option maxHeartbeats 1600000 in
theorem narrow_w (bl k f b x y ln m fn bn g cap : Nat) (c : Int) (w : World) (hA : At w bl (layC k f b (.slice (some ⟨g, 0, none⟩) m cap) c) 158)
    (hm : 0 < m) (hm2 : m ≤ 1000) (hx : x < 4294967296) (hy : y < 4294967296) (hf : f < 4294967296) (hln : ln ≤ 32)
    (hcx : w.cell? ⟨g, 0, none⟩ = some (.int .i64 x)) (hcy : w.cell? ⟨g, (m - 1) * 2 + 1, none⟩ = some (.int .i64 y))
    (eln : blen (x ^^^ y) = ln) (efn : f &&& (2 ^ ln - 1) = fn) (ebn : nandn x fn = bn) (hg : g ≠ bl) :
    Calls Tryz.prog 186 #[.pointer (some ⟨bl, 0, none⟩)] w fun e w' => e = .returned (.tuple #[]) ∧ At w' bl (layC k fn bn (.slice (some ⟨g, 0, none⟩) m cap) c) 158 ∧ Keeps bl w w' := by
  have c1 : w.cell? ⟨bl, 1, none⟩ = some (.int .i64 f) := hA.cell 1 rfl
  have c3 : w.cell? ⟨bl, 3, none⟩ = some (.slice (some ⟨g, 0, none⟩) m cap) := hA.cell 3 rfl
  have m1 : (0 : Int) < (m : Int) := by omega
  have m0 : ((m : Int) == 0) = false := by simp; omega
  have m2 : IntKind.i64.wrap ((m : Int) - 1) = ((m - 1 : Nat) : Int) := by rw [IntKind.wrap_i64]; omega
  have m3 : ((m - 1 : Nat) : Int) < (m : Int) := by omega
  have m4 : (0 : Int) ≤ ((m - 1 : Nat) : Int) := by omega
  go_enter Tryz.func186, Tryz.ntmps186
  go_wp2
  go_quiet (fail)
  clear m1 m0 m2 m3 m4 hcx hcy c3
  have c1' : (w.drewN nq).cell? ⟨bl, 1, none⟩ = some (.int .i64 f) := c1
  have f1' : (w.drewN nq).frozen? ⟨bl, 1, none⟩ = false := hA.free 1
  have hA' : At (w.drewN nq) bl (layC k f b (.slice (some ⟨g, 0, none⟩) m cap) c) 158 := hA
  have hK : Keeps bl w (w.drewN nq) := (Keeps.refl bl w).drewN nq
  generalize w.drewN nq = w1 at *
  clear c1 hA
  have cL := fun w => Len_any (x ^^^ y) (Nat.xor_lt_two_pow (n := 32) hx hy) w
  have e0 := bits_xor (x := x) (y := y) (by omega) (by omega)
  have hxy : x ^^^ y < 4294967296 := Nat.xor_lt_two_pow (n := 32) hx hy
  rw [eln] at cL
  have e1 := one_shl ln (by omega)
  have e2 := one_pred ln (by omega)
  have hl2 : 2 ^ ln ≤ 2 ^ 32 := Nat.pow_le_pow_right (by decide) hln
  have e3 := bits_and (x := f) (y := 2 ^ ln - 1) (by omega) (by omega)
  rw [efn] at e3
  obtain ⟨q, hq⟩ : ∃ q, q = 2 ^ ln - 1 := ⟨_, rfl⟩
  have e4 : wrap64 (wrap64 (2 ^ ln) - 1) = (q : Nat) := by rw [e1, hq]; simpa using e2
  rw [← hq] at e3
  have eu : IntKind.u64.wrap ((x ^^^ y : Nat) : Int) = ((x ^^^ y : Nat) : Int) := by rw [IntKind.wrap_u64]; omega
  have e5 : IntKind.i64.wrap (IntKind.i64.wrap (2 ^ ln) - 1) = (q : Nat) := by simpa only [wrap64, IntKind.wrap_i64] using e4
  clear e1 e2 hl2 efn eln hq
  go_wp2_with fail
  go_region_with ((go_at_call 164; (with_reducible refine (cL _).mono ?_); rintro e w' ⟨rfl, rfl⟩))
  all_goals
    have hA2 := (hA'.set 1 (.int .i64 fn) (by simp [layC])).drew
    have hK2 := (hK.setCell 1 (.int .i64 fn)).drew
    generalize (w1.setCell ⟨bl, 1, none⟩ (.int .i64 fn)).drew = w2 at hA2 hK2 ⊢
    have q1 : w2.cell? ⟨bl, 1, none⟩ = some (.int .i64 fn) := hA2.cell 1 rfl
    have q2 : w2.cell? ⟨bl, 2, none⟩ = some (.int .i64 b) := hA2.cell 2 rfl
    have g2 := hA2.free 2
    have e6 := bits_andNot (x := x) (y := fn) (by omega)
    rw [ebn] at e6
    clear c1' f1' hA' hK e0 hxy cL e3 e4 e5 eu ebn
    go_wp2_with fail
    first | go_end0 | (simp only [Exit.inBlock, Exit.then]; refine bodyPost_ret (results_none rfl _ _ _) rfl ?_) | refine bodyPost_ret (results_none rfl _ _ _) rfl ?_
    exact ⟨rfl, hA2.set 2 (.int .i64 bn) (by simp [layC]), hK2.setCell 2 _⟩
/-- the pattern's free bits, and its bits, behind narrow -/
def narF (f : Nat) (L : Spans) : Nat := match L.head?, L.getLast? with
  | some s, some t => f &&& (2 ^ blen (s.1 ^^^ t.2) - 1)
  | _, _ => f
def narB (f b : Nat) (L : Spans) : Nat := match L.head?, L.getLast? with
  | some s, some t => nandn s.1 (f &&& (2 ^ blen (s.1 ^^^ t.2) - 1))
  | _, _ => b
theorem narrow_any (lo bl k f b : Nat) (L : Spans) (c : Int) (w : World) (hf : f < 4294967296) (hL : ∀ t ∈ L, t.1 < 4294967296 ∧ t.2 < 4294967296) (h : LayAt w lo bl k f b L c) :
    Calls Tryz.prog 186 #[.pointer (some ⟨bl, 0, none⟩)] w (KeepsPost lo bl k (narF f L) (narB f b L) L c w) := by
  by_cases h0 : L = []
  · subst h0
    exact narrow_none lo bl k f b c w h
  · obtain ⟨sl, hA, ⟨h1, _⟩ | ⟨hp, g, cap, rfl, hg, hS⟩, hlen⟩ := h
    · exact absurd h1 h0
    · have e1 : L.head? = some (L[0]'hp) := by cases L with
        | nil => exact absurd rfl h0
        | cons x r => rfl
      have e2 : L.getLast? = some (L[L.length - 1]'(by omega)) := by rw [List.getLast?_eq_getElem?, List.getElem?_eq_getElem (by omega)]
      have b1 := hL _ (List.getElem_mem (h := hp))
      have b2 := hL _ (List.getElem_mem (h := (by omega : L.length - 1 < L.length)))
      have s1 := (hS 0 hp).1
      have s2 := (hS (L.length - 1) (by omega)).2
      have hx := blen_le (x := (L[0]'hp).1 ^^^ (L[L.length - 1]'(by omega)).2) (k := 32) (by decide) (Nat.xor_lt_two_pow (n := 32) b1.1 b2.2)
      refine (narrow_w bl k f b (L[0]'hp).1 (L[L.length - 1]'(by omega)).2 _ L.length _ _ g cap c w hA hp hlen.1 b1.1 b2.2 hf hx (by simpa using s1) s2 rfl rfl rfl hg.1).mono ?_
      rintro e w' ⟨he, hA', hK⟩
      refine ⟨he, ?_, hK⟩
      unfold narF narB
      rw [e1, e2]
      exact ⟨_, hA', Or.inr ⟨hp, g, cap, rfl, hg, hS.keeps hK hg.1⟩, hlen⟩
end Go.Proofs.YtblahbmhbfcggaaGreatDoor
