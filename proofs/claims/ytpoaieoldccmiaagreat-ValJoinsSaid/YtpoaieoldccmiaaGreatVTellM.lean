/- What tell tells: one of a layout's arcs, or nothing. Plain mathematics. -/
import Derived.Test.YtpoaieoldccmiaaGreatVJoinL
namespace Go.Proofs.YtpoaieoldccmiaaGreat
open Go.ChangeShapes Go.WideShapes Go.ChangeAt Go.RowKit Go.Joins Go.Deep
set_option linter.unusedVariables false

/-- the best of the first i arcs: none of them fits, or one that fits -/
def TellSt (L : Spans) (F X : Nat) (Fit : Nat → Prop) (i : Nat) (m : Int) (no : Bool) (l h f b : Nat) : Prop :=
  (m = -1 ∧ no = true ∧ l = 0 ∧ h = 0 ∧ f = 0 ∧ b = 0 ∧ ∀ j, j < i → ¬ Fit j) ∨ (0 ≤ m ∧ m ≤ 1152921504606846976 ∧ ∃ j, j < i ∧ Fit j ∧ no = false ∧ l = arcL L j ∧ h = arcH L j ∧ f = F ∧ b = X)
theorem TellSt.start {L : Spans} {F X : Nat} {Fit : Nat → Prop} : TellSt L F X Fit 0 (-1) true 0 0 0 0 := Or.inl ⟨rfl, rfl, rfl, rfl, rfl, rfl, fun j hj => absurd hj (Nat.not_lt_zero j)⟩
theorem TellSt.take {L : Spans} {F X : Nat} {Fit : Nat → Prop} {i : Nat} {g : Int} (h0 : 0 ≤ g) (h1 : g ≤ 1152921504606846976) (hf : Fit i) : TellSt L F X Fit (i + 1) g false (arcL L i) (arcH L i) F X :=
  Or.inr ⟨h0, h1, i, by omega, hf, rfl, rfl, rfl, rfl, rfl⟩
theorem TellSt.skip {L : Spans} {F X : Nat} {Fit : Nat → Prop} {i : Nat} {m g : Int} {no : Bool} {l h f b : Nat} (hs : TellSt L F X Fit i m no l h f b) (h0 : 0 ≤ g) (hg : ¬ m < g) : TellSt L F X Fit (i + 1) m no l h f b := by
  rcases hs with ⟨rfl, _⟩ | ⟨h1, h2, j, hj, h3⟩
  · omega
  · exact Or.inr ⟨h1, h2, j, by omega, h3⟩
theorem TellSt.unfit {L : Spans} {F X : Nat} {Fit : Nat → Prop} {i : Nat} {m : Int} {no : Bool} {l h f b : Nat} (hs : TellSt L F X Fit i m no l h f b) (hf : ¬ Fit i) : TellSt L F X Fit (i + 1) m no l h f b := by
  rcases hs with ⟨h1, h2, h3, h4, h5, h6, h7⟩ | ⟨h1, h2, j, hj, h3⟩
  · refine Or.inl ⟨h1, h2, h3, h4, h5, h6, fun j hj => ?_⟩
    rcases Nat.lt_or_ge j i with h | h
    · exact h7 j h
    · have : j = i := by omega
      subst this; exact hf
  · exact Or.inr ⟨h1, h2, j, by omega, h3⟩
theorem TellSt.bound {L : Spans} {F X : Nat} {Fit : Nat → Prop} {i : Nat} {m : Int} {no : Bool} {l h f b : Nat} (hs : TellSt L F X Fit i m no l h f b) : -1 ≤ m ∧ m ≤ 1152921504606846976 := by
  rcases hs with ⟨rfl, _⟩ | ⟨h1, h2, _⟩ <;> omega
/-- what is told -/
def Told (L : Spans) (F X : Nat) (Fit : Nat → Prop) (no : Bool) (l h f b : Nat) : Prop :=
  (no = true ∧ l = 0 ∧ h = 0 ∧ f = 0 ∧ b = 0 ∧ ∀ j, j < L.length → ¬ Fit j) ∨ ∃ j, j < L.length ∧ Fit j ∧ no = false ∧ l = arcL L j ∧ h = arcH L j ∧ f = F ∧ b = X
theorem TellSt.told {L : Spans} {F X : Nat} {Fit : Nat → Prop} {m : Int} {no : Bool} {l h f b : Nat} (hs : TellSt L F X Fit L.length m no l h f b) : Told L F X Fit no l h f b := by
  rcases hs with ⟨_, h2, h3, h4, h5, h6, h7⟩ | ⟨_, _, j, hj, h3⟩
  · exact Or.inl ⟨h2, h3, h4, h5, h6, h7⟩
  · exact Or.inr ⟨j, hj, h3⟩
theorem none_ok {k : Nat} (hk : isWn k) : ValOk k true 0 0 0 0 := ⟨⟨hk, Nat.two_pow_pos k, Nat.two_pow_pos k, fun i h => by simp at h⟩, Nat.two_pow_pos k, Nat.two_pow_pos k⟩
/-- what is told is a set that may be -/
theorem Told.ok {k : Nat} {L : Spans} {F X : Nat} {c : Int} {Fit : Nat → Prop} {no : Bool} {l h f b : Nat} (g : GoodL k F X L c) (ht : Told L F X Fit no l h f b) : ValOk k no l h f b ∧ mayB k no l h f b = true := by
  rcases ht with ⟨rfl, rfl, rfl, rfl, rfl, _⟩ | ⟨j, hj, _, rfl, rfl, rfl, rfl, rfl⟩
  · have := none_ok g.pat.hk
    exact ⟨this, ok_may this fun _ => ⟨rfl, rfl, rfl, rfl⟩⟩
  · have := (arc_all g hj).1
    exact ⟨this, ok_may this fun h => by cases h⟩
/-- all that the layout has -/
theorem Told.all {k : Nat} {L : Spans} {F X : Nat} {c : Int} {Fit : Nat → Prop} {no : Bool} {l h f b : Nat} (g : GoodL k F X L c) (ht : Told L F X Fit no l h f b) (hex : 0 < L.length → ∃ j, j < L.length ∧ Fit j) : ∀ z, MemL k F X L z → MemV k no l h f b z := by
  intro z hz
  rcases ht with ⟨_, _, _, _, _, hno⟩ | ⟨j, hj, _, rfl, rfl, rfl, rfl, rfl⟩
  · obtain ⟨_, _, t, htm, _⟩ := hz
    obtain ⟨j, hj, hf⟩ := hex (List.length_pos_of_mem htm)
    exact absurd hf (hno j hj)
  · exact (arc_all g hj).2 z hz
/-- of one part just that -/
theorem Told.one {k : Nat} {L : Spans} {F X : Nat} {c : Int} {Fit : Nat → Prop} {no : Bool} {l h f b : Nat} (g : GoodL k F X L c) (ht : Told L F X Fit no l h f b) (hex : 0 < L.length → ∃ j, j < L.length ∧ Fit j) {m : Nat} (h1 : ∀ z, MemL k F X L z ↔ z = m) : ∀ z, MemV k no l h f b z ↔ z = m := by
  have hl := one_part g h1
  intro z
  rcases ht with ⟨_, _, _, _, _, hno⟩ | ⟨j, hj, _, rfl, rfl, rfl, rfl, rfl⟩
  · obtain ⟨j, hj, hf⟩ := hex (by omega)
    exact absurd hf (hno j hj)
  · have : j = 0 := by omega
    subst this
    exact (arc_one g hl z).trans (h1 z)
theorem Told.none {k : Nat} {L : Spans} {F X : Nat} {c : Int} {Fit : Nat → Prop} {no : Bool} {l h f b : Nat} (g : GoodL k F X L c) (ht : Told L F X Fit no l h f b) (h0 : ∀ z, ¬ MemL k F X L z) : ∀ z, ¬ MemV k no l h f b z := by
  have hl := no_part g h0
  subst hl
  intro z
  rcases ht with ⟨rfl, _⟩ | ⟨j, hj, _⟩
  · exact fun h => absurd h.1 (by simp)
  · exact absurd hj (by simp)
/-- one of the arcs lies in a set in which each part lies whole -/
theorem arc_in {k l h f b F X : Nat} {L : Spans} {c : Int} {no : Bool} (g : GoodL k F X L c) (hs : SubL f b (spansOf k no l h) F X L) (h0 : 0 < L.length) : ∃ j, j < L.length ∧ ∀ z, MemV k false (arcL L j) (arcH L j) F X z → MemV k no l h f b z := by
  have hne : L ≠ [] := List.length_pos_iff.1 h0
  cases no
  · have hin : ∀ t ∈ L, if l ≤ h then l ≤ t.1 ∧ t.2 ≤ h else t.2 ≤ h ∨ l ≤ t.1 := by
      intro t ht
      obtain ⟨s, hsm, h1, h2⟩ := hs.1 t ht
      unfold spansOf at hsm
      simp only [Bool.false_eq_true, if_false] at hsm
      split at hsm
      · rename_i hlh
        rw [List.mem_singleton] at hsm
        subst hsm
        simp only at h1 h2
        rw [if_pos hlh]; exact ⟨h1, h2⟩
      · rename_i hlh
        rw [if_neg hlh]
        rcases List.mem_cons.1 hsm with rfl | hsm
        · left; exact h2
        · rw [List.mem_singleton] at hsm
          subst hsm
          right; exact h1
    have fin : ∀ j (hj : j < L.length), (∀ z, arcIn (L[j]'hj).1 (L[(j + L.length - 1) % L.length]'(ahead_lt hj)).2 z → arcIn l h z) → ∀ z, MemV k false (arcL L j) (arcH L j) F X z → MemV k false l h f b z := by
      intro j hj ha z hz
      have e1 : arcL L j = (L[j]).1 := by unfold arcL; rw [getD_eq hj]
      have e2 : arcH L j = (L[(j + L.length - 1) % L.length]'(ahead_lt hj)).2 := by unfold arcH; rw [getD_eq (ahead_lt hj)]
      obtain ⟨_, hlt, hf, hr⟩ := hz
      rw [e1, e2] at hr
      exact ⟨rfl, hlt, hs.2 hne z hf, ha z hr⟩
    rcases arc_fits (l := l) (h := h) g.rise (fun t ht => (g.ends t ht).1) h0 hin with ha | ⟨i, hi, hi0, ha⟩
    · exact ⟨0, h0, fin 0 h0 (by simpa only [ahead_zero h0] using ha)⟩
    · exact ⟨i, hi, fin i hi (by simpa only [ahead_pos hi hi0] using ha)⟩
  · obtain ⟨s, hsm, _⟩ := hs.1 _ (List.getElem_mem h0)
    unfold spansOf at hsm
    simp at hsm
def TellPost (k : Nat) (L : Spans) (F X : Nat) (Fit : Nat → Prop) (w : World) (e : Ending) (w' : World) : Prop :=
  ∃ no l h f b, e = .returned (valV k no (l : Nat) (h : Nat) (f : Nat) (b : Nat)) ∧ Told L F X Fit no l h f b ∧ Below w.heap.size w w'
/-- the rounds: the best so far lies in a block of the call's own -/
def RelTell (k : Nat) (L : Spans) (F X B5 : Nat) (Fit : Nat → Prop) (w1 : World) (vm vi : Value) (wr : World) : Prop :=
  ∃ (i : Nat) (m : Int) (no : Bool) (l h f b : Nat), i ≤ L.length ∧ vi = .int .i64 i ∧ vm = .int .i64 m ∧ TellSt L F X Fit i m no l h f b ∧ At wr B5 #[.int .i64 k, .bool no, .int .i64 l, .int .i64 h, .int .i64 f, .int .i64 b] 28 ∧ Keeps B5 w1 wr
end Go.Proofs.YtpoaieoldccmiaaGreat
