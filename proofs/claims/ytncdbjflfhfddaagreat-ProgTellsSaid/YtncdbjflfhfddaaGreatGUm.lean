/- Package prog, plain: what an expression is made of. -/
import Derived.Test.YtncdbjflfhfddaaGreatGMath
namespace Go.Proofs.YtncdbjflfhfddaaGreat
open Go.ChangeShapes Go.WideShapes Go.ChangeAt Go.RowKit Go.Joins Go.Deep
set_option linter.unusedVariables false

def partsL (x : EX) : List Int := if hasTwoB x.op then [x.a, x.b] else if hasOneB x.op then [x.a] else []
def marks (b : Bool) : List Int → List Bool → List Bool
  | [], u => u
  | p :: r, u => marks b r (u.set p.toNat (u.getD p.toNat false || b))
def usB (l : List EX) : Nat → List Bool → List Bool
  | 0, u => u
  | n + 1, u => usB l n (marks (u.getD n false) (partsL (l.getD n default)) u)
def placesL (u : List Bool) : List Int := ((List.range u.length).filter fun i => u.getD i false).map fun (i : Nat) => (i : Int)
def usesU (l : List EX) : List Bool := usB l l.length ((List.replicate l.length false).set (l.length - 1) true)
def usesL (l : List EX) : List Int := placesL (usesU l)
/-- each is made of others ahead of it -/
def Ahead (l : List EX) : Prop := ∀ (i : Nat) (x : EX), l[i]? = some x → ∀ p ∈ partsL x, 0 ≤ p ∧ p < (i : Int)
theorem gN_ne {k : Int} (h : gN k = true) : k ≠ 0 := by
  simp [gN] at h; omega
theorem kindI_pl {P : PX} {i below : Int} (h : kindI P i below ≠ 0) : 0 ≤ i ∧ i < below := by
  unfold kindI plB at h
  split at h
  · next hc => simp at hc; exact hc
  · exact absurd rfl h
theorem expr_ahead {P : PX} {x : EX} {i : Int} (h : isExprB P x i = true) : ∀ p ∈ partsL x, 0 ≤ p ∧ p < i := by
  intro p hp
  unfold isExprB at h
  unfold partsL at hp
  by_cases h2 : hasTwoB x.op = true
  · rw [if_pos h2] at h hp
    simp only [Bool.and_eq_true] at h
    have hf := h.2
    have hk : kindI P x.a i ≠ 0 ∧ kindI P x.b i ≠ 0 := by
      generalize kindI P x.a i = a at hf
      generalize kindI P x.b i = b at hf
      unfold fitsTwoB at hf
      split at hf
      · simp at hf; have := gN_ne hf.1.2; constructor <;> omega
      · split at hf
        · simp at hf; omega
        · split at hf
          · simp at hf; omega
          · simp at hf; have := gN_ne hf.1.1; constructor <;> omega
    simp at hp
    rcases hp with rfl | rfl
    · exact kindI_pl hk.1
    · exact kindI_pl hk.2
  · rw [if_neg h2] at h hp
    by_cases h1 : hasOneB x.op = true
    · rw [if_pos h1] at h hp
      simp only [Bool.and_eq_true] at h
      have hf := h.2
      have hk : kindI P x.a i ≠ 0 := by
        generalize kindI P x.a i = a at hf
        unfold fitsOneB at hf
        split at hf
        · simp at hf; omega
        · split at hf
          · simp at hf; exact gN_ne hf.2
          · split at hf
            · simp [gS] at hf
              rcases hf.2 with h | h
              · omega
              · exact gN_ne h
            · simp at hf; have := gN_ne hf.1; omega
      simp at hp
      rw [hp]
      exact kindI_pl hk
    · rw [if_neg h1] at hp
      simp at hp
theorem form_ahead {P : PX} (h : formB P = true) : Ahead P.exs := by
  intro i x hx
  simp only [formB, Bool.and_eq_true] at h
  have h2 := List.all_eq_true.1 h.1.1.2 i (by simp; exact (List.getElem?_eq_some_iff.1 hx).1)
  have he : exAt P (i : Nat) = x := by simp [exAt, List.getD_eq_getElem?_getD, hx]
  rw [he] at h2
  exact expr_ahead h2
theorem Ahead.take {l : List EX} (h : Ahead l) (n : Nat) : Ahead (l.take n) := by
  intro i x hx
  refine h i x ?_
  rw [List.getElem?_take] at hx
  split at hx
  · exact hx
  · cases hx
theorem marks_len (b : Bool) : ∀ l u, (marks b l u).length = u.length := by
  intro l
  induction l with
  | nil => intro u; rfl
  | cons p r ih => intro u; unfold marks; rw [ih]; simp
theorem getD_set (u : List Bool) (i j : Nat) (x : Bool) : (u.set i x).getD j false = if i = j ∧ i < u.length then x else u.getD j false := by
  simp only [List.getD_eq_getElem?_getD, List.getElem?_set]
  by_cases h : i = j
  · subst h
    by_cases h2 : i < u.length
    · simp [h2]
    · simp [h2]
  · simp [h]
theorem marks_get (b : Bool) : ∀ (l : List Int) (u : List Bool) (j : Nat), (∀ p ∈ l, 0 ≤ p ∧ p.toNat < u.length) → (marks b l u).getD j false = (u.getD j false || (b && l.any fun p => p.toNat == j)) := by
  intro l
  induction l with
  | nil => intro u j _; simp [marks]
  | cons p r ih =>
    intro u j hp
    unfold marks
    rw [ih _ _ (fun q hq => by have := hp q (by simp [hq]); simpa using this), getD_set]
    have := hp p (by simp)
    by_cases h : p.toNat = j
    · subst h
      rw [if_pos ⟨rfl, this.2⟩]
      simp only [List.any_cons, beq_self_eq_true, Bool.true_or, Bool.and_true]
      cases u.getD p.toNat false <;> cases b <;> simp
    · rw [if_neg (fun hh => h hh.1)]
      have hb : (p.toNat == j) = false := by rw [beq_eq_false_iff_ne]; exact h
      simp [List.any_cons, hb]
theorem usB_len (l : List EX) : ∀ n u, (usB l n u).length = u.length := by
  intro n
  induction n with
  | zero => intro u; rfl
  | succ n ih => intro u; unfold usB; rw [ih, marks_len]
theorem part_lt {l : List EX} (hl : Ahead l) {n : Nat} {u : List Bool} (hu : u.length = l.length) (hn : n < l.length) : ∀ p ∈ partsL (l.getD n default), 0 ≤ p ∧ p.toNat < u.length := by
  intro p hp
  have := hl n (l.getD n default) (by rw [List.getD_eq_getElem?_getD, List.getElem?_eq_getElem hn]; rfl) p hp
  omega
/-- what is marked stays; what is behind stays as it was -/
theorem usB_keep {l : List EX} (hl : Ahead l) : ∀ n u, u.length = l.length → n ≤ l.length → ∀ j, (u.getD j false = true → (usB l n u).getD j false = true) ∧ (n ≤ j + 1 → (usB l n u).getD j false = u.getD j false) := by
  intro n
  induction n with
  | zero => intro u _ _ j; exact ⟨fun h => h, fun _ => rfl⟩
  | succ n ih =>
    intro u hu hn j
    unfold usB
    have h := ih (marks (u.getD n false) (partsL (l.getD n default)) u) (by rw [marks_len]; exact hu) (by omega) j
    have hm := marks_get (u.getD n false) (partsL (l.getD n default)) u j (part_lt hl hu (by omega))
    refine ⟨fun hj => h.1 (by rw [hm, hj]; rfl), fun hj => ?_⟩
    rw [h.2 (by omega), hm]
    have hany : ((partsL (l.getD n default)).any fun p => p.toNat == j) = false := by
      rw [List.any_eq_false]
      intro p hp
      have := hl n (l.getD n default) (by rw [List.getD_eq_getElem?_getD, List.getElem?_eq_getElem (by omega)]; rfl) p hp
      simp; omega
    rw [hany]
    simp
/-- with each one all that it is made of is marked -/
theorem usB_shut {l : List EX} (hl : Ahead l) : ∀ n u, u.length = l.length → n ≤ l.length → (∀ j, n ≤ j → u.getD j false = true → ∀ p ∈ partsL (l.getD j default), u.getD p.toNat false = true) →
    ∀ j, (usB l n u).getD j false = true → ∀ p ∈ partsL (l.getD j default), (usB l n u).getD p.toNat false = true := by
  intro n
  induction n with
  | zero => intro u _ _ h j hj p hp; exact h j (Nat.zero_le _) hj p hp
  | succ n ih =>
    intro u hu hn h
    unfold usB
    refine ih _ (by rw [marks_len]; exact hu) (by omega) (fun j hnj hj p hp => ?_)
    rw [marks_get _ _ _ _ (part_lt hl hu (by omega))] at hj ⊢
    by_cases hjn : j = n
    · subst hjn
      have hany : ((partsL (l.getD j default)).any fun p => p.toNat == j) = false := by
        rw [List.any_eq_false]
        intro p hp
        have := hl j (l.getD j default) (by rw [List.getD_eq_getElem?_getD, List.getElem?_eq_getElem (by omega)]; rfl) p hp
        simp; omega
      rw [hany] at hj
      simp at hj
      simp only [List.getD_eq_getElem?_getD] at hj hp ⊢
      simp only [hj]
      have : ((partsL (l[j]?.getD default)).any fun q => q.toNat == p.toNat) = true := List.any_eq_true.2 ⟨p, hp, by simp⟩
      simp [this]
    · have hany : ((partsL (l.getD n default)).any fun p => p.toNat == j) = false := by
        rw [List.any_eq_false]
        intro p hp
        have := hl n (l.getD n default) (by rw [List.getD_eq_getElem?_getD, List.getElem?_eq_getElem (by omega)]; rfl) p hp
        simp; omega
      rw [hany] at hj
      simp only [Bool.and_false, Bool.or_false] at hj
      rw [h j (by omega) hj p hp]
      rfl
/-- nothing is marked but what must be -/
theorem usB_least {l : List EX} (hl : Ahead l) (S : Nat → Prop) (hS : ∀ j, j < l.length → S j → ∀ p ∈ partsL (l.getD j default), S p.toNat) : ∀ n u, u.length = l.length → n ≤ l.length → (∀ j, u.getD j false = true → S j) → ∀ j, (usB l n u).getD j false = true → S j := by
  intro n
  induction n with
  | zero => intro u _ _ h; exact h
  | succ n ih =>
    intro u hu hn h
    unfold usB
    refine ih _ (by rw [marks_len]; exact hu) (by omega) (fun j hj => ?_)
    rw [marks_get _ _ _ _ (part_lt hl hu (by omega))] at hj
    rcases Bool.or_eq_true_iff.1 hj with hj | hj
    · exact h j hj
    · simp only [Bool.and_eq_true] at hj
      obtain ⟨p, hp, hpj⟩ := List.any_eq_true.1 hj.2
      have hpj : p.toNat = j := by simpa using hpj
      rw [← hpj]
      exact hS n (by omega) (h n hj.1) p hp
theorem mem_places {u : List Bool} {k : Int} : k ∈ placesL u ↔ 0 ≤ k ∧ u.getD k.toNat false = true := by
  simp only [placesL, List.mem_map, List.mem_filter, List.mem_range]
  constructor
  · rintro ⟨i, ⟨_, h⟩, rfl⟩
    exact ⟨by omega, by simpa using h⟩
  · rintro ⟨h0, h⟩
    refine ⟨k.toNat, ⟨?_, h⟩, by omega⟩
    rcases Nat.lt_or_ge k.toNat u.length with hlt | hge
    · exact hlt
    · rw [List.getD_eq_getElem?_getD, List.getElem?_eq_none hge] at h
      cases h
end Go.Proofs.YtncdbjflfhfddaaGreat
