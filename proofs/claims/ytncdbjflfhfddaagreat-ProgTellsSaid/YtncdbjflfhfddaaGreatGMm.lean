/- ProgMain, plain: how deep statements stand; with each expression all that it is made of. -/
import Derived.Test.YtncdbjflfhfddaaGreatGUm
namespace Go.Proofs.YtncdbjflfhfddaaGreat
open Go.ChangeShapes Go.WideShapes Go.ChangeAt Go.RowKit Go.Joins Go.Deep
set_option linter.unusedVariables false

/-- what a way through a list does to the depths -/
structure DeepOK (l : List Int) (d : Int) (st st' : GS) : Prop where
  mono : st.met ≤ st'.met
  len : st'.inner.length = st.inner.length
  keep : ∀ k, k < st.met → st'.inner[k]? = st.inner[k]?
  new : ∀ (k : Nat) (x : Int), st.met ≤ k → k < st'.met → st'.inner[k]? = some x → d ≤ x ∧ x ≤ 5 ∧ (x = d ↔ (k : Int) ∈ l)
  mem : ∀ i ∈ l, (st.met : Int) ≤ i ∧ i < (st'.met : Int)
theorem newS_eq {s : SX} {lo : Bool} {st st' : GS} (h : newS s lo st = some st') : st'.met = st.met ∧ st'.inner = st.inner := by
  unfold newS at h
  split at h
  · split at h
    · cases h
    · injection h with h; subst h; exact ⟨rfl, rfl⟩
  · injection h with h; subst h; exact ⟨rfl, rfl⟩
theorem goF_deep (P : PX) : ∀ (n : Nat) (l : List Int) (d : Int) (lo : Bool) (st st' : GS), goF P n l d lo st = some st' → d + n = 6 → st.inner.length = P.sts.length → DeepOK l d st st' := by
  intro n
  induction n with
  | zero =>
    intro l d lo st st' h hd hl
    unfold goF at h
    split at h
    · next h0 =>
      injection h with h
      subst h
      obtain rfl : l = [] := List.eq_nil_of_length_eq_zero h0
      exact ⟨Nat.le_refl _, rfl, fun _ _ => rfl, fun k x h1 h2 => by omega, fun i hi => by simp at hi⟩
    · cases h
  | succ n ih =>
    intro l d lo
    unfold goF
    induction l with
    | nil =>
      intro st st' h hd hl
      simp [goL] at h
      subst h
      exact ⟨Nat.le_refl _, rfl, fun _ _ => rfl, fun k x h1 h2 => by omega, fun i hi => by simp at hi⟩
    | cons i r ihl =>
      intro st st' h hd hl
      unfold goL at h
      split at h
      · cases h
      · next s3 h3 =>
        unfold goS at h3
        split at h3
        · next hc =>
          obtain ⟨hi, hlt⟩ := hc
          split at h3
          · cases h3
          · next s1 h1 =>
            obtain ⟨hm1, hi1⟩ := newS_eq h1
            dsimp only at hm1 hi1
            split at h3
            · cases h3
            · next s2 h2 =>
              have hl1 : s1.inner.length = P.sts.length := by rw [hi1, List.length_set]; exact hl
              have b := ih _ _ _ _ _ h2 (by omega) hl1
              have e := ih _ _ _ _ _ h3 (by omega) (by rw [b.len]; exact hl1)
              have f := ihl s3 st' h hd (by rw [e.len, b.len]; exact hl1)
              have hmb := b.mono
              have hme := e.mono
              have hmf := f.mono
              have hat : s3.inner[st.met]? = some d := by
                rw [e.keep st.met (by omega), b.keep st.met (by omega), hi1, List.getElem?_set_self (by omega)]
              refine ⟨by omega, by rw [f.len, e.len, b.len, hi1, List.length_set], fun k hk => ?_, fun k x hk1 hk2 hx => ?_, fun j hj => ?_⟩
              · rw [f.keep k (by omega), e.keep k (by omega), b.keep k (by omega), hi1, List.getElem?_set_ne (by omega)]
              · by_cases hk3 : k < s3.met
                · rw [f.keep k hk3] at hx
                  have hnr : (k : Int) ∉ r := fun hm => by have := (f.mem _ hm).1; omega
                  by_cases hk0 : k = st.met
                  · subst hk0
                    rw [hat] at hx
                    injection hx with hx
                    subst hx
                    exact ⟨Int.le_refl _, by omega, ⟨fun _ => by rw [hi]; simp, fun _ => rfl⟩⟩
                  · have hge : d + 1 ≤ x ∧ x ≤ 5 := by
                      by_cases hk4 : k < s2.met
                      · rw [e.keep k hk4] at hx
                        have := b.new k x (by omega) hk4 hx
                        exact ⟨this.1, this.2.1⟩
                      · have := e.new k x (by omega) hk3 hx
                        exact ⟨this.1, this.2.1⟩
                    refine ⟨by omega, hge.2, ⟨fun h => by omega, fun hm => ?_⟩⟩
                    rcases List.mem_cons.1 hm with h | h
                    · omega
                    · exact absurd h hnr
                · have := f.new k x (by omega) hk2 hx
                  refine ⟨this.1, this.2.1, ?_⟩
                  rw [this.2.2]
                  constructor
                  · intro h; exact List.mem_cons_of_mem _ h
                  · intro h
                    rcases List.mem_cons.1 h with h | h
                    · omega
                    · exact h
              · rcases List.mem_cons.1 hj with h | h
                · omega
                · have := f.mem j h; omega
        · cases h3
theorem inner_ok {P : PX} (h : progB P = true) (k : Nat) (x : Int) (hx : (innerL P)[k]? = some x) : (x = 0 ↔ (k : Int) ∈ P.main) ∧ 0 ≤ x ∧ x ≤ 5 := by
  have hg : (goA P).isSome = true := by
    unfold progB at h
    simp only [Bool.and_eq_true] at h
    exact h.2
  unfold innerL at hx
  cases hga : goA P with
  | none => rw [hga] at hg; cases hg
  | some st =>
    rw [hga] at hx
    unfold goA at hga
    split at hga
    · cases hga
    · next st2 h2 =>
      split at hga
      · next hm =>
        injection hga with hga
        subst hga
        have d := goF_deep P 6 P.main 0 false _ _ h2 rfl (by simp [go0])
        have hk : k < st2.inner.length := (List.getElem?_eq_some_iff.1 hx).1
        rw [d.len] at hk
        have := d.new k x (Nat.zero_le _) (by rw [hm]; simpa [go0] using hk) hx
        exact ⟨this.2.2, this.1, this.2.1⟩
      · cases hga
/-- what an expression is made of: itself last; of those up to it -/
theorem usesU_len (l : List EX) : (usesU l).length = l.length := by unfold usesU; rw [usB_len]; simp
theorem uses_self {l : List EX} (hl : Ahead l) (h0 : 0 < l.length) : (usesU l).getD (l.length - 1) false = true := by
  unfold usesU
  refine (usB_keep hl l.length _ (by simp) (Nat.le_refl _) _).1 ?_
  rw [getD_set, if_pos ⟨rfl, by simp; omega⟩]
theorem uses_last {l : List EX} (hl : Ahead l) (h0 : 0 < l.length) : ∃ r, usesL l = r ++ [((l.length - 1 : Nat) : Int)] := by
  have h1 := uses_self hl h0
  unfold usesL placesL
  rw [usesU_len]
  obtain ⟨n, hn⟩ : ∃ n, l.length = n + 1 := ⟨l.length - 1, by omega⟩
  rw [hn] at h1 ⊢
  rw [show n + 1 - 1 = n from rfl] at h1 ⊢
  rw [List.range_succ, List.filter_append, List.map_append]
  simp only [List.filter_cons, List.filter_nil, h1, if_true, List.map_cons, List.map_nil]
  exact ⟨_, rfl⟩
theorem uses_mem {l : List EX} {j : Int} (h : j ∈ usesL l) : 0 ≤ j ∧ j < (l.length : Int) ∧ (usesU l).getD j.toNat false = true := by
  unfold usesL at h
  have h2 := mem_places.1 h
  refine ⟨h2.1, ?_, h2.2⟩
  rcases Nat.lt_or_ge j.toNat (usesU l).length with hlt | hge
  · rw [usesU_len] at hlt; omega
  · rw [List.getD_eq_getElem?_getD, List.getElem?_eq_none hge] at h2
    cases h2.2
theorem getD_take {l : List EX} {n j : Nat} (h : j < n) : (l.take n).getD j default = l.getD j default := by
  rw [List.getD_eq_getElem?_getD, List.getD_eq_getElem?_getD, List.getElem?_take, if_pos h]
theorem uses_trans {l : List EX} (hl : Ahead l) {k : Nat} (hk : k < l.length) {j : Int} (hj : j ∈ usesL (l.take (k + 1))) {q : Int} (hq : q ∈ usesL (l.take (j.toNat + 1))) : q ∈ usesL (l.take (k + 1)) := by
  have h1 := uses_mem hj
  have hlen : (l.take (k + 1)).length = k + 1 := by rw [List.length_take]; omega
  rw [hlen] at h1
  have hlen2 : (l.take (j.toNat + 1)).length = j.toNat + 1 := by rw [List.length_take]; omega
  have h2 := uses_mem hq
  have hshut := usB_shut (hl.take (k + 1)) (k + 1) ((List.replicate (k + 1) false).set k true) (by simp [hlen]) (by rw [hlen]; exact Nat.le_refl _) (fun i hi h => by
    rw [getD_set] at h
    split at h
    · next hc => omega
    · simp [List.getD_eq_getElem?_getD, List.getElem?_replicate] at h; split at h <;> simp at h)
  have hU : usesU (l.take (k + 1)) = usB (l.take (k + 1)) (k + 1) ((List.replicate (k + 1) false).set k true) := by
    unfold usesU; rw [hlen]; rfl
  rw [← hU] at hshut
  have hV : usesU (l.take (j.toNat + 1)) = usB (l.take (j.toNat + 1)) (j.toNat + 1) ((List.replicate (j.toNat + 1) false).set j.toNat true) := by
    unfold usesU; rw [hlen2]; rfl
  have hle := usB_least (hl.take (j.toNat + 1)) (fun p => (usesU (l.take (k + 1))).getD p false = true) (fun i hi hS p hp => by
    rw [hlen2] at hi
    rw [getD_take (by omega)] at hp
    exact hshut i hS p (by rw [getD_take (by omega)]; exact hp)) (j.toNat + 1) ((List.replicate (j.toNat + 1) false).set j.toNat true) (by simp [hlen2]) (by rw [hlen2]; exact Nat.le_refl _) (fun i hi => by
      rw [getD_set] at hi
      split at hi
      · next hc => rw [← hc.1]; exact h1.2.2
      · simp [List.getD_eq_getElem?_getD, List.getElem?_replicate] at hi; split at hi <;> simp at hi)
  rw [← hV] at hle
  exact mem_places.2 ⟨h2.1, hle _ h2.2.2⟩
/-- where it is -/
def inA : List Int → Int → Int → Int
  | [], _, _ => -1
  | x :: r, n, i => if x = n then i else inA r n (i + 1)
theorem inA_mem : ∀ (l : List Int) (n i : Int), 0 ≤ i → (0 ≤ inA l n i ↔ n ∈ l) := by
  intro l
  induction l with
  | nil => intro n i _; simp [inA]
  | cons x r ih =>
    intro n i hi
    unfold inA
    by_cases h : x = n
    · rw [if_pos h]; simp [h, hi]
    · rw [if_neg h, ih n (i + 1) (by omega)]
      simp [Ne.symm h]
end Go.Proofs.YtncdbjflfhfddaaGreat
