/- Package val: Empty and Single, told by members; One, All, No. -/
import Derived.Test.YtjcapecimihjgaaVCountM
import Derived.Test.YtjcapecimihjgaaVAsk
namespace Go.Proofs.Ytjcapecimihjgaa
open Go.ChangeShapes Go.WideShapes Go.ChangeAt Go.RowKit Go.Joins Go.Deep
set_option linter.unusedVariables false

def NoneV (k : Nat) (no : Bool) (l h f b : Nat) : Prop := ∀ z, ¬ MemV k no l h f b z
def OneV (k : Nat) (no : Bool) (l h f b m : Nat) : Prop := ∀ z, MemV k no l h f b z ↔ z = m
def EmptyOk (k : Nat) (no : Bool) (l h f b : Nat) (w : World) (e : Ending) (w' : World) : Prop := ∃ is : Bool, (is = true ↔ NoneV k no l h f b) ∧ EmptyPost is 0 w e w'
def SingleOk (k : Nat) (no : Bool) (l h f b : Nat) (w : World) (e : Ending) (w' : World) : Prop :=
  (∃ m : Nat, OneV k no l h f b m ∧ SinglePost true m 0 w e w') ∨ ((∀ m, ¬ OneV k no l h f b m) ∧ SinglePost false 0 0 w e w')
theorem Empty_ok (k : Nat) (no : Bool) (l h f b : Nat) (ok : ValOk k no l h f b) (hm : mayB k no l h f b = true) (w : World) :
    Calls Try.prog 10 #[valV k no l h f b] w (EmptyOk k no l h f b w) := by
  refine (Empty_yes k no l h f b ok hm w).mono ?_
  rintro e w' ⟨L, hl, hp⟩
  refine ⟨_, ?_, hp⟩
  rw [beq_iff_eq, sumR_zero ok.pat.hk.le hl]
  unfold NoneV
  constructor
  · intro hh z hM
    exact hh z ((memL_memV hl).2 hM)
  · intro hh z hM
    exact hh z ((memL_memV hl).1 hM)
set_option maxRecDepth 100000 in
set_option maxHeartbeats 3200000 in
theorem Single_yes (k : Nat) (no : Bool) (l h f b : Nat) (ok : ValOk k no l h f b) (hm : mayB k no l h f b = true) (w : World) :
    Calls Try.prog 11 #[valV k no l h f b] w (SingleOk k no l h f b w) := by
  have hb0 : Below w.heap.size w (w.alloc (.cells #[.int .i64 k, .bool no, .int .i64 l, .int .i64 h, .int .i64 f, .int .i64 b] 28)) := (Below.refl _ _).alloc (Nat.le_refl _) _
  have cT := fun w => take_yes k no l h f b hm w
  clear hm
  go_enter Try.func11, Try.ntmps11
  go_wp2_with fail
  refine (cT _).mono ?_
  rintro e w1 ⟨sb, rfl, hS, hsb, hb1⟩
  have hbE := hb0.trans (hb1.mono hb0.size)
  have hsb2 : w.heap.size ≤ sb := by have := hb0.size; omega
  clear hb0 hb1 hsb cT
  go_wp2_with fail
  refine (layout_first sb k no l h f b ok _ hS).mono ?_
  rintro e w2 ⟨bl, rfl, ⟨_, ⟨L, hl, sl, hA, hSp, _⟩, _⟩, hK⟩
  have hbE2 := hbE.trans (hK.below hsb2 hbE.size)
  have h1 := sumR_one ok.pat.hk.le hl (hl.rise rising_spansOf)
  clear hS hK hbE
  go_wp2_with fail
  refine (count_any bl _ _ _ _ _ _ hA).mono ?_
  rintro e w3 ⟨rfl, rfl⟩
  by_cases hc : sumR f L = 1
  · obtain ⟨h0, hM⟩ := h1.1 hc
    rcases hSp with ⟨h0', _⟩ | ⟨hp, g, cap, rfl, hg, hH⟩
    · rw [h0'] at h0; simp at h0
    · have c3 : w2.cell? ⟨bl, 3, none⟩ = some (.slice (some ⟨g, 0, none⟩) L.length cap) := hA.cell 3 rfl
      have s0 := (hH 0 hp).1
      simp only [Nat.zero_mul] at s0
      obtain ⟨x, hx⟩ : ∃ x, x = (L[0]'hp).1 := ⟨_, rfl⟩
      have fin : OneV k no l h f b x := fun z => by rw [← memL_memV hl, hM z, hx]
      rw [← hx] at s0
      have t0 : (sumR f L != 1) = false := by rw [hc]; rfl
      have hl0 : (0 : Int) < (L.length : Int) := by omega
      obtain ⟨n, hn⟩ : ∃ n, n = L.length := ⟨_, rfl⟩
      rw [← hn] at c3 hl0
      clear hA hH h1 hM hc hx hn
      go_wp2_with fail
      go_quiet (fail)
      go_wp2_with fail
      go_ret3
      exact Or.inl ⟨x, fin, rfl, hbE2.trans (Joins.below_draws _ _ _)⟩
  · have t0 : (sumR f L != 1) = true := by simp; exact hc
    have fin : ∀ m, ¬ OneV k no l h f b m := fun m hO => hc (h1.2 (by
      have hmem := (memL_memV hl).2 ((hO m).2 rfl)
      have hmm := hmem
      obtain ⟨_, _, t, ht, _⟩ := hmem
      have h0 : 0 < L.length := List.length_pos_of_mem ht
      have he := ((hO _).1 ((memL_memV hl).1 (end_mem hl.ends (List.getElem_mem h0)).1))
      exact ⟨h0, fun z => by rw [memL_memV hl, hO z, he]⟩))
    clear h1 hc hA hSp
    go_wp2_with fail
    go_ret3
    exact Or.inr ⟨fin, rfl, hbE2⟩

def MakePost (v : Value) (e0 : Int) (w : World) (e : Ending) (w' : World) : Prop := e = .returned (.tuple #[v, .int .i64 e0]) ∧ Below w.heap.size w w'
set_option maxRecDepth 100000 in
set_option maxHeartbeats 800000 in
theorem One_no (k n : Int) (hn : ¬ (isW k ∧ isN n k)) (w : World) :
    Calls Try.prog 24 #[.int .i64 k, .int .i64 n] w (MakePost (valV 0 false 0 0 0 0) 1 w) := by
  have cN := fun w => isNumber_no n k hn w
  have d0 := At.new w #[.int .i64 0, .bool false, .int .i64 0, .int .i64 0, .int .i64 0, .int .i64 0] 28
  clear hn
  go_enter Try.func24, Try.ntmps24
  go_wp2_with ((go_at_call 39; (with_reducible refine (cN _).mono ?_); rintro e w' ⟨rfl, rfl⟩))
  exact bodyPost_ret (v := .tuple #[valV 0 false 0 0 0 0, .int .i64 1]) (by simp [results, Try.results24, go_sem]) rfl ⟨rfl, (Below.refl _ _).alloc (Nat.le_refl _) _⟩
set_option maxRecDepth 100000 in
set_option maxHeartbeats 800000 in
theorem One_yes (k n : Int) (hW : isW k) (hn : isN n k) (w : World) :
    Calls Try.prog 24 #[.int .i64 k, .int .i64 n] w (MakePost (valV k false n n 0 n) 0 w) := by
  have cN := fun w => isNumber_yes n k hW hn w
  clear hn hW
  go_enter Try.func24, Try.ntmps24
  go_wp2_with ((go_at_call 39; (with_reducible refine (cN _).mono ?_); rintro e w' ⟨rfl, rfl⟩))
  exact bodyPost_ret (v := .tuple #[valV k false n n 0 n, .int .i64 0]) (by simp [results, Try.results24, go_sem]) rfl ⟨rfl, (Below.refl _ _).alloc (Nat.le_refl _) _⟩
set_option maxRecDepth 100000 in
set_option maxHeartbeats 800000 in
theorem No_no (k : Int) (hn : ¬ isW k) (w : World) :
    Calls Try.prog 22 #[.int .i64 k] w (MakePost (valV 0 false 0 0 0 0) 1 w) := by
  have cN := fun w => isNumber_no 0 k (fun h => hn h.1) w
  clear hn
  go_enter Try.func22, Try.ntmps22
  go_wp2_with ((go_at_call 39; (with_reducible refine (cN _).mono ?_); rintro e w' ⟨rfl, rfl⟩))
  exact bodyPost_ret (v := .tuple #[valV 0 false 0 0 0 0, .int .i64 1]) (by simp [results, Try.results22, go_sem]) rfl ⟨rfl, (Below.refl _ _).alloc (Nat.le_refl _) _⟩
set_option maxRecDepth 100000 in
set_option maxHeartbeats 800000 in
theorem All_no (k : Int) (hn : ¬ isW k) (w : World) :
    Calls Try.prog 21 #[.int .i64 k] w (MakePost (valV 0 false 0 0 0 0) 1 w) := by
  have cN := fun w => Wrap_no (-1) k hn w
  clear hn
  go_enter Try.func21, Try.ntmps21
  go_wp2_with ((go_at_call 38; (with_reducible refine (cN _).mono ?_); rintro e w' ⟨rfl, rfl⟩))
  exact bodyPost_ret (v := .tuple #[valV 0 false 0 0 0 0, .int .i64 1]) (by simp [results, Try.results21, go_sem]) rfl ⟨rfl, (Below.refl _ _).alloc (Nat.le_refl _) _⟩
set_option maxRecDepth 100000 in
set_option maxHeartbeats 800000 in
theorem All_yes (k : Int) (hW : isW k) (w : World) :
    Calls Try.prog 21 #[.int .i64 k] w (MakePost (valV k false 0 (wrapI (-1) k) (wrapI (-1) k) 0) 0 w) := by
  have cN := fun w => Wrap_yes (-1) k hW w
  clear hW
  generalize wrapI (-1) k = t at *
  go_enter Try.func21, Try.ntmps21
  go_wp2_with ((go_at_call 38; (with_reducible refine (cN _).mono ?_); rintro e w' ⟨rfl, rfl⟩))
  exact bodyPost_ret (v := .tuple #[valV k false 0 t t 0, .int .i64 0]) (by simp [results, Try.results21, go_sem]) rfl ⟨rfl, (Below.refl _ _).alloc (Nat.le_refl _) _⟩
end Go.Proofs.Ytjcapecimihjgaa
