/- Package val: Has, Next, Check, Empty, Single; One, All, No. -/
import Derived.Test.YtblahbmhbfcggaaGreatDoorVCountM
namespace Go.Proofs.YtblahbmhbfcggaaGreatDoor
open Go.ChangeShapes Go.WideShapes Go.ChangeAt Go.RowKit Go.Joins Go.Deep
set_option linter.unusedVariables false

theorem isWn.isW {k : Nat} (h : isWn k) : isW (k : Int) := by rcases h with rfl | rfl | rfl <;> simp [Go.Proofs.YtblahbmhbfcggaaGreatDoor.isW]
theorem isN_nat {n k : Nat} (h : n < 2 ^ k) : isN (n : Int) (k : Int) := ⟨by omega, by simpa using (by exact_mod_cast h : (n : Int) < (2 : Int) ^ k)⟩
theorem nat_isN {n : Int} {k : Nat} (h : isN n k) : ∃ m : Nat, n = m ∧ m < 2 ^ k := by
  obtain ⟨h0, h1⟩ := h
  refine ⟨n.toNat, by omega, ?_⟩
  have : (n.toNat : Int) < ((2 ^ k : Nat) : Int) := by
    rw [Int.toNat_of_nonneg h0]
    simpa using h1
  omega
theorem hasR {M : Nat → Prop} {n : Nat} {r : Int} {is : Bool} (h : NextRes M n r is) : (is && r == (n : Int)) = true ↔ M n := by
  rcases h with ⟨rfl, m, rfl, h1, h2, h3⟩ | ⟨rfl, rfl, h3⟩
  · simp
    constructor
    · intro e
      have : m = n := by omega
      subst this; exact h2
    · intro hn
      have := h3 n (Nat.le_refl _) hn
      omega
  · simp
    exact h3 n (Nat.le_refl _)

set_option maxRecDepth 100000 in
set_option maxHeartbeats 800000 in
theorem Has_no (k : Int) (no : Bool) (l h f b n : Int) (hm : mayB k no l h f b = false) (w : World) :
    Calls Tryz.prog 117 #[valV k no l h f b, .int .i64 n] w (HasNo w) := by
  have hb0 : Below w.heap.size w (w.alloc (.cells #[.int .i64 k, .bool no, .int .i64 l, .int .i64 h, .int .i64 f, .int .i64 b] 30)) := (Below.refl _ _).alloc (Nat.le_refl _) _
  have cT := fun w => takeWith_no k no l h f b n hm w
  clear hm
  go_enter Tryz.func117, Tryz.ntmps117
  go_wp2_with fail
  refine (cT _).mono ?_
  rintro e w1 ⟨rfl, hb1⟩
  have hbE := hb0.trans (hb1.mono hb0.size)
  clear hb0 hb1 cT
  go_wp2_with fail
  go_ret2
  exact ⟨rfl, hbE⟩

set_option maxRecDepth 100000 in
set_option maxHeartbeats 800000 in
theorem Has_out (k : Nat) (no : Bool) (l h f b : Nat) (n : Int) (hm : mayB k no l h f b = true) (hn : ¬ isN n k) (w : World) :
    Calls Tryz.prog 117 #[valV k no l h f b, .int .i64 n] w (HasNo w) := by
  have hb0 : Below w.heap.size w (w.alloc (.cells #[.int .i64 k, .bool no, .int .i64 l, .int .i64 h, .int .i64 f, .int .i64 b] 30)) := (Below.refl _ _).alloc (Nat.le_refl _) _
  have cT := fun w => takeWith_out k no l h f b n hm hn w
  clear hm
  go_enter Tryz.func117, Tryz.ntmps117
  go_wp2_with fail
  refine (cT _).mono ?_
  rintro e w1 ⟨rfl, hb1⟩
  have hbE := hb0.trans (hb1.mono hb0.size)
  clear hb0 hb1 cT
  go_wp2_with fail
  go_ret2
  exact ⟨rfl, hbE⟩

set_option maxRecDepth 100000 in
set_option maxHeartbeats 800000 in
theorem Next_no (k : Int) (no : Bool) (l h f b n : Int) (hm : mayB k no l h f b = false) (w : World) :
    Calls Tryz.prog 133 #[valV k no l h f b, .int .i64 n] w (NextNo w) := by
  have hb0 : Below w.heap.size w (w.alloc (.cells #[.int .i64 k, .bool no, .int .i64 l, .int .i64 h, .int .i64 f, .int .i64 b] 30)) := (Below.refl _ _).alloc (Nat.le_refl _) _
  have cT := fun w => takeWith_no k no l h f b n hm w
  clear hm
  go_enter Tryz.func133, Tryz.ntmps133
  go_wp2_with fail
  refine (cT _).mono ?_
  rintro e w1 ⟨rfl, hb1⟩
  have hbE := hb0.trans (hb1.mono hb0.size)
  clear hb0 hb1 cT
  go_wp2_with fail
  go_ret2
  exact ⟨rfl, hbE⟩

set_option maxRecDepth 100000 in
set_option maxHeartbeats 800000 in
theorem Next_out (k : Nat) (no : Bool) (l h f b : Nat) (n : Int) (hm : mayB k no l h f b = true) (hn : ¬ isN n k) (w : World) :
    Calls Tryz.prog 133 #[valV k no l h f b, .int .i64 n] w (NextNo w) := by
  have hb0 : Below w.heap.size w (w.alloc (.cells #[.int .i64 k, .bool no, .int .i64 l, .int .i64 h, .int .i64 f, .int .i64 b] 30)) := (Below.refl _ _).alloc (Nat.le_refl _) _
  have cT := fun w => takeWith_out k no l h f b n hm hn w
  clear hm
  go_enter Tryz.func133, Tryz.ntmps133
  go_wp2_with fail
  refine (cT _).mono ?_
  rintro e w1 ⟨rfl, hb1⟩
  have hbE := hb0.trans (hb1.mono hb0.size)
  clear hb0 hb1 cT
  go_wp2_with fail
  go_ret2
  exact ⟨rfl, hbE⟩

set_option maxRecDepth 100000 in
set_option maxHeartbeats 1600000 in
theorem Has_yes (k : Nat) (no : Bool) (l h f b n : Nat) (ok : ValOk k no l h f b) (hm : mayB k no l h f b = true) (hn : n < 2 ^ k) (w : World) :
    Calls Tryz.prog 117 #[valV k no l h f b, .int .i64 n] w (HasOk k no l h f b n w) := by
  have hb0 : Below w.heap.size w (w.alloc (.cells #[.int .i64 k, .bool no, .int .i64 l, .int .i64 h, .int .i64 f, .int .i64 b] 30)) := (Below.refl _ _).alloc (Nat.le_refl _) _
  have cT := fun w => takeWith_yes k no l h f b n hm ok.pat.hk.isW (isN_nat hn) w
  clear hm
  go_enter Tryz.func117, Tryz.ntmps117
  go_wp2_with fail
  refine (cT _).mono ?_
  rintro e w1 ⟨sb, rfl, hS, hsb, hb1⟩
  have hbE := hb0.trans (hb1.mono hb0.size)
  have hsb2 : w.heap.size ≤ sb := by have := hb0.size; omega
  clear hb0 hb1 hsb
  go_wp2_with fail
  refine (layout_first sb k no l h f b ok _ hS).mono ?_
  rintro e w2 ⟨bl, rfl, hL, hK⟩
  have hbE2 := hbE.trans (hK.below hsb2 hbE.size)
  clear hS hK hbE
  go_wp2_with fail
  refine (next_set sb _ bl k no l h f b n ok hn _ hL).mono ?_
  rintro e w3 ⟨r, is, hres, rfl, hbN⟩
  have hbF := hbE2.trans (hbN.mono hbE2.size)
  clear hL hbN hbE2
  have hr := hasR hres
  have fin : HasOk k no l h f b n w (.returned (.tuple #[.bool (is && r == (n : Int)), .int .i64 0])) w3 := ⟨_, hr, rfl, hbF⟩
  clear hres hr hbF
  cases is
  · go_wp2_with fail
    go_ret2
    simpa using fin
  · go_wp2_with fail
    go_ret2
    simpa using fin

set_option maxRecDepth 100000 in
set_option maxHeartbeats 1600000 in
theorem Next_yes (k : Nat) (no : Bool) (l h f b n : Nat) (ok : ValOk k no l h f b) (hm : mayB k no l h f b = true) (hn : n < 2 ^ k) (w : World) :
    Calls Tryz.prog 133 #[valV k no l h f b, .int .i64 n] w (NextOk k no l h f b n w) := by
  have hb0 : Below w.heap.size w (w.alloc (.cells #[.int .i64 k, .bool no, .int .i64 l, .int .i64 h, .int .i64 f, .int .i64 b] 30)) := (Below.refl _ _).alloc (Nat.le_refl _) _
  have cT := fun w => takeWith_yes k no l h f b n hm ok.pat.hk.isW (isN_nat hn) w
  clear hm
  go_enter Tryz.func133, Tryz.ntmps133
  go_wp2_with fail
  refine (cT _).mono ?_
  rintro e w1 ⟨sb, rfl, hS, hsb, hb1⟩
  have hbE := hb0.trans (hb1.mono hb0.size)
  have hsb2 : w.heap.size ≤ sb := by have := hb0.size; omega
  clear hb0 hb1 hsb
  go_wp2_with fail
  refine (layout_first sb k no l h f b ok _ hS).mono ?_
  rintro e w2 ⟨bl, rfl, hL, hK⟩
  have hbE2 := hbE.trans (hK.below hsb2 hbE.size)
  clear hS hK hbE
  go_wp2_with fail
  refine (next_set sb _ bl k no l h f b n ok hn _ hL).mono ?_
  rintro e w3 ⟨r, is, hres, rfl, hbN⟩
  have hbF := hbE2.trans (hbN.mono hbE2.size)
  clear hL hbN hbE2
  rcases hres with ⟨rfl, m, rfl, h1, h2, h3⟩ | ⟨rfl, rfl, h3⟩
  · clear cT
    go_wp2_with fail
    go_ret2
    exact ⟨Or.inl ⟨m, h1, h2, h3, rfl⟩, hbF⟩
  · clear cT
    go_wp2_with fail
    go_ret2
    exact ⟨Or.inr ⟨h3, rfl⟩, hbF⟩

def CheckPost (r : Int) (w : World) (e : Ending) (w' : World) : Prop := e = .returned (.int .i64 r) ∧ Below w.heap.size w w'
set_option maxRecDepth 100000 in
set_option maxHeartbeats 800000 in
theorem Check_no (k : Int) (no : Bool) (l h f b : Int) (hm : mayB k no l h f b = false) (w : World) :
    Calls Tryz.prog 58 #[valV k no l h f b] w (CheckPost 1 w) := by
  have hb0 : Below w.heap.size w (w.alloc (.cells #[.int .i64 k, .bool no, .int .i64 l, .int .i64 h, .int .i64 f, .int .i64 b] 30)) := (Below.refl _ _).alloc (Nat.le_refl _) _
  have cT := fun w => take_no k no l h f b hm w
  clear hm
  go_enter Tryz.func58, Tryz.ntmps58
  go_wp2_with fail
  refine (cT _).mono ?_
  rintro e w1 ⟨rfl, hb1⟩
  have hbE := hb0.trans (hb1.mono hb0.size)
  clear hb0 hb1 cT
  go_wp2_with fail
  go_ret
  exact ⟨rfl, hbE⟩
set_option maxRecDepth 100000 in
set_option maxHeartbeats 800000 in
theorem Check_yes (k : Nat) (no : Bool) (l h f b : Nat) (hm : mayB k no l h f b = true) (w : World) :
    Calls Tryz.prog 58 #[valV k no l h f b] w (CheckPost 0 w) := by
  have hb0 : Below w.heap.size w (w.alloc (.cells #[.int .i64 k, .bool no, .int .i64 l, .int .i64 h, .int .i64 f, .int .i64 b] 30)) := (Below.refl _ _).alloc (Nat.le_refl _) _
  have cT := fun w => take_yes k no l h f b hm w
  clear hm
  go_enter Tryz.func58, Tryz.ntmps58
  go_wp2_with fail
  refine (cT _).mono ?_
  rintro e w1 ⟨sb, rfl, hS, hsb, hb1⟩
  have hbE := hb0.trans (hb1.mono hb0.size)
  clear hb0 hb1 cT hS
  go_wp2_with fail
  go_ret
  exact ⟨rfl, hbE⟩
def EmptyPost (is : Bool) (e0 : Int) (w : World) (e : Ending) (w' : World) : Prop := e = .returned (.tuple #[.bool is, .int .i64 e0]) ∧ Below w.heap.size w w'
def SinglePost (is : Bool) (n e0 : Int) (w : World) (e : Ending) (w' : World) : Prop := e = .returned (.tuple #[.bool is, .int .i64 n, .int .i64 e0]) ∧ Below w.heap.size w w'
set_option maxRecDepth 100000 in
set_option maxHeartbeats 800000 in
theorem Empty_no (k : Int) (no : Bool) (l h f b : Int) (hm : mayB k no l h f b = false) (w : World) :
    Calls Tryz.prog 60 #[valV k no l h f b] w (EmptyPost false 1 w) := by
  have hb0 : Below w.heap.size w (w.alloc (.cells #[.int .i64 k, .bool no, .int .i64 l, .int .i64 h, .int .i64 f, .int .i64 b] 30)) := (Below.refl _ _).alloc (Nat.le_refl _) _
  have cT := fun w => take_no k no l h f b hm w
  clear hm
  go_enter Tryz.func60, Tryz.ntmps60
  go_wp2_with fail
  refine (cT _).mono ?_
  rintro e w1 ⟨rfl, hb1⟩
  have hbE := hb0.trans (hb1.mono hb0.size)
  clear hb0 hb1 cT
  go_wp2_with fail
  go_ret2
  exact ⟨rfl, hbE⟩
set_option maxRecDepth 100000 in
set_option maxHeartbeats 800000 in
theorem Single_no (k : Int) (no : Bool) (l h f b : Int) (hm : mayB k no l h f b = false) (w : World) :
    Calls Tryz.prog 93 #[valV k no l h f b] w (SinglePost false 0 1 w) := by
  have hb0 : Below w.heap.size w (w.alloc (.cells #[.int .i64 k, .bool no, .int .i64 l, .int .i64 h, .int .i64 f, .int .i64 b] 30)) := (Below.refl _ _).alloc (Nat.le_refl _) _
  have cT := fun w => take_no k no l h f b hm w
  clear hm
  go_enter Tryz.func93, Tryz.ntmps93
  go_wp2_with fail
  refine (cT _).mono ?_
  rintro e w1 ⟨rfl, hb1⟩
  have hbE := hb0.trans (hb1.mono hb0.size)
  clear hb0 hb1 cT
  go_wp2_with fail
  go_ret3
  exact ⟨rfl, hbE⟩
set_option maxRecDepth 100000 in
set_option maxHeartbeats 1600000 in
theorem Empty_yes (k : Nat) (no : Bool) (l h f b : Nat) (ok : ValOk k no l h f b) (hm : mayB k no l h f b = true) (w : World) :
    Calls Tryz.prog 60 #[valV k no l h f b] w fun e w' => ∃ L, Laid k f b (spansOf k no l h) L ∧ EmptyPost (sumR f L == 0) 0 w e w' := by
  have hb0 : Below w.heap.size w (w.alloc (.cells #[.int .i64 k, .bool no, .int .i64 l, .int .i64 h, .int .i64 f, .int .i64 b] 30)) := (Below.refl _ _).alloc (Nat.le_refl _) _
  have cT := fun w => take_yes k no l h f b hm w
  clear hm
  go_enter Tryz.func60, Tryz.ntmps60
  go_wp2_with fail
  refine (cT _).mono ?_
  rintro e w1 ⟨sb, rfl, hS, hsb, hb1⟩
  have hbE := hb0.trans (hb1.mono hb0.size)
  have hsb2 : w.heap.size ≤ sb := by have := hb0.size; omega
  clear hb0 hb1 hsb cT
  go_wp2_with fail
  refine (layout_first sb k no l h f b ok _ hS).mono ?_
  rintro e w2 ⟨bl, rfl, ⟨_, ⟨L, hl, sl, hA, _⟩, _⟩, hK⟩
  have hbE2 := hbE.trans (hK.below hsb2 hbE.size)
  clear hS hK hbE
  go_wp2_with fail
  refine (count_any bl _ _ _ _ _ _ hA).mono ?_
  rintro e w3 ⟨rfl, rfl⟩
  clear hA
  go_wp2_with fail
  go_ret2
  exact ⟨L, hl, rfl, hbE2⟩
end Go.Proofs.YtblahbmhbfcggaaGreatDoor

/- Package val: Empty and Single, told by members; One, All, No. -/
namespace Go.Proofs.YtblahbmhbfcggaaGreatDoor
open Go.ChangeShapes Go.WideShapes Go.ChangeAt Go.RowKit Go.Joins Go.Deep
set_option linter.unusedVariables false

def NoneV (k : Nat) (no : Bool) (l h f b : Nat) : Prop := ∀ z, ¬ MemV k no l h f b z
def OneV (k : Nat) (no : Bool) (l h f b m : Nat) : Prop := ∀ z, MemV k no l h f b z ↔ z = m
def EmptyOk (k : Nat) (no : Bool) (l h f b : Nat) (w : World) (e : Ending) (w' : World) : Prop := ∃ is : Bool, (is = true ↔ NoneV k no l h f b) ∧ EmptyPost is 0 w e w'
def SingleOk (k : Nat) (no : Bool) (l h f b : Nat) (w : World) (e : Ending) (w' : World) : Prop :=
  (∃ m : Nat, OneV k no l h f b m ∧ SinglePost true m 0 w e w') ∨ ((∀ m, ¬ OneV k no l h f b m) ∧ SinglePost false 0 0 w e w')
theorem Empty_ok (k : Nat) (no : Bool) (l h f b : Nat) (ok : ValOk k no l h f b) (hm : mayB k no l h f b = true) (w : World) :
    Calls Tryz.prog 60 #[valV k no l h f b] w (EmptyOk k no l h f b w) := by
  refine (Empty_yes k no l h f b ok hm w).mono ?_
  rintro e w' ⟨L, hl, hp⟩
  refine ⟨_, ?_, hp⟩
  rw [beq_iff_eq, sumR_zero ok.pat.hk.le hl]
  unfold NoneV
  constructor
  · intro hh z hM
    exact hh z ((memL_memV hl).2 hM)
  · intro hh z hM
    exact hh z ((memL_memV hl).1 hM)
set_option maxRecDepth 100000 in
set_option maxHeartbeats 3200000 in
theorem Single_yes (k : Nat) (no : Bool) (l h f b : Nat) (ok : ValOk k no l h f b) (hm : mayB k no l h f b = true) (w : World) :
    Calls Tryz.prog 93 #[valV k no l h f b] w (SingleOk k no l h f b w) := by
  have hb0 : Below w.heap.size w (w.alloc (.cells #[.int .i64 k, .bool no, .int .i64 l, .int .i64 h, .int .i64 f, .int .i64 b] 30)) := (Below.refl _ _).alloc (Nat.le_refl _) _
  have cT := fun w => take_yes k no l h f b hm w
  clear hm
  go_enter Tryz.func93, Tryz.ntmps93
  go_wp2_with fail
  refine (cT _).mono ?_
  rintro e w1 ⟨sb, rfl, hS, hsb, hb1⟩
  have hbE := hb0.trans (hb1.mono hb0.size)
  have hsb2 : w.heap.size ≤ sb := by have := hb0.size; omega
  clear hb0 hb1 hsb cT
  go_wp2_with fail
  refine (layout_first sb k no l h f b ok _ hS).mono ?_
  rintro e w2 ⟨bl, rfl, ⟨_, ⟨L, hl, sl, hA, hSp, _⟩, _⟩, hK⟩
  have hbE2 := hbE.trans (hK.below hsb2 hbE.size)
  have h1 := sumR_one ok.pat.hk.le hl (hl.rise rising_spansOf)
  clear hS hK hbE
  go_wp2_with fail
  refine (count_any bl _ _ _ _ _ _ hA).mono ?_
  rintro e w3 ⟨rfl, rfl⟩
  by_cases hc : sumR f L = 1
  · obtain ⟨h0, hM⟩ := h1.1 hc
    rcases hSp with ⟨h0', _⟩ | ⟨hp, g, cap, rfl, hg, hH⟩
    · rw [h0'] at h0; simp at h0
    · have c3 : w2.cell? ⟨bl, 3, none⟩ = some (.slice (some ⟨g, 0, none⟩) L.length cap) := hA.cell 3 rfl
      have s0 := (hH 0 hp).1
      simp only [Nat.zero_mul] at s0
      obtain ⟨x, hx⟩ : ∃ x, x = (L[0]'hp).1 := ⟨_, rfl⟩
      have fin : OneV k no l h f b x := fun z => by rw [← memL_memV hl, hM z, hx]
      rw [← hx] at s0
      have t0 : (sumR f L != 1) = false := by rw [hc]; rfl
      have hl0 : (0 : Int) < (L.length : Int) := by omega
      obtain ⟨n, hn⟩ : ∃ n, n = L.length := ⟨_, rfl⟩
      rw [← hn] at c3 hl0
      clear hA hH h1 hM hc hx hn
      go_wp2_with fail
      go_quiet (fail)
      go_wp2_with fail
      go_ret3
      exact Or.inl ⟨x, fin, rfl, hbE2.trans (Joins.below_draws _ _ _)⟩
  · have t0 : (sumR f L != 1) = true := by simp; exact hc
    have fin : ∀ m, ¬ OneV k no l h f b m := fun m hO => hc (h1.2 (by
      have hmem := (memL_memV hl).2 ((hO m).2 rfl)
      have hmm := hmem
      obtain ⟨_, _, t, ht, _⟩ := hmem
      have h0 : 0 < L.length := List.length_pos_of_mem ht
      have he := ((hO _).1 ((memL_memV hl).1 (end_mem hl.ends (List.getElem_mem h0)).1))
      exact ⟨h0, fun z => by rw [memL_memV hl, hO z, he]⟩))
    clear h1 hc hA hSp
    go_wp2_with fail
    go_ret3
    exact Or.inr ⟨fin, rfl, hbE2⟩

def MakePost (v : Value) (e0 : Int) (w : World) (e : Ending) (w' : World) : Prop := e = .returned (.tuple #[v, .int .i64 e0]) ∧ Below w.heap.size w w'
set_option maxRecDepth 100000 in
set_option maxHeartbeats 800000 in
theorem No_no (k : Int) (hn : ¬ isW k) (w : World) :
    Calls Tryz.prog 59 #[.int .i64 k] w (MakePost (valV 0 false 0 0 0 0) 1 w) := by
  have cN := fun w => isNumber_no 0 k (fun h => hn h.1) w
  clear hn
  go_enter Tryz.func59, Tryz.ntmps59
  go_wp2_with ((go_at_call 88; (with_reducible refine (cN _).mono ?_); rintro e w' ⟨rfl, rfl⟩))
  exact bodyPost_ret (v := .tuple #[valV 0 false 0 0 0 0, .int .i64 1]) (by simp [results, Tryz.results59, go_sem]) rfl ⟨rfl, (Below.refl _ _).alloc (Nat.le_refl _) _⟩
set_option maxRecDepth 100000 in
set_option maxHeartbeats 800000 in
theorem All_no (k : Int) (hn : ¬ isW k) (w : World) :
    Calls Tryz.prog 115 #[.int .i64 k] w (MakePost (valV 0 false 0 0 0 0) 1 w) := by
  have cN := fun w => Wrap_no (-1) k hn w
  clear hn
  go_enter Tryz.func115, Tryz.ntmps115
  go_wp2_with ((go_at_call 121; (with_reducible refine (cN _).mono ?_); rintro e w' ⟨rfl, rfl⟩))
  exact bodyPost_ret (v := .tuple #[valV 0 false 0 0 0 0, .int .i64 1]) (by simp [results, Tryz.results115, go_sem]) rfl ⟨rfl, (Below.refl _ _).alloc (Nat.le_refl _) _⟩
set_option maxRecDepth 100000 in
set_option maxHeartbeats 800000 in
theorem All_yes (k : Int) (hW : isW k) (w : World) :
    Calls Tryz.prog 115 #[.int .i64 k] w (MakePost (valV k false 0 (wrapI (-1) k) (wrapI (-1) k) 0) 0 w) := by
  have cN := fun w => Wrap_yes (-1) k hW w
  clear hW
  generalize wrapI (-1) k = t at *
  go_enter Tryz.func115, Tryz.ntmps115
  go_wp2_with ((go_at_call 121; (with_reducible refine (cN _).mono ?_); rintro e w' ⟨rfl, rfl⟩))
  exact bodyPost_ret (v := .tuple #[valV k false 0 t t 0, .int .i64 0]) (by simp [results, Tryz.results115, go_sem]) rfl ⟨rfl, (Below.refl _ _).alloc (Nat.le_refl _) _⟩
end Go.Proofs.YtblahbmhbfcggaaGreatDoor
