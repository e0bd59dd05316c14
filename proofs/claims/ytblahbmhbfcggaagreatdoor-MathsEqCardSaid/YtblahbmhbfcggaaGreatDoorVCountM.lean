/- Package val: what a call takes in; Has, Next, Check. -/
import Derived.Test.YtblahbmhbfcggaaGreatDoorVMay
namespace Go.Proofs.YtblahbmhbfcggaaGreatDoor
open Go.ChangeShapes Go.WideShapes Go.ChangeAt Go.RowKit Go.Joins Go.Deep
set_option linter.unusedVariables false

def TakePost (k : Nat) (no : Bool) (l h f b : Nat) (w : World) (e : Ending) (w' : World) : Prop :=
  ∃ sb, e = .returned (.tuple #[.pointer (some ⟨sb, 0, none⟩), .int .i64 0]) ∧ SetNew w' sb k no l h f b ∧ w.heap.size ≤ sb ∧ Below w.heap.size w w'
def TakeNo (w : World) (e : Ending) (w' : World) : Prop := e = .returned (.tuple #[.pointer none, .int .i64 1]) ∧ Below w.heap.size w w'
theorem ok_may {k : Nat} {no : Bool} {l h f b : Nat} (ok : ValOk k no l h f b) (hz : no = true → l = 0 ∧ h = 0 ∧ f = 0 ∧ b = 0) : mayB k no l h f b = true := by
  have hp := ok.pat.hk.pow
  have hW : isW (k : Int) := by rcases ok.pat.hk with rfl | rfl | rfl <;> simp [isW]
  have cast : ∀ n : Nat, n < 2 ^ k → isN (n : Int) (k : Int) := fun n hn => ⟨by omega, by simpa using (by exact_mod_cast hn : (n : Int) < (2 : Int) ^ k)⟩
  unfold mayB
  rw [decide_eq_true_iff]
  unfold mayP
  refine ⟨hW, ?_⟩
  cases no
  · simp only [Bool.false_eq_true, if_false]
    exact ⟨cast l ok.hl, cast h ok.hh, cast f ok.pat.hf, cast b ok.pat.hb, (and_zero (by have := ok.pat.hf; omega) (by have := ok.pat.hb; omega)).2 ok.pat.hbf⟩
  · obtain ⟨rfl, rfl, rfl, rfl⟩ := hz rfl
    simp only [if_true]
    decide
set_option maxRecDepth 100000 in
set_option maxHeartbeats 800000 in
theorem take_yes (k : Nat) (no : Bool) (l h f b : Nat) (hm : mayB k no l h f b = true) (w : World) :
    Calls Tryz.prog 87 #[valV k no l h f b] w (TakePost k no l h f b w) := by
  have d0 := At.new w #[.int .i64 k, .bool no, .int .i64 l, .int .i64 h, .int .i64 f, .int .i64 b] 30
  have hb0 : Below w.heap.size w (w.alloc (.cells #[.int .i64 k, .bool no, .int .i64 l, .int .i64 h, .int .i64 f, .int .i64 b] 30)) := (Below.refl _ _).alloc (Nat.le_refl _) _
  have cM := fun w => mayBe_any k no l h f b w
  rw [hm] at cM
  clear hm
  go_enter Tryz.func87, Tryz.ntmps87
  go_wp2_with fail
  refine (cM _).mono ?_
  rintro e w1 ⟨rfl, hb1⟩
  have d1 := At.below' hb1 d0
  have k0 : w1.cell? ⟨w.heap.size, 0, none⟩ = some (.int .i64 k) := d1.cell 0 rfl
  have k1 : w1.cell? ⟨w.heap.size, 1, none⟩ = some (.bool no) := d1.cell 1 rfl
  have k2 : w1.cell? ⟨w.heap.size, 2, none⟩ = some (.int .i64 l) := d1.cell 2 rfl
  have k3 : w1.cell? ⟨w.heap.size, 3, none⟩ = some (.int .i64 h) := d1.cell 3 rfl
  have k4 : w1.cell? ⟨w.heap.size, 4, none⟩ = some (.int .i64 f) := d1.cell 4 rfl
  have k5 : w1.cell? ⟨w.heap.size, 5, none⟩ = some (.int .i64 b) := d1.cell 5 rfl
  have hbE := hb0.trans (hb1.mono hb0.size)
  clear d0 d1 hb0 hb1
  go_wp2_with fail
  go_ret2
  exact ⟨_, rfl, At.new w1 (setC k no l h f b 0 0 none) 150, hbE.size, hbE.alloc hbE.size _⟩
set_option maxRecDepth 100000 in
set_option maxHeartbeats 800000 in
theorem take_no (k : Int) (no : Bool) (l h f b : Int) (hm : mayB k no l h f b = false) (w : World) :
    Calls Tryz.prog 87 #[valV k no l h f b] w (TakeNo w) := by
  have hb0 : Below w.heap.size w (w.alloc (.cells #[.int .i64 k, .bool no, .int .i64 l, .int .i64 h, .int .i64 f, .int .i64 b] 30)) := (Below.refl _ _).alloc (Nat.le_refl _) _
  have cM := fun w => mayBe_any k no l h f b w
  rw [hm] at cM
  clear hm
  go_enter Tryz.func87, Tryz.ntmps87
  go_wp2_with fail
  refine (cM _).mono ?_
  rintro e w1 ⟨rfl, hb1⟩
  have hbE := hb0.trans (hb1.mono hb0.size)
  clear hb0 hb1
  go_wp2_with fail
  go_ret2
  exact ⟨rfl, hbE⟩
set_option maxRecDepth 100000 in
set_option maxHeartbeats 800000 in
theorem takeWith_no (k : Int) (no : Bool) (l h f b n : Int) (hm : mayB k no l h f b = false) (w : World) :
    Calls Tryz.prog 152 #[valV k no l h f b, .int .i64 n] w (TakeNo w) := by
  have hb0 : Below w.heap.size w (w.alloc (.cells #[.int .i64 k, .bool no, .int .i64 l, .int .i64 h, .int .i64 f, .int .i64 b] 30)) := (Below.refl _ _).alloc (Nat.le_refl _) _
  have cM := fun w => take_no k no l h f b hm w
  clear hm
  go_enter Tryz.func152, Tryz.ntmps152
  go_wp2_with fail
  refine (cM _).mono ?_
  rintro e w1 ⟨rfl, hb1⟩
  have hbE := hb0.trans (hb1.mono hb0.size)
  clear hb0 hb1
  go_wp2_with fail
  go_ret2
  exact ⟨rfl, hbE⟩
set_option maxRecDepth 100000 in
set_option maxHeartbeats 800000 in
theorem takeWith_out (k : Nat) (no : Bool) (l h f b : Nat) (n : Int) (hm : mayB k no l h f b = true) (hn : ¬ isN n k) (w : World) :
    Calls Tryz.prog 152 #[valV k no l h f b, .int .i64 n] w (TakeNo w) := by
  have d0 := At.new w #[.int .i64 k, .bool no, .int .i64 l, .int .i64 h, .int .i64 f, .int .i64 b] 30
  have hb0 : Below w.heap.size w (w.alloc (.cells #[.int .i64 k, .bool no, .int .i64 l, .int .i64 h, .int .i64 f, .int .i64 b] 30)) := (Below.refl _ _).alloc (Nat.le_refl _) _
  have cM := fun w => take_yes k no l h f b hm w
  have cN := fun w => isNumber_no n k (fun h => hn h.2) w
  clear hm hn
  go_enter Tryz.func152, Tryz.ntmps152
  go_wp2_with fail
  refine (cM _).mono ?_
  rintro e w1 ⟨sb, rfl, hS, hsb, hb1⟩
  have d1 := At.below' hb1 d0
  have k0 : w1.cell? ⟨w.heap.size, 0, none⟩ = some (.int .i64 k) := d1.cell 0 rfl
  have hbE := hb0.trans (hb1.mono hb0.size)
  clear d0 d1 hb0 hb1 hS
  go_wp2_with ((go_at_call 88; (with_reducible refine (cN _).mono ?_); rintro e w' ⟨rfl, rfl⟩))
  go_ret2
  exact ⟨rfl, hbE⟩
set_option maxRecDepth 100000 in
set_option maxHeartbeats 800000 in
theorem takeWith_yes (k : Nat) (no : Bool) (l h f b : Nat) (n : Int) (hm : mayB k no l h f b = true) (hW : isW k) (hn : isN n k) (w : World) :
    Calls Tryz.prog 152 #[valV k no l h f b, .int .i64 n] w (TakePost k no l h f b w) := by
  have d0 := At.new w #[.int .i64 k, .bool no, .int .i64 l, .int .i64 h, .int .i64 f, .int .i64 b] 30
  have hb0 : Below w.heap.size w (w.alloc (.cells #[.int .i64 k, .bool no, .int .i64 l, .int .i64 h, .int .i64 f, .int .i64 b] 30)) := (Below.refl _ _).alloc (Nat.le_refl _) _
  have cM := fun w => take_yes k no l h f b hm w
  have cN := fun w => isNumber_yes n k hW hn w
  clear hm hn hW
  go_enter Tryz.func152, Tryz.ntmps152
  go_wp2_with fail
  refine (cM _).mono ?_
  rintro e w1 ⟨sb, rfl, hS, hsb, hb1⟩
  have d1 := At.below' hb1 d0
  have k0 : w1.cell? ⟨w.heap.size, 0, none⟩ = some (.int .i64 k) := d1.cell 0 rfl
  have hbE := hb0.trans (hb1.mono hb0.size)
  have hsb2 : w.heap.size ≤ sb := by have := hb0.size; omega
  clear d0 d1 hb0 hb1 hsb
  go_wp2_with ((go_at_call 88; (with_reducible refine (cN _).mono ?_); rintro e w' ⟨rfl, rfl⟩))
  go_ret2
  exact ⟨sb, rfl, hS, hsb2, hbE⟩

/-- the members of a set -/
def MemV (k : Nat) (no : Bool) (l h f b : Nat) (z : Nat) : Prop := no = false ∧ Mem k l h f b z
theorem memL_memV {k l h f b z : Nat} {no : Bool} {L : Spans} (hl : Laid k f b (spansOf k no l h) L) : MemL k f b L z ↔ MemV k no l h f b z := by
  cases no
  · unfold MemV; rw [memL_mem hl]; simp
  · unfold MemV; simp; exact memL_none hl
theorem NextRes.congr {M N : Nat → Prop} {n : Nat} {r : Int} {is : Bool} (h : NextRes M n r is) (e : ∀ z, M z ↔ N z) : NextRes N n r is := by
  rcases h with ⟨h1, m, h2, h3, h4, h5⟩ | ⟨h1, h2, h3⟩
  · exact Or.inl ⟨h1, m, h2, h3, (e m).1 h4, fun z hz hN => h5 z hz ((e z).2 hN)⟩
  · exact Or.inr ⟨h1, h2, fun z hz hN => h3 z hz ((e z).2 hN)⟩
/-- what the layout's next tells, behind the asking -/
def AskPost (k : Nat) (no : Bool) (l h f b n : Nat) (B : Nat) (w : World) (e : Ending) (w' : World) : Prop := ∃ r is, NextRes (MemV k no l h f b) n r is ∧ e = .returned (.tuple #[.int .i64 r, .bool is]) ∧ Below B w w'
theorem next_set (sb lo bl k : Nat) (no : Bool) (l h f b n : Nat) (ok : ValOk k no l h f b) (hn : n < 2 ^ k) (w : World) (hS : SetLaid w sb lo bl k no l h f b) :
    Calls Tryz.prog 153 #[.pointer (some ⟨bl, 0, none⟩), .int .i64 n] w (AskPost k no l h f b n w.heap.size w) := by
  obtain ⟨hA, ⟨L, hl, hlay⟩, _⟩ := hS
  refine (next_any lo bl k f b n L _ _ w ok.pat hn hl (hl.rise rising_spansOf) hlay).mono ?_
  rintro e w' ⟨r, is, hr, he, hb⟩
  exact ⟨r, is, hr.congr (fun z => memL_memV hl), he, hb⟩

def HasOk (k : Nat) (no : Bool) (l h f b n : Nat) (w : World) (e : Ending) (w' : World) : Prop := ∃ is : Bool, (is = true ↔ MemV k no l h f b n) ∧ e = .returned (.tuple #[.bool is, .int .i64 0]) ∧ Below w.heap.size w w'
def HasNo (w : World) (e : Ending) (w' : World) : Prop := e = .returned (.tuple #[.bool false, .int .i64 1]) ∧ Below w.heap.size w w'
def NextOk (k : Nat) (no : Bool) (l h f b n : Nat) (w : World) (e : Ending) (w' : World) : Prop :=
  ((∃ m : Nat, n ≤ m ∧ MemV k no l h f b m ∧ (∀ z, n ≤ z → MemV k no l h f b z → m ≤ z) ∧ e = .returned (.tuple #[.int .i64 m, .int .i64 0])) ∨ ((∀ z, n ≤ z → ¬ MemV k no l h f b z) ∧ e = .returned (.tuple #[.int .i64 0, .int .i64 3]))) ∧ Below w.heap.size w w'
def NextNo (w : World) (e : Ending) (w' : World) : Prop := e = .returned (.tuple #[.int .i64 0, .int .i64 1]) ∧ Below w.heap.size w w'
end Go.Proofs.YtblahbmhbfcggaaGreatDoor

/- How many members a layout has, as far as none and one. Plain mathematics. -/
namespace Go.Proofs.YtblahbmhbfcggaaGreatDoor
open Go.RowKit

theorem cmpF_mono (m : Nat) : ∀ (f x y : Nat), (∀ i, f.testBit i = false → x.testBit i = y.testBit i) → x < y → y < 2 ^ m → cmpF m f x < cmpF m f y := by
  induction m with
  | zero => intro f x y _ h1 h2; simp at h2; omega
  | succ m ih =>
    intro f x y hf h1 h2
    rw [Nat.pow_succ] at h2
    have hf' : ∀ i, (f / 2).testBit i = false → (x / 2).testBit i = (y / 2).testBit i := fun i hi => by
      rw [← Nat.testBit_succ, ← Nat.testBit_succ]
      exact hf (i + 1) (by rw [Nat.testBit_succ]; exact hi)
    unfold cmpF
    by_cases o : f % 2 = 1
    · rw [if_pos o, if_pos o]
      by_cases e : x / 2 = y / 2
      · rw [e]; omega
      · have := ih (f / 2) (x / 2) (y / 2) hf' (by omega) (by omega)
        omega
    · rw [if_neg o, if_neg o]
      have h0 := hf 0 (by rw [testBit_zero']; simpa using o)
      rw [testBit_zero', testBit_zero'] at h0
      have e : x % 2 = y % 2 := by
        by_cases hx : x % 2 = 1
        · rw [hx] at h0; simp at h0; omega
        · have : x % 2 = 0 := by omega
          rw [this] at h0; simp at h0; omega
      exact ih (f / 2) (x / 2) (y / 2) hf' (by omega) (by omega)
theorem cmpr_mono {f b x y : Nat} (hx : Fits f b x) (hy : Fits f b y) (h : x < y) (hy2 : y < 2 ^ 32) : cmpr f x < cmpr f y :=
  cmpF_mono 32 f x y (fun i hi => by rw [hx i hi, hy i hi]) h hy2
theorem sumR_cons (f : Nat) (t : Nat × Nat) (L : Spans) : sumR f (t :: L) = ((cmpr f t.2 : Int) - cmpr f t.1 + 1) + sumR f L := by unfold sumR; simp
theorem term_ge {k f b : Nat} {t : Nat × Nat} (hk : k ≤ 32) (h : t.1 ≤ t.2 ∧ t.2 < 2 ^ k ∧ Fits f b t.1 ∧ Fits f b t.2) : 1 ≤ (cmpr f t.2 : Int) - cmpr f t.1 + 1 ∧ ((cmpr f t.2 : Int) - cmpr f t.1 + 1 = 1 → t.1 = t.2) := by
  have hp : (2 : Nat) ^ k ≤ 2 ^ 32 := Nat.pow_le_pow_right (by decide) hk
  by_cases e : t.1 = t.2
  · rw [e]; exact ⟨by omega, fun _ => rfl⟩
  · have := cmpr_mono h.2.2.1 h.2.2.2 (by omega) (by omega)
    exact ⟨by omega, fun h => by omega⟩
theorem sumR_ge {k f b : Nat} {L : Spans} (hk : k ≤ 32) (h : ∀ t ∈ L, t.1 ≤ t.2 ∧ t.2 < 2 ^ k ∧ Fits f b t.1 ∧ Fits f b t.2) : (L.length : Int) ≤ sumR f L := by
  induction L with
  | nil => simp [sumR]
  | cons t L ih =>
    have h1 := (term_ge hk (h t (by simp))).1
    have h2 := ih (fun t ht => h t (by simp [ht]))
    rw [sumR_cons, List.length_cons]
    omega
theorem end_mem {k f b : Nat} {L : Spans} {t : Nat × Nat} (h : ∀ t ∈ L, t.1 ≤ t.2 ∧ t.2 < 2 ^ k ∧ Fits f b t.1 ∧ Fits f b t.2) (ht : t ∈ L) : MemL k f b L t.1 ∧ MemL k f b L t.2 := by
  obtain ⟨h1, h2, h3, h4⟩ := h t ht
  exact ⟨⟨by omega, h3, t, ht, Nat.le_refl _, h1⟩, ⟨h2, h4, t, ht, h1, Nat.le_refl _⟩⟩
theorem sumR_zero {k f b : Nat} {S L : Spans} (hk : k ≤ 32) (hl : Laid k f b S L) : sumR f L = 0 ↔ ∀ z, ¬ MemL k f b L z := by
  constructor
  · intro h z hM
    have := sumR_ge hk hl.ends
    have h0 : L = [] := List.eq_nil_of_length_eq_zero (by omega)
    obtain ⟨_, _, t, ht, _⟩ := hM
    rw [h0] at ht
    simp at ht
  · intro h
    cases L with
    | nil => rfl
    | cons t L => exact absurd (end_mem hl.ends (t := t) (by simp)).1 (h _)
theorem sumR_one {k f b : Nat} {S L : Spans} (hk : k ≤ 32) (hl : Laid k f b S L) (hr : Rising L) : sumR f L = 1 ↔ ∃ (h0 : 0 < L.length), ∀ z, MemL k f b L z ↔ z = (L[0]'h0).1 := by
  constructor
  · intro h
    have hge := sumR_ge hk hl.ends
    match L, hl, h, hge with
    | [], _, h, _ => simp [sumR] at h
    | [t], hl, h, _ =>
      have h1 := term_ge hk (hl.ends t (by simp))
      rw [sumR_cons] at h
      have h2 := h1.2 (by simpa [sumR] using h)
      refine ⟨by simp, fun z => ⟨fun hM => ?_, fun e => ?_⟩⟩
      · obtain ⟨_, _, t', ht', h3, h4⟩ := hM
        simp at ht'
        subst ht'
        show z = t'.1
        omega
      · rw [e]
        exact (end_mem hl.ends (by simp)).1
    | t :: u :: L, hl, h, hge =>
      rw [List.length_cons, List.length_cons] at hge
      omega
  · rintro ⟨h0, h⟩
    match L, hl, hr, h0, h with
    | [], _, _, h0, _ => simp at h0
    | [t], hl, _, _, h =>
      have h2 := (h t.2).1 (end_mem hl.ends (by simp)).2
      have h2' : t.2 = t.1 := h2
      rw [sumR_cons, h2']
      simp [sumR]
    | t :: u :: L, hl, hr, _, h =>
      exfalso
      have h2 := (h u.1).1 (end_mem hl.ends (t := u) (by simp)).1
      have h2' : u.1 = t.1 := h2
      have h3 := hl.ends t (by simp)
      have h4 := (List.pairwise_cons.1 hr).1 u (by simp)
      omega
end Go.Proofs.YtblahbmhbfcggaaGreatDoor
